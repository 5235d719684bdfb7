/- Plain numbers behind layer 6 (field): data as numbers, as digits, as marks. Conditions: none but those that each row names. -/
import Derived.Test.YtjkfpnplocmhiaaWordNum
namespace Go.Proofs.Ytjkfpnplocmhiaa.Field
open Go.ChangeShapes Go.WideShapes Go.ChangeAt Go.RowKit Num Word

theorem u32_and15 (x : Int) : bits .and .u32 x 15 = x % 16 := and_low .u32 4 (by decide) (fun n h g => wraps_u32 n h (by omega)) x _ rfl
theorem i64_and19 (x : Int) : bits .and .i64 x 524287 = x % 524288 := and_low .i64 19 (by decide) (fun n h g => by rw [IntKind.wrap_i64]; omega) x _ rfl
attribute [go_sem] u32_and15 i64_and19

/-- The data of a number, and the number of data; each with its error. -/
def pnN (n : Int) : Int := if -262144 ≤ n ∧ n < 262144 then n % 524288 else 0
def pnE (n : Int) : Int := if -262144 ≤ n ∧ n < 262144 then 0 else 9
def nmN (d : Int) : Int := if d < 262144 then d else if d < 524288 then d - 524288 else 0
def nmE (d : Int) : Int := if d < 524288 then 0 else 9

/-- Data of digits. -/
def pd5 (n : Int) : Int := n % 10 + n / 10 % 10 * 16 + n / 100 % 10 * 256 + n / 1000 % 10 * 4096 + n / 10000 % 10 * 65536
def pdN (n : Int) : Int := if 0 ≤ n ∧ n ≤ 79999 then pd5 n else 0
def pdE (n : Int) : Int := if 0 ≤ n ∧ n ≤ 79999 then 0 else 9
/-- Digits of data. -/
def good (d : Int) : Prop := d % 16 ≤ 9 ∧ d / 16 % 16 ≤ 9 ∧ d / 256 % 16 ≤ 9 ∧ d / 4096 % 16 ≤ 9
instance (d : Int) : Decidable (good d) := by unfold good; infer_instance
def dg5 (d : Int) : Int := d % 16 + d / 16 % 16 * 10 + d / 256 % 16 * 100 + d / 4096 % 16 * 1000 + d / 65536 % 16 * 10000
def dgN (d : Int) : Int := if d < 524288 ∧ good d then dg5 d else 0
def dgE (d : Int) : Int := if d < 524288 then (if good d then 0 else 5) else 9

theorem pn_yes {n : Int} (h : -262144 ≤ n ∧ n < 262144) : pnN n = n % 524288 ∧ pnE n = 0 := by unfold pnN pnE; rw [if_pos h, if_pos h]; exact ⟨rfl, rfl⟩
theorem pn_no {n : Int} (h : ¬ (-262144 ≤ n ∧ n < 262144)) : pnN n = 0 ∧ pnE n = 9 := by unfold pnN pnE; rw [if_neg h, if_neg h]; exact ⟨rfl, rfl⟩
theorem nm_no {d : Int} (h : ¬ d < 524288) : nmN d = 0 ∧ nmE d = 9 := by unfold nmN nmE; rw [if_neg (by omega), if_neg h, if_neg h]; exact ⟨rfl, rfl⟩
theorem nm_yes {d : Int} (h : d < 524288) (h0 : 0 ≤ d) : nmE d = 0 ∧ -262144 ≤ nmN d ∧ nmN d < 262144 ∧ nmN d % 524288 = d := by
  unfold nmN nmE; rw [if_pos h]; split
  · omega
  · omega
theorem nm_pn {n : Int} (h : -262144 ≤ n ∧ n < 262144) : nmN (n % 524288) = n ∧ nmE (n % 524288) = 0 := by
  unfold nmN nmE; rw [if_pos (show n % 524288 < 524288 by omega), if_pos (show n % 524288 < 524288 by omega)]; split <;> omega
theorem pd_yes {n : Int} (h : 0 ≤ n ∧ n ≤ 79999) : pdN n = pd5 n ∧ pdE n = 0 := by unfold pdN pdE; rw [if_pos h, if_pos h]; exact ⟨rfl, rfl⟩
theorem pd_no {n : Int} (h : ¬ (0 ≤ n ∧ n ≤ 79999)) : pdN n = 0 ∧ pdE n = 9 := by unfold pdN pdE; rw [if_neg h, if_neg h]; exact ⟨rfl, rfl⟩
theorem dg_yes {d : Int} (h : d < 524288) (g : good d) : dgN d = dg5 d ∧ dgE d = 0 := by unfold dgN dgE; rw [if_pos ⟨h, g⟩, if_pos h, if_pos g]; exact ⟨rfl, rfl⟩
theorem dg_bad {d : Int} (h : d < 524288) (g : ¬ good d) : dgN d = 0 ∧ dgE d = 5 := by unfold dgN dgE; rw [if_neg (fun q => g q.2), if_pos h, if_neg g]; exact ⟨rfl, rfl⟩
theorem dg_no {d : Int} (h : ¬ d < 524288) : dgN d = 0 ∧ dgE d = 9 := by unfold dgN dgE; rw [if_neg (fun q => h q.1), if_neg h]; exact ⟨rfl, rfl⟩
theorem tens {n : Int} (h : 0 ≤ n ∧ n ≤ 79999) : ∃ a b c d e : Int, (0 ≤ a ∧ a ≤ 9) ∧ (0 ≤ b ∧ b ≤ 9) ∧ (0 ≤ c ∧ c ≤ 9) ∧ (0 ≤ d ∧ d ≤ 9) ∧ (0 ≤ e ∧ e ≤ 7) ∧ n = a + 10 * b + 100 * c + 1000 * d + 10000 * e :=
  ⟨n % 10, n / 10 % 10, n / 10 / 10 % 10, n / 10 / 10 / 10 % 10, n / 10 / 10 / 10 / 10, by omega, by omega, by omega, by omega, by omega, by omega⟩
theorem sixteens {n : Int} (h0 : 0 ≤ n) (h : n < 524288) : ∃ a b c d e : Int, (0 ≤ a ∧ a ≤ 15) ∧ (0 ≤ b ∧ b ≤ 15) ∧ (0 ≤ c ∧ c ≤ 15) ∧ (0 ≤ d ∧ d ≤ 15) ∧ (0 ≤ e ∧ e ≤ 7) ∧ n = a + 16 * b + 256 * c + 4096 * d + 65536 * e :=
  ⟨n % 16, n / 16 % 16, n / 16 / 16 % 16, n / 16 / 16 / 16 % 16, n / 16 / 16 / 16 / 16, by omega, by omega, by omega, by omega, by omega, by omega⟩
section
variable (a b c d e : Int)
theorem ten_eq (ha : 0 ≤ a ∧ a ≤ 9) (hb : 0 ≤ b ∧ b ≤ 9) (hc : 0 ≤ c ∧ c ≤ 9) (hd : 0 ≤ d ∧ d ≤ 9) (he : 0 ≤ e ∧ e ≤ 7) :
    pd5 (a + 10 * b + 100 * c + 1000 * d + 10000 * e) = a + 16 * b + 256 * c + 4096 * d + 65536 * e := by
  unfold pd5
  have e1 : (a + 10 * b + 100 * c + 1000 * d + 10000 * e) % 10 = a := by omega
  have e2 : (a + 10 * b + 100 * c + 1000 * d + 10000 * e) / 10 % 10 = b := by omega
  have e3 : (a + 10 * b + 100 * c + 1000 * d + 10000 * e) / 100 % 10 = c := by omega
  have e4 : (a + 10 * b + 100 * c + 1000 * d + 10000 * e) / 1000 % 10 = d := by omega
  have e5 : (a + 10 * b + 100 * c + 1000 * d + 10000 * e) / 10000 % 10 = e := by omega
  rw [e1, e2, e3, e4, e5]; omega
theorem sixteen_digits (ha : 0 ≤ a ∧ a ≤ 15) (hb : 0 ≤ b ∧ b ≤ 15) (hc : 0 ≤ c ∧ c ≤ 15) (hd : 0 ≤ d ∧ d ≤ 15) (he : 0 ≤ e ∧ e ≤ 7) :
    (a + 16 * b + 256 * c + 4096 * d + 65536 * e) % 16 = a ∧ (a + 16 * b + 256 * c + 4096 * d + 65536 * e) / 16 % 16 = b ∧ (a + 16 * b + 256 * c + 4096 * d + 65536 * e) / 256 % 16 = c ∧
    (a + 16 * b + 256 * c + 4096 * d + 65536 * e) / 4096 % 16 = d ∧ (a + 16 * b + 256 * c + 4096 * d + 65536 * e) / 65536 % 16 = e :=
  ⟨by omega, by omega, by omega, by omega, by omega⟩
theorem sixteen_eq (ha : 0 ≤ a ∧ a ≤ 15) (hb : 0 ≤ b ∧ b ≤ 15) (hc : 0 ≤ c ∧ c ≤ 15) (hd : 0 ≤ d ∧ d ≤ 15) (he : 0 ≤ e ∧ e ≤ 7) :
    dg5 (a + 16 * b + 256 * c + 4096 * d + 65536 * e) = a + 10 * b + 100 * c + 1000 * d + 10000 * e := by
  obtain ⟨e1, e2, e3, e4, e5⟩ := sixteen_digits a b c d e ha hb hc hd he
  unfold dg5
  rw [e1, e2, e3, e4, e5]; omega
theorem sixteen_good (ha : 0 ≤ a ∧ a ≤ 15) (hb : 0 ≤ b ∧ b ≤ 15) (hc : 0 ≤ c ∧ c ≤ 15) (hd : 0 ≤ d ∧ d ≤ 15) (he : 0 ≤ e ∧ e ≤ 7) :
    good (a + 16 * b + 256 * c + 4096 * d + 65536 * e) ↔ a ≤ 9 ∧ b ≤ 9 ∧ c ≤ 9 ∧ d ≤ 9 := by
  obtain ⟨e1, e2, e3, e4, e5⟩ := sixteen_digits a b c d e ha hb hc hd he
  unfold good
  rw [e1, e2, e3, e4]
end
theorem pd5_in {n : Int} (h : 0 ≤ n ∧ n ≤ 79999) : 0 ≤ pd5 n ∧ pd5 n < 524288 := by
  obtain ⟨a, b, c, d, e, ha, hb, hc, hd, he, rfl⟩ := tens h
  rw [ten_eq a b c d e ha hb hc hd he]; omega
theorem pd5_good {n : Int} (h : 0 ≤ n ∧ n ≤ 79999) : good (pd5 n) := by
  obtain ⟨a, b, c, d, e, ha, hb, hc, hd, he, rfl⟩ := tens h
  rw [ten_eq a b c d e ha hb hc hd he, sixteen_good a b c d e (by omega) (by omega) (by omega) (by omega) he]; omega
theorem dg5_pd5 {n : Int} (h : 0 ≤ n ∧ n ≤ 79999) : dg5 (pd5 n) = n := by
  obtain ⟨a, b, c, d, e, ha, hb, hc, hd, he, rfl⟩ := tens h
  rw [ten_eq a b c d e ha hb hc hd he, sixteen_eq a b c d e (by omega) (by omega) (by omega) (by omega) he]
theorem dg5_in {d : Int} (h : d < 524288) (h0 : 0 ≤ d) (g : good d) : 0 ≤ dg5 d ∧ dg5 d ≤ 79999 := by
  obtain ⟨a, b, c, d, e, ha, hb, hc, hd, he, rfl⟩ := sixteens h0 h
  rw [sixteen_good a b c d e ha hb hc hd he] at g
  rw [sixteen_eq a b c d e ha hb hc hd he]; omega
theorem pd5_dg5 {d : Int} (h : d < 524288) (h0 : 0 ≤ d) (g : good d) : pd5 (dg5 d) = d := by
  obtain ⟨a, b, c, d, e, ha, hb, hc, hd, he, rfl⟩ := sixteens h0 h
  rw [sixteen_good a b c d e ha hb hc hd he] at g
  rw [sixteen_eq a b c d e ha hb hc hd he, ten_eq a b c d e (by omega) (by omega) (by omega) (by omega) he]

/-- The marks from place i on, m of them, as a number. -/
def tm (L : Nat → Bool) : Nat → Nat → Int
  | _, 0 => 0
  | i, m + 1 => (if L i then 1 else 0) + 2 * tm L (i + 1) m
theorem tm_last (L : Nat → Bool) : ∀ (m i : Nat), tm L i (m + 1) = tm L i m + (if L (i + m) then 1 else 0) * 2 ^ m
  | 0, i => by simp [tm]
  | m + 1, i => by
    rw [tm, tm_last L m (i + 1), tm, show i + 1 + m = i + (m + 1) by omega, Int.pow_succ]
    split <;> split <;> omega
theorem tm_in (L : Nat → Bool) : ∀ (m i : Nat), 0 ≤ tm L i m ∧ tm L i m < 2 ^ m
  | 0, i => by simp [tm]
  | m + 1, i => by
    have := tm_in L m (i + 1)
    rw [tm, Int.pow_succ]
    split <;> omega

/-- Bit i of data. -/
def bit (d : Int) (i : Nat) : Bool := d / 2 ^ i % 2 == 1
theorem halves (x P : Int) (hP : 0 < P) : (if (x % 2 == 1) = true then (1 : Int) else 0) + 2 * (x / 2 % P) = x % (2 * P) := by
  have e1 := Int.mul_ediv_add_emod x 2
  have e2 := Int.mul_ediv_add_emod (x / 2) P
  have b1 := Int.emod_nonneg (x / 2) (show P ≠ 0 by omega)
  have b2 := Int.emod_lt_of_pos (x / 2) hP
  have b3 : (if (x % 2 == 1) = true then (1 : Int) else 0) = x % 2 := by
    rcases Int.emod_two_eq x with h | h <;> simp [h]
  rw [b3]
  have b4 : 0 ≤ x % 2 ∧ x % 2 < 2 := by omega
  have e3 : x = (x % 2 + 2 * (x / 2 % P)) + 2 * P * (x / 2 / P) := by
    rw [Int.mul_assoc]
    generalize P * (x / 2 / P) = y at *
    omega
  conv => rhs; rw [e3]
  rw [Int.add_mul_emod_self_left]
  exact (Int.emod_eq_of_lt (by omega) (by omega)).symm
theorem tm_bit (d : Int) (h0 : 0 ≤ d) : ∀ (m i : Nat), tm (bit d) i m = d / 2 ^ i % 2 ^ m
  | 0, i => by simp [tm]
  | m + 1, i => by
    rw [tm, tm_bit d h0 m (i + 1), Int.pow_succ, ← Int.ediv_ediv_of_nonneg (Int.le_of_lt (Int.pow_pos (by decide)))]
    unfold bit
    rw [show (2 : Int) ^ (m + 1) = 2 * 2 ^ m by rw [Int.pow_succ, Int.mul_comm]]
    exact halves _ _ (Int.pow_pos (by decide))
theorem tm_ediv (L : Nat → Bool) : ∀ (i m j : Nat), tm L j (i + m) / 2 ^ i = tm L (j + i) m
  | 0, m, j => by simp
  | i + 1, m, j => by
    rw [show i + 1 + m = (i + m) + 1 by omega, tm, show (2 : Int) ^ (i + 1) = 2 * 2 ^ i by rw [Int.pow_succ, Int.mul_comm], ← Int.ediv_ediv_of_nonneg (by decide), show j + (i + 1) = j + 1 + i by omega, ← tm_ediv L i m (j + 1)]
    congr 1
    split <;> omega
theorem bit_tm (L : Nat → Bool) (m i : Nat) (h : i < m) : bit (tm L 0 m) i = L i := by
  unfold bit
  rw [show m = i + ((m - i - 1) + 1) by omega, tm_ediv L i _ 0, tm, Nat.zero_add]
  cases L i
  · simp
  · simp
theorem bit_over (L : Nat → Bool) (m i : Nat) (h : m ≤ i) : bit (tm L 0 m) i = false := by
  unfold bit
  have b := tm_in L m 0
  have hp : (2 : Int) ^ m ≤ 2 ^ i := by exact_mod_cast Nat.pow_le_pow_right (n := 2) (by decide) h
  rw [Int.ediv_eq_zero_of_lt b.1 (by omega)]
  rfl

end Go.Proofs.Ytjkfpnplocmhiaa.Field
