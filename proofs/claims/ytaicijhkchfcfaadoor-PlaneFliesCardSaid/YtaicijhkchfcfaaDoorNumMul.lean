/- Contracts of Mul and Div of layer 1 (num) and of the document's own answers for them. Conditions: the arguments are int64 numbers. -/
import Derived.Test.YtaicijhkchfcfaaDoorNum
namespace Go.Proofs.YtaicijhkchfcfaaDoor.Num
open Go.ChangeShapes Go.WideShapes Go.ChangeAt Go.RowKit

/-- The product, or ErrRange: the two results. -/
def mulN (p : Int) : Int := if -9223372036854775808 ≤ p ∧ p ≤ 9223372036854775807 then p else 0
def mulE (p : Int) : Int := if -9223372036854775808 ≤ p ∧ p ≤ 9223372036854775807 then 0 else 9
theorem mulN_in {p : Int} (h1 : -9223372036854775808 ≤ p) (h2 : p ≤ 9223372036854775807) : mulN p = p := if_pos ⟨h1, h2⟩
theorem mulN_out {p : Int} (h : p < -9223372036854775808 ∨ 9223372036854775807 < p) : mulN p = 0 := if_neg (by omega)
theorem mulE_in {p : Int} (h1 : -9223372036854775808 ≤ p) (h2 : p ≤ 9223372036854775807) : mulE p = 0 := if_pos ⟨h1, h2⟩
theorem mulE_out {p : Int} (h : p < -9223372036854775808 ∨ 9223372036854775807 < p) : mulE p = 9 := if_neg (by omega)

/-- Does the product run over? -/
def over (p : Int) : Bool := decide (p < -9223372036854775808 ∨ 9223372036854775807 < p)


theorem quo_pos (x y : Int) (hx : 0 ≤ x) : x.tdiv y = x / y := Int.tdiv_eq_ediv_of_nonneg hx
/-- What the four tests of productRunsOver say. -/
theorem over_pp {a b : Int} (ha : 0 < a) (hb : 0 < b) : over (a * b) = decide (9223372036854775807 / b < a) := by
  unfold over
  rw [decide_eq_decide, Int.ediv_lt_iff_lt_mul hb]
  have : 0 < a * b := Int.mul_pos ha hb
  omega
theorem over_pn {a b : Int} (ha : 0 < a) (hb : b < 0) : over (a * b) = decide (b < -(9223372036854775808 / a)) := by
  unfold over
  have e1 : (b < -(9223372036854775808 / a)) ↔ (9223372036854775808 / a < -b) := by omega
  rw [decide_eq_decide, e1, Int.ediv_lt_iff_lt_mul ha]
  have : 0 < a * (-b) := Int.mul_pos ha (by omega)
  rw [Int.mul_neg] at this
  have e2 : -b * a = -(a * b) := by rw [Int.neg_mul, Int.mul_comm]
  rw [e2]
  omega
theorem over_nn {a b : Int} (ha : a < 0) (hb : b < 0) : over (a * b) = decide (a < -(9223372036854775807 / -b)) := by
  unfold over
  have e1 : (a < -(9223372036854775807 / -b)) ↔ (9223372036854775807 / -b < -a) := by omega
  rw [decide_eq_decide, e1, Int.ediv_lt_iff_lt_mul (by omega)]
  have : 0 < -a * (-b) := Int.mul_pos (by omega) (by omega)
  rw [Int.neg_mul_neg] at *
  omega
theorem over_zero_l (b : Int) : over (0 * b) = false := by simp [over]
theorem over_zero_r (a : Int) : over (a * 0) = false := by simp [over]

theorem over_true {p : Int} (h : over p = true) : p < -9223372036854775808 ∨ 9223372036854775807 < p := by simpa [over] using h
theorem over_false {p : Int} (h : over p = false) : -9223372036854775808 ≤ p ∧ p ≤ 9223372036854775807 := by simpa [over] using h

theorem wrap64_def (x : Int) : ∃ k : Int, wrap64 x = x - 18446744073709551616 * k ∧ -9223372036854775808 ≤ wrap64 x ∧ wrap64 x ≤ 9223372036854775807 := by
  refine ⟨(x + 9223372036854775808) / 18446744073709551616, ?_⟩
  have e : wrap64 x = (x + 9223372036854775808) % 18446744073709551616 - 9223372036854775808 := by unfold wrap64; rfl
  rw [e]
  omega
theorem tdiv_abs_le (x y : Int) : (x.tdiv y).natAbs ≤ x.natAbs := by
  rw [Int.natAbs_tdiv]; exact Nat.div_le_self _ _
/-- ref.Mul's test. -/
theorem back_in {a b : Int} (hb0 : b ≠ 0) (ha : In a) (h1 : -9223372036854775808 ≤ a * b) (h2 : a * b ≤ 9223372036854775807) : (wrap64 ((wrap64 (a * b)).tdiv b) != a) = false := by
  rw [wrap_in _ ⟨h1, h2⟩, Int.mul_tdiv_cancel _ hb0, wrap_in _ ha]; simp
theorem back_out {a b : Int} (hb1 : b ≠ -1) (hb0 : b ≠ 0) (hb : In b) (h : a * b < -9223372036854775808 ∨ 9223372036854775807 < a * b) : (wrap64 ((wrap64 (a * b)).tdiv b) != a) = true := by
  obtain ⟨k, hk, l1, l2⟩ := wrap64_def (a * b)
  generalize wrap64 (a * b) = c at *
  have hq := Int.tdiv_mul_add_tmod c b
  have hr : (c.tmod b).natAbs < b.natAbs := by rw [Int.natAbs_tmod]; exact Nat.mod_lt _ (by omega)
  have hc : -9223372036854775808 ≤ c.tdiv b ∧ c.tdiv b ≤ 9223372036854775807 := by
    have h2 : (c.tdiv b).natAbs ≤ c.natAbs := tdiv_abs_le c b
    rcases Int.lt_or_le (c.tdiv b) 9223372036854775808 with h3 | h3
    · omega
    · exfalso
      by_cases h8 : b = 1
      · subst h8; rw [Int.tdiv_one] at h3; omega
      have h5 : (c.tdiv b).natAbs = c.natAbs / b.natAbs := Int.natAbs_tdiv c b
      have h6 : b.natAbs ≥ 2 := by omega
      have h7 : c.natAbs / b.natAbs ≤ c.natAbs / 2 := Nat.div_le_div_left h6 (by omega)
      omega
  rw [wrap_in _ hc, bne_iff_ne]
  intro he
  rw [he] at hq
  obtain ⟨hb1', hb2'⟩ := hb
  omega

theorem neg_neg_wrap {a : Int} (h1 : -9223372036854775808 < a) (h2 : a ≤ 9223372036854775807) : (wrap64 (-wrap64 (-a)) != a) = false := by
  rw [wrap_in (-a) ⟨by omega, by omega⟩, wrap_in _ ⟨by omega, by omega⟩]; simp

/-- The quotient towards 0, or ErrArg, or ErrRange: the two results. -/
def divN (a b : Int) : Int := if b = 0 ∨ a = -9223372036854775808 ∧ b = -1 then 0 else a.tdiv b
def divE (a b : Int) : Int := if b = 0 then 2 else if a = -9223372036854775808 ∧ b = -1 then 9 else 0

theorem tdiv_in {a b : Int} (ha : In a) (h : ¬ (a = -9223372036854775808 ∧ b = -1)) : -9223372036854775808 ≤ a.tdiv b ∧ a.tdiv b ≤ 9223372036854775807 := by
  obtain ⟨h1, h2⟩ := ha
  have h3 := tdiv_abs_le a b
  rcases Int.lt_or_le (a.tdiv b) 9223372036854775808 with h4 | h4
  · omega
  · exfalso
    have h5 : (a.tdiv b).natAbs = a.natAbs / b.natAbs := Int.natAbs_tdiv a b
    by_cases h8 : b = 1
    · subst h8; rw [Int.tdiv_one] at h4; omega
    by_cases h9 : b = 0
    · subst h9; rw [Int.tdiv_zero] at h4; omega
    by_cases h10 : b = -1
    · subst h10; rw [Int.tdiv_neg, Int.tdiv_one] at h4; omega
    have h6 : b.natAbs ≥ 2 := by omega
    have h7 : a.natAbs / b.natAbs ≤ a.natAbs / 2 := Nat.div_le_div_left h6 (by omega)
    omega

theorem divN_n {a b : Int} (h0 : ¬ b = 0) (h : ¬ (a = -9223372036854775808 ∧ b = -1)) : divN a b = a.tdiv b := by
  unfold divN; rw [if_neg (by omega)]
theorem divE_n {a b : Int} (h0 : ¬ b = 0) (h : ¬ (a = -9223372036854775808 ∧ b = -1)) : divE a b = 0 := by
  unfold divE; rw [if_neg (by omega), if_neg (by omega)]

set_option maxHeartbeats 400000 in
theorem div (a b : Int) (w : World) (ha : In a) :
    Calls Tryd.prog 25 #[.int .i64 a, .int .i64 b] w fun e w' => e = .returned (.tuple #[.int .i64 (divN a b), .int .i64 (divE a b)]) ∧ w = w' := by
  have ha' := Lib.hid ha
  clear ha
  by_cases b0 : b = 0
  · subst b0
    go_enter Tryd.func25, Tryd.ntmps25
    go_wp2
    go_ret2
    exact ⟨ret_two (by simp [divN]) (by simp [divE]), rfl⟩
  have b0' : ((b : Int) == 0) = false := by simpa using b0
  by_cases c : a = -9223372036854775808 ∧ b = -1
  · obtain ⟨rfl, rfl⟩ := c
    clear b0 b0'
    go_enter Tryd.func25, Tryd.ntmps25
    go_wp2
    go_ret2
    exact ⟨ret_two (by decide) (by decide), rfl⟩
  have hin := Lib.hid (tdiv_in (b := b) ha'.out c)
  have c' := Lib.hid c
  by_cases am : a = -9223372036854775808
  · subst am
    have b1' : ((b : Int) == -1) = false := by simp; omega
    clear c
    go_enter Tryd.func25, Tryd.ntmps25
    go_wp2
    go_ret2
    have h := hin.out
    have e1 : Int.tdiv (-9223372036854775808) b = -Int.tdiv 9223372036854775808 b := Int.neg_tdiv 9223372036854775808 b
    have c2 : ¬ ((-9223372036854775808 : Int) = -9223372036854775808 ∧ b = -1) := fun q => by simp [q.2] at b1'
    exact ⟨ret_two (by rw [divN_n b0 c2, e1]; rw [e1] at h; rw [wrap_in _ h]) (by rw [divE_n b0 c2]), rfl⟩
  · have am' : ((a : Int) == -9223372036854775808) = false := by simpa using am
    clear c
    go_enter Tryd.func25, Tryd.ntmps25
    go_wp2
    go_ret2
    exact ⟨ret_two (by rw [divN_n b0 c'.out, wrap_in _ hin.out]) (by rw [divE_n b0 c'.out]), rfl⟩

end Go.Proofs.YtaicijhkchfcfaaDoor.Num
