/- Contracts of layer 9 (mid) and of the document's own answers for it, without lists: the middle of three numbers, the average of two, whether two are far apart. Conditions: the arguments are int64 numbers. -/
import Derived.Test.YtcoogkhhicbkeaaNum
import Derived.Laws.BitsLemmas
namespace Go.Proofs.Ytcoogkhhicbkeaa.Mid
open Go.ChangeShapes Go.WideShapes Go.ChangeAt Go.RowKit Num

/-- P9.1: the middle. -/
def middle (a b c : Int) : Int := gmax (gmin a b) (gmin (gmax a b) c)
theorem mid_cases (a b c : Int) : (middle a b c = a ∧ ((b ≤ a ∧ a ≤ c) ∨ (c ≤ a ∧ a ≤ b))) ∨ (middle a b c = b ∧ ((a ≤ b ∧ b ≤ c) ∨ (c ≤ b ∧ b ≤ a))) ∨ (middle a b c = c ∧ ((a ≤ c ∧ c ≤ b) ∨ (b ≤ c ∧ c ≤ a))) := by
  unfold middle
  have h1 := gmin_cases a b
  have h2 := gmax_cases a b
  have h3 := gmin_cases (gmax a b) c
  have h4 := gmax_cases (gmin a b) (gmin (gmax a b) c)
  omega
/-- P9.1: the average. -/
def avg (a b : Int) : Int := (a + b) / 2
/-- P9.1: far apart. -/
def far (a b d : Int) : Bool := decide (d < a - b ∨ d < b - a)
theorem far_true {a b d : Int} (h : d < a - b ∨ d < b - a) : far a b d = true := decide_eq_true h
theorem far_false {a b d : Int} (h : ¬ (d < a - b ∨ d < b - a)) : far a b d = false := decide_eq_false h
theorem far_sym (a b d : Int) : far a b d = far b a d := by unfold far; exact decide_eq_decide.2 (by omega)

/-- A sum by bits. -/
theorem and_xor : ∀ (f a b : Nat), a < 2 ^ f → b < 2 ^ f → 2 * (a &&& b) + (a ^^^ b) = a + b
  | 0, a, b, ha, hb => by
    have : a = 0 := by omega
    have : b = 0 := by omega
    subst a; subst b; rfl
  | f + 1, a, b, ha, hb => by
    have ih := and_xor f (a / 2) (b / 2) (by omega) (by omega)
    have h1 : (a &&& b) / 2 = a / 2 &&& b / 2 := Nat.and_div_two
    have h2 : (a ^^^ b) / 2 = a / 2 ^^^ b / 2 := Nat.xor_div_two
    have h3 := Nat.and_mod_two_eq_one (a := a) (b := b)
    have h4 := Nat.xor_mod_two_eq_one (a := a) (b := b)
    rw [← h1, ← h2] at ih
    have h5 : (a &&& b) % 2 = 0 ∨ (a &&& b) % 2 = 1 := Nat.mod_two_eq_zero_or_one _
    have h6 : (a ^^^ b) % 2 = 0 ∨ (a ^^^ b) % 2 = 1 := Nat.mod_two_eq_zero_or_one _
    generalize (a &&& b) = x at *
    generalize (a ^^^ b) = y at *
    by_cases p : a % 2 = 1
    · by_cases q : b % 2 = 1
      · have u := h3.2 ⟨p, q⟩
        have v : ¬ y % 2 = 1 := fun h => (h4.1 h) ⟨fun _ => q, fun _ => p⟩
        omega
      · have u : ¬ x % 2 = 1 := fun h => q (h3.1 h).2
        have v : y % 2 = 1 := h4.2 fun h => q (h.1 p)
        omega
    · by_cases q : b % 2 = 1
      · have u : ¬ x % 2 = 1 := fun h => p (h3.1 h).1
        have v : y % 2 = 1 := h4.2 fun h => p (h.2 q)
        omega
      · have u : ¬ x % 2 = 1 := fun h => p (h3.1 h).1
        have v : ¬ y % 2 = 1 := fun h => (h4.1 h) ⟨fun h => absurd h p, fun h => absurd h q⟩
        omega

theorem top_and (a b : Nat) : (a &&& b) / 2 ^ 63 = a / 2 ^ 63 &&& b / 2 ^ 63 := by
  simp only [← Nat.shiftRight_eq_div_pow]; exact Nat.shiftRight_and_distrib
theorem top_xor (a b : Nat) : (a ^^^ b) / 2 ^ 63 = a / 2 ^ 63 ^^^ b / 2 ^ 63 := by
  simp only [← Nat.shiftRight_eq_div_pow]; exact Nat.shiftRight_xor_distrib

theorem nat_half (a b : Nat) (ha : a < 18446744073709551616) (hb : b < 18446744073709551616) :
    2 * (a &&& b) + (a ^^^ b) = a + b ∧ (a &&& b) < 18446744073709551616 ∧ (a ^^^ b) < 18446744073709551616 ∧
    (9223372036854775808 ≤ a ∧ 9223372036854775808 ≤ b → 9223372036854775808 ≤ (a &&& b) ∧ (a ^^^ b) < 9223372036854775808) ∧
    (9223372036854775808 ≤ a ∧ b < 9223372036854775808 → (a &&& b) < 9223372036854775808 ∧ 9223372036854775808 ≤ (a ^^^ b)) ∧
    (a < 9223372036854775808 ∧ 9223372036854775808 ≤ b → (a &&& b) < 9223372036854775808 ∧ 9223372036854775808 ≤ (a ^^^ b)) ∧
    (a < 9223372036854775808 ∧ b < 9223372036854775808 → (a &&& b) < 9223372036854775808 ∧ (a ^^^ b) < 9223372036854775808) := by
  have h := and_xor 64 a b ha hb
  have h1 := top_and a b
  have h2 := top_xor a b
  have h3 : (a &&& b) ≤ a := Nat.and_le_left
  have h4 : (a ^^^ b) < 2 ^ 64 := Nat.xor_lt_two_pow ha hb
  refine ⟨h, by omega, by omega, ?_, ?_, ?_, ?_⟩
  all_goals
    rintro ⟨p, q⟩
    first | (rw [show a / 2 ^ 63 = 1 by omega] at h1 h2) | (rw [show a / 2 ^ 63 = 0 by omega] at h1 h2)
    first | (rw [show b / 2 ^ 63 = 1 by omega] at h1 h2) | (rw [show b / 2 ^ 63 = 0 by omega] at h1 h2)
    simp at h1 h2
    omega

theorem bits_half (a b : Int) (ha : In a) (hb : In b) : 2 * bits .and .i64 a b + bits .xor .i64 a b = a + b := by
  obtain ⟨a1, a2⟩ := ha
  obtain ⟨b1, b2⟩ := hb
  have hA : (BitVec.ofInt IntKind.i64.bits a).toNat = (a % 18446744073709551616).toNat := by rw [BitVec.toNat_ofInt]; rfl
  have hB : (BitVec.ofInt IntKind.i64.bits b).toNat = (b % 18446744073709551616).toNat := by rw [BitVec.toNat_ofInt]; rfl
  obtain ⟨h0, h1, h2, h3, h4, h5, h6⟩ := nat_half (a % 18446744073709551616).toNat (b % 18446744073709551616).toNat (by omega) (by omega)
  unfold bits
  simp only [BitVec.toNat_and, BitVec.toNat_xor, hA, hB]
  generalize ((a % 18446744073709551616).toNat &&& (b % 18446744073709551616).toNat) = x at *
  generalize ((a % 18446744073709551616).toNat ^^^ (b % 18446744073709551616).toNat) = y at *
  rw [IntKind.wrap_i64, IntKind.wrap_i64]
  omega
theorem bits_avg (a b : Int) (ha : In a) (hb : In b) : bits .and .i64 a b + bits .xor .i64 a b / 2 = avg a b := by
  have := bits_half a b ha hb
  unfold avg
  omega

theorem tdiv2 (a : Int) : (2 * a.tdiv 2 = a) ∨ (0 < a ∧ 2 * a.tdiv 2 = a - 1) ∨ (a < 0 ∧ 2 * a.tdiv 2 = a + 1) := by
  rcases Int.le_total 0 a with h | h
  · rw [Int.tdiv_eq_ediv_of_nonneg h]; omega
  · obtain ⟨m, rfl⟩ : ∃ m, a = -m := ⟨-a, by omega⟩
    rw [Int.neg_tdiv, Int.tdiv_eq_ediv_of_nonneg (by omega)]; omega

end Go.Proofs.Ytcoogkhhicbkeaa.Mid
