/- A test ahead of the approach, plainly: what may be, how it goes on by a frame, by frames. Conditions: none but those that each row names. -/
import Derived.Test.YtkkjmepncceaoaaByt
namespace Go.Proofs.Ytkkjmepncceaoaa.Chk
open Go.ChangeShapes Go.WideShapes Go.ChangeAt Go.RowKit Num

/-- A test. -/
structure Pt where
  s : Int
  f : Int
  p : Bool
  x : Bool
def Wf (t : Pt) : Prop := In t.s ∧ In t.f
abbrev z0 : Pt := ⟨0, 0, false, false⟩
/-- P16.1: what may be. -/
def may (t : Pt) : Bool := decide (0 ≤ t.s ∧ t.s ≤ 4 ∧ 0 ≤ t.f ∧ t.f ≤ 5) && (t.p == decide (t.s = 4)) && (t.x == decide (t.f = 5)) && !(t.p && decide (0 < t.f))
/-- Is the unit well; does the crew reset? -/
def wl (u s : Int) : Bool := decide (u / 2 ^ s.toNat % 2 = 1)
def rs (c : Int) : Bool := decide (c / 8 % 2 = 1)
/-- How it goes on by a frame, by the first n frames. -/
def next (t : Pt) (u : Int) (r : Bool) : Pt :=
  if may t = false ∨ r = true then z0
  else if t.p = true ∨ t.x = true then t
  else if wl u t.s = true then ⟨t.s + 1, 0, decide (t.s = 3), false⟩
  else ⟨t.s, t.f + 1, false, decide (t.f = 4)⟩
def run (t : Pt) (L : Nat → Int) : Nat → Pt
  | 0 => t
  | n + 1 => next (run t L n) (L n) false
def eqP (a b : Pt) : Bool := decide (a.s = b.s) && (decide (a.f = b.f) && (a.p == b.p && a.x == b.x))
theorem eqP_self (a : Pt) : eqP a a = true := by unfold eqP; simp
/-- Bits of a byte, by all of them. -/
theorem of_fin {f g : Int → Int} (h : ∀ n : Fin 256, f n.val = g n.val) (x : Int) (h0 : 0 ≤ x) (h1 : x < 256) : f x = g x := by
  obtain ⟨k, rfl⟩ : ∃ k : Nat, x = (k : Int) := ⟨x.toNat, by omega⟩
  exact h ⟨k, by omega⟩
theorem and_1 (x : Int) (h0 : 0 ≤ x) (h1 : x < 256) : bits .and .u8 x 1 = x % 2 := of_fin (f := fun x => bits .and .u8 x 1) (g := fun x => x % 2) (by decide +kernel) x h0 h1
theorem and_8 (x : Int) (h0 : 0 ≤ x) (h1 : x < 256) : bits .and .u8 x 8 = 8 * (x / 8 % 2) := of_fin (f := fun x => bits .and .u8 x 8) (g := fun x => 8 * (x / 8 % 2)) (by decide +kernel) x h0 h1
theorem or_8 (x : Int) (h0 : 0 ≤ x) (h1 : x < 256) : bits .or .u8 x 8 = x + 8 - 8 * (x / 8 % 2) := of_fin (f := fun x => bits .or .u8 x 8) (g := fun x => x + 8 - 8 * (x / 8 % 2)) (by decide +kernel) x h0 h1
theorem rs_bit (c : Int) (h0 : 0 ≤ c) (h1 : c < 256) : (bits .and .u8 c 8 != 0) = rs c := by
  unfold rs
  rw [and_8 c h0 h1]
  have h : c / 8 % 2 = 0 ∨ c / 8 % 2 = 1 := by omega
  rcases h with h | h <;> rw [h] <;> decide
theorem rs_or (c : Int) (h0 : 0 ≤ c) (h1 : c < 256) : 0 ≤ bits .or .u8 c 8 ∧ bits .or .u8 c 8 < 256 ∧ rs (bits .or .u8 c 8) = true := by
  rw [or_8 c h0 h1]
  unfold rs
  refine ⟨by omega, by omega, decide_eq_true (by omega)⟩
theorem part_u8 (u : Int) (k : Nat) (u0 : 0 ≤ u) (u1 : u < 256) : 0 ≤ u / 2 ^ k ∧ u / 2 ^ k < 256 := by
  have h : (0 : Int) < 2 ^ k := Int.pow_pos (by decide)
  exact ⟨Int.ediv_nonneg u0 (Int.le_of_lt h), Int.lt_of_le_of_lt (Int.ediv_le_self _ u0) u1⟩
/-- What may be still goes, is failed, is passed. -/
abbrev go (s f : Int) : Pt := ⟨s, f, false, false⟩
abbrev bad (s : Int) : Pt := ⟨s, 5, false, true⟩
abbrev done : Pt := ⟨4, 0, true, false⟩
theorem may_of {t : Pt} (h : may t = true) : (0 ≤ t.s ∧ t.s ≤ 4 ∧ 0 ≤ t.f ∧ t.f ≤ 5) ∧ t.p = decide (t.s = 4) ∧ t.x = decide (t.f = 5) ∧ (t.p = true → t.f = 0) := by
  unfold may at h
  simp only [Bool.and_eq_true, decide_eq_true_eq, beq_iff_eq, Bool.not_eq_true', Bool.and_eq_false_iff, decide_eq_false_iff_not] at h
  refine ⟨h.1.1.1, h.1.1.2, h.1.2, fun hp => ?_⟩
  rcases h.2 with k | k
  · rw [hp] at k; cases k
  · omega
theorem may_ways {t : Pt} (h : may t = true) : t = done ∨ (∃ s, 0 ≤ s ∧ s < 4 ∧ t = bad s) ∨ ∃ s f, 0 ≤ s ∧ s < 4 ∧ 0 ≤ f ∧ f < 5 ∧ t = go s f := by
  obtain ⟨⟨a, b, c, d⟩, e, g, k⟩ := may_of h
  obtain ⟨s, f, p, x⟩ := t
  dsimp only at *
  by_cases h4 : s = 4
  · subst h4
    have hp : p = true := e.trans (decide_eq_true rfl)
    have hf := k hp
    subst hf
    have hx : x = false := g.trans (decide_eq_false (by decide))
    subst hp hx
    exact .inl rfl
  · have hp : p = false := e.trans (decide_eq_false h4)
    by_cases h5 : f = 5
    · subst h5
      have hx : x = true := g.trans (decide_eq_true rfl)
      subst hp hx
      exact .inr (.inl ⟨s, a, by omega, rfl⟩)
    · have hx : x = false := g.trans (decide_eq_false h5)
      subst hp hx
      exact .inr (.inr ⟨s, f, a, by omega, c, by omega, rfl⟩)
theorem may_go {s f : Int} (a : 0 ≤ s) (b : s < 4) (c : 0 ≤ f) (d : f < 5) : may (go s f) = true := by
  have h1 : ¬ s = 4 := by omega
  have h2 : ¬ f = 5 := by omega
  simp [may, h1, h2]; omega
theorem may_bad {s : Int} (a : 0 ≤ s) (b : s < 4) : may (bad s) = true := by
  have h1 : ¬ s = 4 := by omega
  simp [may, h1]; omega
theorem may_done : may done = true := by decide
theorem may_out {t : Pt} (h : ¬ (0 ≤ t.s ∧ t.s ≤ 4 ∧ 0 ≤ t.f ∧ t.f ≤ 5)) : may t = false := by
  unfold may; rw [decide_eq_false h]; rfl
theorem may_p {t : Pt} (h : t.p ≠ decide (t.s = 4)) : may t = false := by
  cases e : may t
  · rfl
  · exact absurd (may_of e).2.1 h
theorem may_x {t : Pt} (h : t.x ≠ decide (t.f = 5)) : may t = false := by
  cases e : may t
  · rfl
  · exact absurd (may_of e).2.2.1 h
theorem may_f {t : Pt} (h : t.p = true) (k : t.f ≠ 0) : may t = false := by
  cases e : may t
  · rfl
  · exact absurd ((may_of e).2.2.2 h) k
theorem next_no {t : Pt} (h : may t = false) (u : Int) (r : Bool) : next t u r = z0 := if_pos (.inl h)
theorem next_rs (t : Pt) (u : Int) : next t u true = z0 := if_pos (.inr rfl)
theorem next_done (u : Int) : next done u false = done := by unfold next; rw [if_neg (by rw [may_done]; simp), if_pos (.inl rfl)]
theorem next_bad {s : Int} (a : 0 ≤ s) (b : s < 4) (u : Int) : next (bad s) u false = bad s := by
  unfold next; rw [if_neg (by rw [may_bad a b]; simp), if_pos (.inr rfl)]
theorem next_yes {s f : Int} (a : 0 ≤ s) (b : s < 4) (c : 0 ≤ f) (d : f < 5) {u : Int} (h : wl u s = true) : next (go s f) u false = ⟨s + 1, 0, decide (s = 3), false⟩ := by
  unfold next; rw [if_neg (by rw [may_go a b c d]; simp), if_neg (by simp), if_pos h]
theorem next_not {s f : Int} (a : 0 ≤ s) (b : s < 4) (c : 0 ≤ f) (d : f < 5) {u : Int} (h : wl u s = false) : next (go s f) u false = ⟨s, f + 1, false, decide (f = 4)⟩ := by
  unfold next; rw [if_neg (by rw [may_go a b c d]; simp), if_neg (by simp), if_neg (by rw [h]; simp)]
theorem next_may (t : Pt) (u : Int) (r : Bool) : may (next t u r) = true := by
  cases r
  · cases h : may t
    · rw [next_no h]; decide
    · rcases may_ways h with rfl | ⟨s, a, b, rfl⟩ | ⟨s, f, a, b, c, d, rfl⟩
      · rw [next_done]; exact h
      · rw [next_bad a b]; exact h
      · cases hw : wl u s
        · rw [next_not a b c d hw]
          by_cases h4 : f = 4
          · subst h4; exact may_bad a b
          · rw [decide_eq_false h4]; exact may_go a b (by omega) (by omega)
        · rw [next_yes a b c d hw]
          by_cases h3 : s = 3
          · subst h3; decide
          · rw [decide_eq_false h3]; exact may_go (by omega) (by omega) (by omega) (by omega)
  · rw [next_rs]; decide

end Go.Proofs.Ytkkjmepncceaoaa.Chk
