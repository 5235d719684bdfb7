/- Levels, plainly: the two rows, whether an inventory is as much as another one, which level is there. Conditions: none but those that each row names. -/
import Derived.Test.YtpjekkdidihagaaEquipNum
namespace Go.Proofs.Ytpjekkdidihagaa.Lad
open Go.ChangeShapes Go.WideShapes Go.ChangeAt Go.RowKit Num Pers Vote Equip
open Lanes hiding Blk

/-- Is nothing of S less than of L? -/
def meets (S L : St) : Bool := nmN L S 8
abbrev S3 : St := ⟨fun _ => 3, 3, 2, true, true⟩
abbrev S2 : St := ⟨fun _ => 2, 2, 1, true, false⟩
/-- The rows, by place. -/
def rowS : Nat → St
  | 0 => S3
  | _ => S2
def rowL : Nat → Int
  | 0 => 2
  | _ => 1
/-- The level with the test passed. -/
def levY (S : St) : Int := if meets S (rowS 0) = true then 2 else if meets S (rowS 1) = true then 1 else 0
def lev (S : St) : Bool → Int
  | true => levY S
  | false => 0

theorem meets_of (S L : St) : meets S L = true ↔ ∀ k, k < 8 → nu L k ≤ nu S k := nmN_of L S 8
theorem meets_same {S L : St} (h : eqS S L = true) : meets S L = true := (meets_of S L).2 fun k hk => by
  have := (eqS_of S L).1 h k hk
  omega
theorem meets_other {S L : St} (h : eqS S L = false) : less L S = meets S L := less_other (by rw [eqS_symm]; exact h)
theorem meets_no {S L : St} {k : Nat} (hk : k < 8) (h : nu S k < nu L k) : meets S L = false := nm_more hk h
/-- The higher row asks for more. -/
theorem rows_rise : meets S3 S2 = true := by decide +kernel
theorem meets_trans {A B C : St} (h : meets A B = true) (g : meets B C = true) : meets A C = true := (meets_of A C).2 fun k hk => by
  have := (meets_of A B).1 h k hk
  have := (meets_of B C).1 g k hk
  omega
theorem meets_23 {S : St} (h : meets S (rowS 0) = true) : meets S (rowS 1) = true := meets_trans h rows_rise
theorem lev_hit {S : St} {k : Nat} (hk : k < 2) (hn : ∀ j, j < k → meets S (rowS j) = false) (h : meets S (rowS k) = true) : levY S = rowL k := by
  have e : k = 0 ∨ k = 1 := by omega
  rcases e with rfl | rfl
  · exact if_pos h
  · unfold levY
    rw [hn 0 (by omega), if_pos h]
    rfl
theorem lev_none {S : St} (hn : ∀ j, j < 2 → meets S (rowS j) = false) : levY S = 0 := by
  unfold levY
  rw [hn 0 (by omega), hn 1 (by omega)]
  rfl
theorem none_next {S : St} {k : Nat} (hn : ∀ j, j < k → meets S (rowS j) = false) (h : meets S (rowS k) = false) : ∀ j, j < k + 1 → meets S (rowS j) = false := fun j hj => by
  by_cases e : j = k
  · subst e; exact h
  · exact hn j (by omega)
theorem row_bd (k : Nat) : 0 ≤ rowL k ∧ rowL k ≤ 2 := by
  unfold rowL
  split <;> omega
theorem levY_bd (S : St) : 0 ≤ levY S ∧ levY S ≤ 2 := by
  unfold levY
  split
  · omega
  · split <;> omega
theorem lev_bd (S : St) (p : Bool) : 0 ≤ lev S p ∧ lev S p ≤ 2 := by
  cases p
  · exact ⟨Int.le_refl 0, by show (0 : Int) ≤ 2; decide⟩
  · exact levY_bd S
/-- A level is there just if its row is met. -/
theorem lev_yes {S : St} {k : Nat} (hk : k < 2) (h : meets S (rowS k) = true) : rowL k ≤ levY S := by
  have e : k = 0 ∨ k = 1 := by omega
  rcases e with rfl | rfl
  · show 2 ≤ levY S
    unfold levY
    rw [if_pos h]
    decide
  · show 1 ≤ levY S
    unfold levY
    rw [if_pos h]
    split <;> decide
theorem lev_no {S : St} {k : Nat} (hk : k < 2) (h : meets S (rowS k) = false) : levY S < rowL k := by
  have e : k = 0 ∨ k = 1 := by omega
  rcases e with rfl | rfl
  · show levY S < 2
    unfold levY
    rw [if_neg (by rw [h]; exact Bool.false_ne_true)]
    split <;> decide
  · show levY S < 1
    have h0 : meets S (rowS 0) = false := by
      rw [Bool.eq_false_iff]
      intro g
      rw [meets_23 g] at h
      cases h
    unfold levY
    rw [h, h0]
    decide
/-- Of less the level is not higher. -/
theorem less_meets {A B : St} (h : less A B = true) : meets B A = true := (meets_of B A).2 ((less_of A B).1 h).1
theorem lev_less {A B : St} (h : less A B = true) (p : Bool) : lev A p ≤ lev B p := by
  cases p
  · exact Int.le_refl 0
  · show levY A ≤ levY B
    have g := less_meets h
    have m : ∀ k, meets A (rowS k) = true → meets B (rowS k) = true := fun k hk => meets_trans g hk
    have b := levY_bd B
    unfold levY
    by_cases h0 : meets A (rowS 0) = true
    · rw [if_pos h0, if_pos (m 0 h0)]
      decide
    · rw [if_neg h0]
      by_cases h1 : meets A (rowS 1) = true
      · rw [if_pos h1, if_pos (m 1 h1)]
        split <;> decide
      · rw [if_neg h1]
        exact b.1

end Go.Proofs.Ytpjekkdidihagaa.Lad
