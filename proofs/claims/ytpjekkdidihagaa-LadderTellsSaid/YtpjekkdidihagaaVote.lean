/- What three sources come to, plainly; contracts of the small functions of layer 11 (vote). Conditions: none. -/
import Derived.Test.YtpjekkdidihagaaPersRNext
import Derived.Test.YtpjekkdidihagaaMidOf
namespace Go.Proofs.Ytpjekkdidihagaa.Vote
open Go.ChangeShapes Go.WideShapes Go.ChangeAt Go.RowKit Num Bl Pers Mid

/-- A reading; a voted signal. -/
structure Rd where
  i : Bool
  v : Int
structure Vt where
  i : Bool
  v : Int
  n : Int
abbrev rv (r : Rd) : Value := .agg #[.bool r.i, .int .i64 r.v]
abbrev vv (x : Vt) : Value := .agg #[.bool x.i, .int .i64 x.v, .int .i64 x.n]
abbrev vc (x : Vt) : Array Value := #[.bool x.i, .int .i64 x.v, .int .i64 x.n]
/-- Three healths, three readings, as cells. -/
abbrev hsA (H : Nat → Hl) : Array Value := #[.int .i64 (H 0).b, .bool (H 0).o, .int .i64 (H 0).g, .int .i64 (H 1).b, .bool (H 1).o, .int .i64 (H 1).g, .int .i64 (H 2).b, .bool (H 2).o, .int .i64 (H 2).g]
abbrev rsA (R : Nat → Rd) : Array Value := #[.bool (R 0).i, .int .i64 (R 0).v, .bool (R 1).i, .int .i64 (R 1).v, .bool (R 2).i, .int .i64 (R 2).v]

/-- How many of the first k said something; what they said, one behind the other. -/
def cn (P : Nat → Rd) : Nat → Nat
  | 0 => 0
  | k + 1 => if (P k).i = true then cn P k + 1 else cn P k
def vl (P : Nat → Rd) : Nat → Nat → Int
  | 0 => fun _ => 0
  | k + 1 => if (P k).i = true then (fun j => if j = cn P k then (P k).v else vl P k j) else vl P k
theorem cn_le (P : Nat → Rd) (k : Nat) : cn P k ≤ k := by
  induction k with
  | zero => exact Nat.le_refl 0
  | succ k ih => unfold cn; split <;> omega
theorem vl_in (P : Nat → Rd) (h : ∀ i, In (P i).v) (k j : Nat) : In (vl P k j) := by
  induction k with
  | zero => exact ⟨by show (-9223372036854775808 : Int) ≤ 0; decide, by show (0 : Int) ≤ 9223372036854775807; decide⟩
  | succ k ih =>
    unfold vl
    split
    · show In (if j = cn P k then (P k).v else vl P k j)
      split
      · exact h k
      · exact ih
    · exact ih
/-- What is present. -/
def pres (H : Nat → Hl) (R : Nat → Rd) (i : Nat) : Rd := if (H i).o = true ∨ may (H i) = false then ⟨false, 0⟩ else R i
theorem pres_in (H : Nat → Hl) (R : Nat → Rd) (h : ∀ i, In (R i).v) (i : Nat) : In (pres H R i).v := by
  unfold pres
  split
  · exact ⟨by show (-9223372036854775808 : Int) ≤ 0; decide, by show (0 : Int) ≤ 9223372036854775807; decide⟩
  · exact h i
/-- What n values come to. -/
def vot (n : Nat) (L : Nat → Int) (d : Int) : Vt := if n = 2 ∧ far (L 0) (L 1) d = true then ⟨false, 0, 2⟩ else ⟨ofB n, ofN n L, n⟩
/-- Whether a source was bad. -/
def bd (r : Rd) (p : Bool) (v : Vt) (d : Int) : Bool := !r.i || !v.i || (!(p && decide (v.n < 3)) && far r.v v.v d)
/-- P11.1. -/
def stV (H : Nat → Hl) (R : Nat → Rd) (d : Int) : Vt := vot (cn (pres H R) 3) (vl (pres H R) 3) d
def stH (H : Nat → Hl) (R : Nat → Rd) (d : Int) (k : Bool) (i : Nat) : Hl := next (H i) (bd (R i) (pres H R i).i (stV H R d) d) k

/-- In: how many of the first k are not out. -/
def ins (H : Nat → Hl) : Nat → Nat
  | 0 => 0
  | k + 1 => if (H k).o = true then ins H k else ins H k + 1
theorem ins_le (H : Nat → Hl) (k : Nat) : ins H k ≤ k := by
  induction k with
  | zero => exact Nat.le_refl 0
  | succ k ih => unfold ins; split <;> omega
theorem ins_out {H : Nat → Hl} {k : Nat} (h : (H k).o = true) : ins H (k + 1) = ins H k := by
  show (if (H k).o = true then ins H k else ins H k + 1) = _
  rw [if_pos h]
theorem ins_in {H : Nat → Hl} {k : Nat} (h : (H k).o = false) : ins H (k + 1) = ins H k + 1 := by
  show (if (H k).o = true then ins H k else ins H k + 1) = _
  rw [if_neg (by simp [h])]

end Go.Proofs.Ytpjekkdidihagaa.Vote
