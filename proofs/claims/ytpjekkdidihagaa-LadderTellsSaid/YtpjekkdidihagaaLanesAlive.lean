/- Which lanes are alive, how many: contracts of lanes.Many and of the document's own. Conditions: none. -/
import Derived.Test.YtpjekkdidihagaaLanesRow
import Derived.Deep.DeepCutAuto
namespace Go.Proofs.Ytpjekkdidihagaa.Lanes
open Go.ChangeShapes Go.WideShapes Go.ChangeAt Go.RowKit Num Mid

/-- How many of the first n lanes are alive. -/
def sK (H : Nat → Bool) : Nat → Nat
  | 0 => 0
  | n + 1 => if H n then sK H n + 1 else sK H n
theorem sK_le (H : Nat → Bool) (n : Nat) : sK H n ≤ n := by
  induction n with
  | zero => exact Nat.le_refl _
  | succ n ih => unfold sK; split <;> omega
theorem sK_on {H : Nat → Bool} {n : Nat} (h : H n = true) : sK H (n + 1) = sK H n + 1 := if_pos h
theorem sK_off {H : Nat → Bool} {n : Nat} (h : H n = false) : sK H (n + 1) = sK H n := by show (if H n then _ else _) = _; rw [h]; rfl
theorem sK_cases (H : Nat → Bool) (n : Nat) : ((if H n then ((sK H n : Nat) : Int) + 1 else ((sK H n : Nat) : Int))) = ((sK H (n + 1) : Nat) : Int) := by
  cases h : H n
  · rw [sK_off h]; rfl
  · rw [sK_on h]; simp

end Go.Proofs.Ytpjekkdidihagaa.Lanes
