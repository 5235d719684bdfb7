/- The table of bounds lies where the row's condition on it holds; the door's own heap meets the condition. Conditions: none. -/
import Derived.Test.YtgmgpefegmlnoaaDoorOpenOut
import Derived.Test.YtgmgpefegmlnoaaDoorRows
import Derived.WalkKit
import Derived.ProofKit
import Derived.Stop.Joined
namespace Go.Proofs.YtgmgpefegmlnoaaDoor.Out
open Go.ChangeShapes Go.WideShapes Go.ChangeAt Go.RowKit Num Mem Band

theorem g_bounds : Tryd.prog.globalNamed "flarepath/out.bounds" = some 0 := by kernel_rfl
theorem t_bounds : (Tryd.prog.globals[0]?).map (·.type) = some 39 := by kernel_rfl

/-- A package's table in memory, off a variable's cells. -/
theorem tab_var {w : World} {n : String} {g : Nat} {cs : Array Value} {l : List Value} (hg : Tryd.prog.globalNamed n = some g) (h : w.var? Tryd.prog n = some cs) (hl : cs.toList = l) : TabAt w g l := by
  refine ⟨?_, fun j v hv => ?_⟩
  · simp only [World.var?, hg, Option.bind_some] at h
    split at h
    · rename_i hb
      exact (Array.getElem?_eq_some_iff.1 hb).1
    · cases h
  · rw [Nat.zero_add, World.var?_cell hg h j, ← hv, ← hl, Array.getElem?_toList]

theorem bd_laid {W : World} (h : laidMetH Tryd.prog [("flarepath/out.bounds", Rows.laid_flarepath_out_bounds)] W) : BdAt W := by
  rw [MakeChecks.laidMetH_plain _ _ _ (by kernel_rfl)] at h
  obtain ⟨ps, ⟨g0, t0, cs0, f0, p0, q0, hg0, ht0, hv0, hd0, _, _⟩, _, _⟩ := h
  obtain rfl := Option.some.inj (g_bounds.symm.trans hg0)
  obtain rfl := Option.some.inj (t_bounds.symm.trans ht0)
  exact tab_var g_bounds hv0 (is_bounds hd0)

/-- The door's own heap meets the condition. -/
theorem door_met (os : Os) (args : Array Value) : laidMetH Tryd.prog [("flarepath/out.bounds", Rows.laid_flarepath_out_bounds)] ((World.doorLaid Tryd.prog 400 os).forCall (fun _ _ => 0) ⟨#[], args, []⟩).memory :=
  laidMetH_of_parts3 (fuel := 8) (laidMet_of_run' 8 (by kernel_rfl) (by kernel_rfl)) (by kernel_rfl) (by kernel_rfl)

end Go.Proofs.YtgmgpefegmlnoaaDoor.Out
