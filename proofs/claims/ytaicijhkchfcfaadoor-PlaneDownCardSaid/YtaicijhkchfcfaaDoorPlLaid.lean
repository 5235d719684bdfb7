/- The tables of bounds lie where the row's condition on them holds; the door's own heap meets the condition. Conditions: none. -/
import Derived.Test.YtaicijhkchfcfaaDoorOpenPl
import Derived.Test.YtaicijhkchfcfaaDoorRows
import Derived.WalkKit
import Derived.ProofKit
import Derived.Stop.Joined
namespace Go.Proofs.YtaicijhkchfcfaaDoor.Pl
open Go.ChangeShapes Go.WideShapes Go.ChangeAt Go.RowKit Num Mem

theorem g_air : Tryd.prog.globalNamed "flarepath/plane.mostAir" = some 0 := by kernel_rfl
theorem t_air : (Tryd.prog.globals[0]?).map (·.type) = some 43 := by kernel_rfl
theorem g_wrong : Tryd.prog.globalNamed "flarepath/plane.mostWrong" = some 1 := by kernel_rfl
theorem t_wrong : (Tryd.prog.globals[1]?).map (·.type) = some 43 := by kernel_rfl

/-- A package's table in memory, off a variable's cells. -/
theorem tab_var {w : World} {n : String} {g : Nat} {cs : Array Value} {l : List Value} (hg : Tryd.prog.globalNamed n = some g) (h : w.var? Tryd.prog n = some cs) (hl : cs.toList = l) : TabAt w g l := by
  refine ⟨?_, fun j v hv => ?_⟩
  · simp only [World.var?, hg, Option.bind_some] at h
    split at h
    · rename_i hb
      exact (Array.getElem?_eq_some_iff.1 hb).1
    · cases h
  · rw [Nat.zero_add, World.var?_cell hg h j, ← hv, ← hl, Array.getElem?_toList]

theorem tb_laid {W : World} (h : laidMetH Tryd.prog [("flarepath/plane.mostAir", Rows.laid_flarepath_plane_mostAir), ("flarepath/plane.mostWrong", Rows.laid_flarepath_plane_mostWrong)] W) : TbAt W := by
  rw [MakeChecks.laidMetH_plain _ _ _ (by kernel_rfl)] at h
  obtain ⟨ps, ⟨g0, t0, cs0, f0, p0, q0, hg0, ht0, hv0, hd0, ⟨g1, t1, cs1, f1, p1, q1, hg1, ht1, hv1, hd1, _, _⟩, _⟩, _, _⟩ := h
  obtain rfl := Option.some.inj (g_air.symm.trans hg0)
  obtain rfl := Option.some.inj (t_air.symm.trans ht0)
  obtain rfl := Option.some.inj (g_wrong.symm.trans hg1)
  obtain rfl := Option.some.inj (t_wrong.symm.trans ht1)
  exact ⟨tab_var g_air hv0 (is_air hd0), tab_var g_wrong hv1 (is_wrong hd1)⟩

/-- The door's own heap meets the condition. -/
theorem door_met (os : Os) (args : Array Value) : laidMetH Tryd.prog [("flarepath/plane.mostAir", Rows.laid_flarepath_plane_mostAir), ("flarepath/plane.mostWrong", Rows.laid_flarepath_plane_mostWrong)] ((World.doorLaid Tryd.prog 400 os).forCall (fun _ _ => 0) ⟨#[], args, []⟩).memory :=
  laidMetH_of_parts3 (fuel := 8) (laidMet_of_run' 8 (by kernel_rfl) (by kernel_rfl)) (by kernel_rfl) (by kernel_rfl)

end Go.Proofs.YtaicijhkchfcfaaDoor.Pl
