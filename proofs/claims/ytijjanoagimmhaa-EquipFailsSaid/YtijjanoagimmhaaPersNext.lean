/- Contracts of persist.Next and of the reference's Next. Conditions: none. -/
import Derived.Test.YtijjanoagimmhaaPers
import Derived.Deep.DeepCutAuto
namespace Go.Proofs.Ytijjanoagimmhaa.Pers
open Go.ChangeShapes Go.WideShapes Go.ChangeAt Go.RowKit Num Bl

theorem blk_put {w : World} {b : Nat} {x y z : Value} {T : TypeId} (K : Blk w b #[x, y, z] T) (v0 v1 v2 : Value) :
    Blk (((w.setCell ⟨b, 0, none⟩ v0).setCell ⟨b, 1, none⟩ v1).setCell ⟨b, 2, none⟩ v2) b #[v0, v1, v2] T := by
  have h := blk_set (blk_set (blk_set K 0 v0) 1 v1) 2 v2
  simpa using h
theorem below_put {B b : Nat} {a w : World} (h : Below B a w) (hb : B ≤ b) (v0 v1 v2 : Value) : Below B a (((w.setCell ⟨b, 0, none⟩ v0).setCell ⟨b, 1, none⟩ v1).setCell ⟨b, 2, none⟩ v2) :=
  ((h.setCell (p := ⟨b, 0, none⟩) hb _).setCell (p := ⟨b, 1, none⟩) hb _).setCell (p := ⟨b, 2, none⟩) hb _
theorem infoH : (Try.prog.info? 23).map (·.size) = some 3 := by kernel_rfl
/-- A health in a block, as a result. -/
theorem ret_hl {fn : Func} {p : Tmp} (h : fn.results = #[.cell p 23]) (tmps : Array Value) (W : World) (g : Nat) (s : Hl) (hp : tmps.getD p undef = .pointer (some ⟨g, 0, none⟩)) (K : Blk W g (hc s) 23) :
    (results fn tmps).run Try.prog W = .ok (hv s) W :=
  results_cell_row h tmps W g 23 (hc s) (0, 0) _ hp K Try.underlying23 rfl infoH

end Go.Proofs.Ytijjanoagimmhaa.Pers
