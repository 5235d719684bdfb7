/- Contracts of a warning's word, and of the document's own. Conditions: a warning is a byte. -/
import Derived.Test.YtkcibgknbjlnkaaWarnRow
namespace Go.Proofs.Ytkcibgknbjlnkaa.Wr
open Go.ChangeShapes Go.WideShapes Go.ChangeAt Go.RowKit Num Mem Md

set_option maxRecDepth 100000 in
set_option maxHeartbeats 4000000 in
theorem textC (x : Int) (h : 0 ≤ x) (hb : x ≤ 255) (w : World) : Calls Try.prog 5 #[.int .u8 x] w fun e w' => e = .returned (.tuple #[.string (txt x), .bool (decide (x ≤ 4))]) ∧ Below w.heap.size w w' := by
  rcases w_ways h with rfl | rfl | rfl | rfl | rfl | h5
  all_goals
    go_enter Try.func5, Try.ntmps5
    go_wp2
    go_ret2
    first
      | exact ⟨rfl, allocs _ _⟩
      | exact ⟨by rw [txt_out h5, decide_eq_false (by omega)]; rfl, allocs _ _⟩

set_option maxRecDepth 100000 in
set_option maxHeartbeats 4000000 in
theorem rTextC (x : Int) (h : 0 ≤ x) (hb : x ≤ 255) (w : World) : Calls Try.prog 6 #[.int .u8 x] w fun e w' => e = .returned (.tuple #[.string (txt x), .bool (decide (x ≤ 4))]) ∧ Below w.heap.size w w' := by
  rcases w_ways h with rfl | rfl | rfl | rfl | rfl | h5
  all_goals
    go_enter Try.func6, Try.ntmps6
    go_wp2
    go_ret2
    first
      | exact ⟨rfl, allocs _ _⟩
      | exact ⟨by rw [txt_out h5, decide_eq_false (by omega)]; rfl, allocs _ _⟩

end Go.Proofs.Ytkcibgknbjlnkaa.Wr
