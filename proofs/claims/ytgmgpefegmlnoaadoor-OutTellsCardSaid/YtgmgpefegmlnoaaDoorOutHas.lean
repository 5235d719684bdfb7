/- Blocks that are there, as a list; a command laid into a block of its own. Conditions: none. -/
import Derived.Test.YtgmgpefegmlnoaaDoorOutRow
namespace Go.Proofs.YtgmgpefegmlnoaaDoor.Out
open Go.ChangeShapes Go.WideShapes Go.ChangeAt Go.RowKit Num Mem Band

/-- These blocks are there, and below the first world's end nothing has turned. -/
def Has (w0 : World) (L : List (Nat × Array Value × TypeId)) (w : World) : Prop := Below w0.heap.size w0 w ∧ ∀ x ∈ L, Blk w x.1 x.2.1 x.2.2
theorem has_none (w : World) : Has w [] w := ⟨Below.refl _ _, fun x h => by cases h⟩
theorem has_box {w0 w : World} {L : List (Nat × Array Value × TypeId)} (h : Has w0 L w) (us : Array Value) (T : TypeId) : Has w0 ((w.heap.size, us, T) :: L) (w.alloc (.cells us T)) :=
  ⟨below_new h.1 _, fun x hx => by
    rcases List.mem_cons.1 hx with rfl | hx
    · exact blk_alloc w _ _
    · exact blk_kept (h.2 x hx) (allocs _ _)⟩
theorem has_call {w0 w w1 : World} {L : List (Nat × Array Value × TypeId)} (h : Has w0 L w) (b : Below w.heap.size w w1) : Has w0 L w1 := ⟨bthen h.1 b, fun x hx => blk_kept (h.2 x hx) b⟩
theorem has_drew {w0 w : World} {L : List (Nat × Array Value × TypeId)} (h : Has w0 L w) : Has w0 L w.drew := ⟨below_drewN h.1 1, h.2⟩
theorem has_new {w0 w : World} {L : List (Nat × Array Value × TypeId)} (h : Has w0 L w) (c : Nat → Int) : Has w0 ((w.heap.size, cA c, 26) :: L) ((w.alloc (.cells (cA zC) 26)).setRow w.heap.size (cA c)) :=
  ⟨below_row (below_new h.1 _) h.1.size _, fun x hx => by
    rcases List.mem_cons.1 hx with rfl | hx
    · exact blk_row (blk_alloc w _ _) _
    · have k := h.2 x hx
      exact blk_row_far (blk_kept k (allocs _ _)) (Nat.ne_of_lt (blk_lt k)) _⟩
theorem has_lt {w0 w : World} {L : List (Nat × Array Value × TypeId)} (h : Has w0 L w) {x : Nat × Array Value × TypeId} (hx : x ∈ L) : x.1 < w.heap.size := blk_lt (h.2 x hx)
theorem has_size (w : World) (us cs : Array Value) (T : TypeId) (g : Nat) : ((w.alloc (.cells us T)).setRow g cs).heap.size = w.heap.size + 1 := by rw [setRow_size]; simp
theorem st_new (w : World) (c : Nat → Int) : (stC (.pointer (some ⟨w.heap.size, 0, none⟩)) (.agg (cA c))).run Tryd.prog (w.alloc (.cells (cA zC) 26)) = .ok () ((w.alloc (.cells (cA zC) 26)).setRow w.heap.size (cA c)) :=
  stC_blk c (blk_alloc w (cA zC) _)
theorem has_c {w0 w : World} {L : List (Nat × Array Value × TypeId)} (h : Has w0 L w) (g : Nat) (c : Nat → Int) (hx : (g, cA c, 26) ∈ L) : (ldC (.pointer (some ⟨g, 0, none⟩))).run Tryd.prog w = .ok (.agg (cA c)) w := ldC_blk (h.2 _ hx)

end Go.Proofs.YtgmgpefegmlnoaaDoor.Out
