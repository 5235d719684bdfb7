/- The labels that the document tells are told: the law's own samples. Conditions: none. -/
import Derived.Test.YtphmjmccncmodaaDictOf
import Derived.Sort.MapsRangeIn
namespace Go.Proofs.Ytphmjmccncmodaa.Dict
open Go.ChangeShapes Go.WideShapes Go.ChangeAt Go.RowKit Num

/-- A block of four cells, as it was laid. -/
def Box (w : World) (b : Nat) (us : Array Value) : Prop := w.heap[b]? = some (.cells us 23 (0, 0))

theorem box_new {w w1 : World} {us : Array Value} (h : Below (w.alloc (.cells us 23)).heap.size (w.alloc (.cells us 23)) w1) : Box w1 w.heap.size us :=
  (h.block _ (by simp)).trans (World.alloc_heap_new w _)
theorem box_kept {w w1 : World} {b : Nat} {us : Array Value} (h : Box w b us) (k : Below w.heap.size w w1) : Box w1 b us :=
  (k.block b (Array.getElem?_eq_some_iff.1 h).1).trans h
theorem box_set {w : World} {b g o : Nat} {us : Array Value} {v : Value} (h : Box w b us) (ne : b ≠ g) : Box (w.setCell ⟨g, o, none⟩ v) b us :=
  (Below.heap_setCell w ⟨g, o, none⟩ v b ne).trans h
theorem box_lt {w : World} {b : Nat} {us : Array Value} (h : Box w b us) : b < w.heap.size := (Array.getElem?_eq_some_iff.1 h).1
theorem box_cells {w : World} {b : Nat} {u0 u1 u2 u3 : Value} (h : Box w b #[u0, u1, u2, u3]) : w.cell? ⟨b, 0, none⟩ = some u0 ∧ w.cell? ⟨b, 1, none⟩ = some u1 ∧ w.cell? ⟨b, 2, none⟩ = some u2 ∧ w.cell? ⟨b, 3, none⟩ = some u3 := by
  unfold Box at h
  refine ⟨?_, ?_, ?_, ?_⟩ <;> simp [World.cell?, h]

theorem labelAt (s l : Int) (k : Bool) (h : sL s = l ∧ sIs s = k) (w : World) :
    Calls Try.prog 7 #[.int .i64 s] w fun e w' => e = .returned (.tuple #[.int .u8 l, .bool k]) ∧ Below w.heap.size w w' :=
  (label s w).mono fun e w' ⟨he, hb⟩ => ⟨by rw [he, h.1, h.2], hb⟩

theorem findAt (l : Int) (a b c d : Int) (k : Bool) (h : kA l = #[.int .i64 a, .int .i64 b, .int .i64 c, .int .i64 d] ∧ kIs l = k) (w : World) :
    Calls Try.prog 5 #[.int .u8 l] w fun e w' => e = .returned (.tuple #[.agg #[.int .i64 a, .int .i64 b, .int .i64 c, .int .i64 d], .bool k]) ∧ Below w.heap.size w w' :=
  (find l w).mono fun e w' ⟨he, hb⟩ => ⟨by rw [he, h.1, h.2], hb⟩

set_option maxRecDepth 100000 in
set_option maxHeartbeats 4000000 in
theorem lives (w : World) :
    Calls Try.prog 13 #[] w fun e w' => e = .returned (.bool true) ∧ Below w.heap.size w w' := by
  go_enter Try.func13, Try.ntmps13
  go_wp2_with fail
  refine (findAt 116 2 (-1000) 200000 100 true kind2 _).mono ?_
  rintro e w1 ⟨rfl, b1⟩
  have B1 := Lib.hid b1
  clear b1
  go_wp2_with fail
  refine (findAt 0 0 0 0 0 false ⟨rfl, rfl⟩ _).mono ?_
  rintro e w2 ⟨rfl, b2⟩
  have K := Lib.hid (box_new b2)
  have B2 := Lib.hid (bthen B1.out (below_alloc b2))
  clear b2 B1
  go_wp2_with fail
  refine (labelAt 3 209 true ⟨rfl, rfl⟩ _).mono ?_
  rintro e w3 ⟨rfl, b3⟩
  have K3 := Lib.hid (box_kept K.out (below_alloc b3))
  have B3 := Lib.hid (bthen B2.out (below_alloc b3))
  clear b3 B2 K
  go_wp2_with fail
  refine (labelAt 4 0 false ⟨rfl, rfl⟩ _).mono ?_
  rintro e w4 ⟨rfl, b4⟩
  have K4 := Lib.hid (box_kept K3.out b4)
  have B4 := Lib.hid (bthen B3.out b4)
  clear b4 B3 K3
  go_wp2_with fail
  refine (labels _).mono ?_
  rintro e w5 ⟨g, cap, rfl, hcap, hg0, F, b5⟩
  have K5 := Lib.hid (box_kept K4.out b5)
  have B5 := Lib.hid (bthen B4.out b5)
  clear b5 B4 K4 hg0
  obtain ⟨k0, k1, k2, k3⟩ := box_cells K5.out
  obtain ⟨hg, c0, c1, c2, c3, fz⟩ := F
  go_wp2
  go_ret
  exact ⟨rfl, B5.out⟩

end Go.Proofs.Ytphmjmccncmodaa.Dict
