/- Memory, in general: blocks known whole, what stays below, loads kept shut, a table of the package. Conditions: none. -/
import Derived.Test.YtaicijhkchfcfaaDoorBase
import Derived.Laws.Rows
import Derived.Laws.EntriesVeiled
import Derived.Deep.MidRow
import Derived.Deep.DeepCutAuto
import Derived.Deep.RegionHeld3
import Derived.Deep.QuietTactic
import Derived.BigQuiet
import Derived.StillTailTactics
namespace Go.Proofs.YtaicijhkchfcfaaDoor.Mem
open Go.ChangeShapes Go.WideShapes Go.ChangeAt Go.RowKit Num

/-- A block, as it was laid: its cells, none of them frozen. -/
def Blk (w : World) (b : Nat) (us : Array Value) (T : TypeId) : Prop := w.heap[b]? = some (.cells us T (0, 0))
theorem blk_new {w w1 : World} {us : Array Value} {T : TypeId} (h : Below (w.alloc (.cells us T)).heap.size (w.alloc (.cells us T)) w1) : Blk w1 w.heap.size us T :=
  (h.block _ (by simp)).trans (heap_alloc_new w _)
theorem blk_lt {w : World} {b : Nat} {us : Array Value} {T : TypeId} (h : Blk w b us T) : b < w.heap.size := (Array.getElem?_eq_some_iff.1 h).1
theorem blk_kept {w w1 : World} {b : Nat} {us : Array Value} {T : TypeId} (h : Blk w b us T) (k : Below w.heap.size w w1) : Blk w1 b us T := (k.block b (blk_lt h)).trans h
theorem blk_under {w w1 : World} {b B : Nat} {us : Array Value} {T : TypeId} (h : Blk w b us T) (k : Below B w w1) (hb : b < B) : Blk w1 b us T := (k.block b hb).trans h
theorem blk_cell {w : World} {b : Nat} {us : Array Value} {T : TypeId} (h : Blk w b us T) {o : Nat} {v : Value} (e : us[o]? = some v) : w.cell? ⟨b, o, none⟩ = some v := by
  unfold Blk at h; simp [World.cell?, h, e]
theorem blk_free {w : World} {b : Nat} {us : Array Value} {T : TypeId} (h : Blk w b us T) (o : Nat) : w.frozen? ⟨b, o, none⟩ = false := by
  unfold Blk at h; simp [World.frozen?, h]
theorem blk_alloc (w : World) (us : Array Value) (T : TypeId) : Blk (w.alloc (.cells us T)) w.heap.size us T := heap_alloc_new w _
theorem blk_alloc2 (w : World) (o : Obj) (us : Array Value) (T : TypeId) : Blk ((w.alloc o).alloc (.cells us T)) (w.heap.size + 1) us T := by
  have h := blk_alloc (w.alloc o) us T
  simpa using h
theorem blk_alloc3 (w : World) (o p : Obj) (us : Array Value) (T : TypeId) : Blk (((w.alloc o).alloc p).alloc (.cells us T)) (w.heap.size + 1 + 1) us T := by
  have h := blk_alloc ((w.alloc o).alloc p) us T
  simpa using h
theorem blk_row {w : World} {b : Nat} {us : Array Value} {T : TypeId} (h : Blk w b us T) (vs : Array Value) : Blk (w.setRow b vs) b vs T := setRow_heap w b us vs T _ h
theorem blk_row_far {w : World} {b c : Nat} {us : Array Value} {T : TypeId} (h : Blk w b us T) (ne : b ≠ c) (vs : Array Value) : Blk (w.setRow c vs) b us T := (setRow_other w c b vs (by omega)).trans h
theorem below_row {B : Nat} {a w : World} (h : Below B a w) {g : Nat} (hg : B ≤ g) (cs : Array Value) : Below B a (w.setRow g cs) :=
  ⟨h.os, h.tape, h.output, by rw [setRow_size]; exact h.size, fun k hk => by
    rw [← h.block k hk]
    have ne : g ≠ k := by omega
    simp [World.setRow, Array.getElem?_modify, ne]⟩
theorem blk_set {w : World} {b : Nat} {us : Array Value} {T : TypeId} (h : Blk w b us T) (o : Nat) (v : Value) : Blk (w.setCell ⟨b, o, none⟩ v) b (us.setIfInBounds o v) T := by
  unfold Blk at *
  simp [World.setCell, Array.getElem?_modify, h]
theorem blk_far {w : World} {b c : Nat} {us : Array Value} {T : TypeId} (h : Blk w b us T) (o : Nat) (v : Value) (ne : b ≠ c) : Blk (w.setCell ⟨c, o, none⟩ v) b us T :=
  (Below.heap_setCell w ⟨c, o, none⟩ v b ne).trans h
theorem blk_eq {w : World} {b : Nat} {us vs : Array Value} {T : TypeId} (e : us = vs) (h : Blk w b us T) : Blk w b vs T := e ▸ h
theorem below_alloc {w w1 : World} {o : Obj} (b : Below (w.alloc o).heap.size (w.alloc o) w1) : Below w.heap.size w w1 :=
  ((Below.refl _ w).alloc (Nat.le_refl _) o).trans (b.mono (by simp))
theorem below_new {a w : World} (h : Below a.heap.size a w) (o : Obj) : Below a.heap.size a (w.alloc o) := h.alloc h.size o
theorem allocs (w : World) (o : Obj) : Below w.heap.size w (w.alloc o) := (Below.refl _ w).alloc (Nat.le_refl _) o
theorem below_drew {B : Nat} {a w : World} (h : Below B a w) : Below B a w.drew := below_drewN h 1

/-- A block's parts. -/
theorem range_of {w : World} {g : Nat} {us : Array Value} {T : TypeId} (K : Blk w g us T) {o : Nat} {cs : List Value} (h : ∀ j, j < cs.length → us[o + j]? = cs[j]?) : w.rangeAt g o cs := fun j v hv => by
  have hj : j < cs.length := (List.getElem?_eq_some_iff.1 hv).1
  exact blk_cell K ((h j hj).trans hv)

/-- The cells of a package's table, at its block's head: what a call leaves alone. -/
def TabAt (w : World) (g : Nat) (cs : List Value) : Prop := g < w.heap.size ∧ w.rangeAt g 0 cs
theorem tab_kept {w w1 : World} {g : Nat} {cs : List Value} (h : TabAt w g cs) (k : Below w.heap.size w w1) : TabAt w1 g cs :=
  ⟨Nat.lt_of_lt_of_le h.1 k.size, fun j v hv => (k.cell (p := ⟨g, 0 + j, none⟩) h.1).trans (h.2 j v hv)⟩
theorem tab_drewN {w : World} {g : Nat} {cs : List Value} (h : TabAt w g cs) (n : Nat) : TabAt (w.drewN n) g cs := h
theorem tab_drew {w : World} {g : Nat} {cs : List Value} (h : TabAt w g cs) : TabAt w.drew g cs := h

end Go.Proofs.YtaicijhkchfcfaaDoor.Mem
