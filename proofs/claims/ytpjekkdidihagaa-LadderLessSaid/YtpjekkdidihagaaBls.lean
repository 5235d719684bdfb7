/- Slices of bools, blocks known whole: what they are in memory, how that stays while new memory is made; appends to a slice of bools. Conditions: none. -/
import Derived.Test.YtpjekkdidihagaaBase
import Derived.Below
import Derived.Deep.Draws
import Derived.Deep.QuietTactic
import Derived.BigQuiet
import Derived.OwnWalk
import Derived.Laws.AppendOwnNone
import Derived.Laws.OwnMore
import Derived.Laws.Rows
import Derived.RangeFuncRecord
namespace Go.Proofs.Ytpjekkdidihagaa.Bl
open Go.ChangeShapes Go.WideShapes Go.ChangeAt Go.RowKit Num

/-- A slice of n bools lies at A, below block B: the one at place i is L i. -/
def Bls (w : World) (B : Nat) (A : Option Addr) (n : Nat) (L : Nat → Bool) : Prop :=
  0 < n → ∃ b off, A = some ⟨b, off, none⟩ ∧ b < B ∧ ∀ i, i < n → w.cell? ⟨b, off + i, none⟩ = some (.bool (L i))

theorem Bls.below {w w' : World} {B : Nat} {A : Option Addr} {n : Nat} {L : Nat → Bool} (h : Bls w B A n L) (hb : Below B w w') : Bls w' B A n L := by
  intro hn
  obtain ⟨b, off, rfl, hlt, hc⟩ := h hn
  exact ⟨b, off, rfl, hlt, fun i hi => (hb.cell (by exact hlt)).trans (hc i hi)⟩
theorem Bls.more {w : World} {B B' : Nat} {A : Option Addr} {n : Nat} {L : Nat → Bool} (h : Bls w B A n L) (hB : B ≤ B') : Bls w B' A n L := by
  intro hn
  obtain ⟨b, off, rfl, hlt, hc⟩ := h hn
  exact ⟨b, off, rfl, by omega, hc⟩
theorem Bls.next {w w' : World} {A : Option Addr} {n : Nat} {L : Nat → Bool} (h : Bls w w.heap.size A n L) (hb : Below w.heap.size w w') : Bls w' w'.heap.size A n L := (h.below hb).more hb.size
theorem Bls.as {w : World} {B : Nat} {A : Option Addr} {n : Nat} {L M : Nat → Bool} (h : Bls w B A n L) (e : ∀ i, i < n → L i = M i) : Bls w B A n M := by
  intro hn
  obtain ⟨b, off, rfl, hlt, hc⟩ := h hn
  exact ⟨b, off, rfl, hlt, fun i hi => by rw [← e i hi]; exact hc i hi⟩
theorem Bls.here {w : World} {A : Option Addr} {n : Nat} {L : Nat → Bool} (h : Bls w w.heap.size A n L) (k : Nat) : Bls (w.drewN k) (w.drewN k).heap.size A n L := h

/-- The bools L 0 .. L (n - 1), as cells. -/
def cellsOf (n : Nat) (L : Nat → Bool) : List Value := (List.range n).map fun i => .bool (L i)
theorem cellsOf_at (n : Nat) (L : Nat → Bool) (i : Nat) (h : i < n) : (cellsOf n L)[i]? = some (.bool (L i)) := by
  unfold cellsOf
  rw [List.getElem?_map, List.getElem?_range h]
  rfl
theorem cellsOf_len (n : Nat) (L : Nat → Bool) : (cellsOf n L).length = n := by simp [cellsOf]
theorem cellsOf_last (n : Nat) (L : Nat → Bool) : cellsOf (n + 1) L = cellsOf n L ++ [.bool (L n)] := by simp [cellsOf, List.range_succ]
theorem lt_of_at {w : World} {g : Nat} {o : Obj} (h : w.heap[g]? = some o) : g < w.heap.size := by
  rcases Nat.lt_or_ge g w.heap.size with h' | h'
  · exact h'
  · rw [Array.getElem?_eq_none h'] at h; cases h
theorem bls_of_block {w : World} {g n : Nat} {t : TypeId} {cur : Array Value} {L : Nat → Bool} (hh : w.heap[g]? = some (.cells cur t (0, 0))) (hc : cur.toList.take n = cellsOf n L) : Bls w w.heap.size (some ⟨g, 0, none⟩) n L := by
  refine fun _ => ⟨g, 0, rfl, lt_of_at hh, fun i hi => ?_⟩
  rw [cell_of_row w g (0 + i) cur t (0, 0) hh, Nat.zero_add, ← cellsOf_at n L i hi, ← hc, List.getElem?_take, if_pos hi]
  simp
theorem bls_of_own {w : World} {base : Nat} {t : TypeId} {v : Value} {n : Nat} {L : Nat → Bool} (h : w.ownsRow base t 1 v n (cellsOf n L)) : ∃ A c, v = .slice A n c ∧ Bls w w.heap.size A n L := by
  rcases h.2 with ⟨rfl, rfl⟩ | ⟨g, cap, cur, rfl, _, hh, _, _, _, hcur⟩
  · exact ⟨none, 0, rfl, fun hh => by omega⟩
  · exact ⟨_, cap, rfl, bls_of_block hh (by simpa using hcur)⟩

theorem own_base {w : World} {base : Nat} {t : TypeId} {s : Nat} {v : Value} {n : Nat} {xs : List Value} (h : w.ownsRow base t s v n xs) : ∀ g, v.ownBlock = some g → base ≤ g := by
  intro g hg
  rcases h.2 with ⟨rfl, rfl⟩ | ⟨g', cap, cur, rfl, hb, _⟩
  · simp [Value.ownBlock] at hg
  · have : g' = g := by simpa [Value.ownBlock] using hg
    omega
theorem add_plain (b off j : Nat) : ((⟨b, off, none⟩ : Addr).add j) = ⟨b, off + j, none⟩ := by unfold Addr.add; split <;> simp_all
theorem info_bool : (Try.prog.info? 4).map (fun i => (i.zero, i.size, i.bytes)) = some (some (.bool false), 1, 1) := by kernel_rfl

/-- A block, as it was laid: its cells, none of them frozen. -/
def Blk (w : World) (b : Nat) (us : Array Value) (T : TypeId) : Prop := w.heap[b]? = some (.cells us T (0, 0))
theorem blk_new {w w1 : World} {us : Array Value} {T : TypeId} (h : Below (w.alloc (.cells us T)).heap.size (w.alloc (.cells us T)) w1) : Blk w1 w.heap.size us T :=
  (h.block _ (by simp)).trans (World.alloc_heap_new w _)
theorem blk_lt {w : World} {b : Nat} {us : Array Value} {T : TypeId} (h : Blk w b us T) : b < w.heap.size := (Array.getElem?_eq_some_iff.1 h).1
theorem blk_kept {w w1 : World} {b : Nat} {us : Array Value} {T : TypeId} (h : Blk w b us T) (k : Below w.heap.size w w1) : Blk w1 b us T := (k.block b (blk_lt h)).trans h
theorem blk_cell {w : World} {b : Nat} {us : Array Value} {T : TypeId} (h : Blk w b us T) {o : Nat} {v : Value} (e : us[o]? = some v) : w.cell? ⟨b, o, none⟩ = some v := by
  unfold Blk at h; simp [World.cell?, h, e]
theorem blk_free {w : World} {b : Nat} {us : Array Value} {T : TypeId} (h : Blk w b us T) (o : Nat) : w.frozen? ⟨b, o, none⟩ = false := by
  unfold Blk at h; simp [World.frozen?, h]
theorem blk_alloc (w : World) (us : Array Value) (T : TypeId) : Blk (w.alloc (.cells us T)) w.heap.size us T := World.alloc_heap_new w _
theorem blk_alloc2 (w : World) (o : Obj) (us : Array Value) (T : TypeId) : Blk ((w.alloc o).alloc (.cells us T)) (w.heap.size + 1) us T := by
  have h := blk_alloc (w.alloc o) us T
  simpa using h
/-- The same, over a world that differs in what was drawn alone. -/
theorem below_at {w w2 w1 : World} (b : Below w2.heap.size w2 w1) (eh : w2.heap = w.heap := by rfl) (eo : w2.os = w.os := by rfl) (et : w2.tape = w.tape := by rfl) (ep : w2.output = w.output := by rfl) : Below w.heap.size w w1 := by
  have es : w.heap.size = w2.heap.size := by rw [eh]
  exact ⟨b.os.trans eo, b.tape.trans et, b.output.trans ep, es ▸ b.size, fun j hj => (b.block j (es ▸ hj)).trans (by rw [eh])⟩

theorem blk_set {w : World} {b : Nat} {us : Array Value} {T : TypeId} (h : Blk w b us T) (o : Nat) (v : Value) : Blk (w.setCell ⟨b, o, none⟩ v) b (us.setIfInBounds o v) T := by
  unfold Blk at *
  simp [World.setCell, Array.getElem?_modify, h]
theorem blk_far {w : World} {b c : Nat} {us : Array Value} {T : TypeId} (h : Blk w b us T) (o : Nat) (v : Value) (ne : b ≠ c) : Blk (w.setCell ⟨c, o, none⟩ v) b us T :=
  (Below.heap_setCell w ⟨c, o, none⟩ v b ne).trans h
theorem below_alloc {w w1 : World} {o : Obj} (b : Below (w.alloc o).heap.size (w.alloc o) w1) : Below w.heap.size w w1 :=
  ((Below.refl _ w).alloc (Nat.le_refl _) o).trans (b.mono (by simp))

/-- One slice behind another. -/
def catL (k : Nat) (K L : Nat → Bool) (i : Nat) : Bool := if i < k then K i else L (i - k)
theorem cells_cat (k n : Nat) (K L : Nat → Bool) : cellsOf k K ++ cellsOf n L = cellsOf (k + n) (catL k K L) := by
  induction n with
  | zero =>
    simp only [cellsOf, List.range_zero, List.map_nil, List.append_nil, Nat.add_zero]
    refine List.map_congr_left fun i hi => ?_
    rw [List.mem_range] at hi
    simp [catL, hi]
  | succ n ih =>
    have e : catL k K L (k + n) = L n := by unfold catL; rw [if_neg (by omega), Nat.add_sub_cancel_left]
    rw [cellsOf_last, ← List.append_assoc, ih, ← Nat.add_assoc, cellsOf_last, e]

end Go.Proofs.Ytpjekkdidihagaa.Bl
