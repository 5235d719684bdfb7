/- Commands in memory: one, three of them in an array, a slice of them; blocks known whole. Conditions: none. -/
import Derived.Test.YtpjekkdidihagaaMidOf
import Derived.Laws.Rows
import Derived.Laws.EntriesVeiled
import Derived.Deep.MidRow
namespace Go.Proofs.Ytpjekkdidihagaa.Lanes
open Go.ChangeShapes Go.WideShapes Go.ChangeAt Go.RowKit Num Mid

/-- A block, as it was laid: its cells, none of them frozen. -/
def Blk (w : World) (b : Nat) (us : Array Value) (T : TypeId) : Prop := w.heap[b]? = some (.cells us T (0, 0))
theorem blk_new {w w1 : World} {us : Array Value} {T : TypeId} (h : Below (w.alloc (.cells us T)).heap.size (w.alloc (.cells us T)) w1) : Blk w1 w.heap.size us T :=
  (h.block _ (by simp)).trans (heap_alloc_new w _)
theorem blk_lt {w : World} {b : Nat} {us : Array Value} {T : TypeId} (h : Blk w b us T) : b < w.heap.size := (Array.getElem?_eq_some_iff.1 h).1
theorem blk_kept {w w1 : World} {b : Nat} {us : Array Value} {T : TypeId} (h : Blk w b us T) (k : Below w.heap.size w w1) : Blk w1 b us T := (k.block b (blk_lt h)).trans h
theorem blk_under {w w1 : World} {b B : Nat} {us : Array Value} {T : TypeId} (h : Blk w b us T) (k : Below B w w1) (hb : b < B) : Blk w1 b us T := (k.block b hb).trans h
theorem blk_cell {w : World} {b : Nat} {us : Array Value} {T : TypeId} (h : Blk w b us T) {o : Nat} {v : Value} (e : us[o]? = some v) : w.cell? ⟨b, o, none⟩ = some v := by
  unfold Blk at h; simp [World.cell?, h, e]
theorem blk_free {w : World} {b : Nat} {us : Array Value} {T : TypeId} (h : Blk w b us T) (o : Nat) : w.frozen? ⟨b, o, none⟩ = false := by
  unfold Blk at h; simp [World.frozen?, h]
theorem blk_alloc (w : World) (us : Array Value) (T : TypeId) : Blk (w.alloc (.cells us T)) w.heap.size us T := heap_alloc_new w _
theorem blk_alloc2 (w : World) (o : Obj) (us : Array Value) (T : TypeId) : Blk ((w.alloc o).alloc (.cells us T)) (w.heap.size + 1) us T := by
  have h := blk_alloc (w.alloc o) us T
  simpa using h
theorem blk_alloc3 (w : World) (o p : Obj) (us : Array Value) (T : TypeId) : Blk (((w.alloc o).alloc p).alloc (.cells us T)) (w.heap.size + 1 + 1) us T := by
  have h := blk_alloc ((w.alloc o).alloc p) us T
  simpa using h
theorem blk_row {w : World} {b : Nat} {us : Array Value} {T : TypeId} (h : Blk w b us T) (vs : Array Value) : Blk (w.setRow b vs) b vs T := setRow_heap w b us vs T _ h
theorem blk_row_far {w : World} {b c : Nat} {us : Array Value} {T : TypeId} (h : Blk w b us T) (ne : b ≠ c) (vs : Array Value) : Blk (w.setRow c vs) b us T := (setRow_other w c b vs (by omega)).trans h
theorem below_row {B : Nat} {a w : World} (h : Below B a w) {g : Nat} (hg : B ≤ g) (cs : Array Value) : Below B a (w.setRow g cs) :=
  ⟨h.os, h.tape, h.output, by rw [setRow_size]; exact h.size, fun k hk => by
    rw [← h.block k hk]
    have ne : g ≠ k := by omega
    simp [World.setRow, Array.getElem?_modify, ne]⟩
theorem blk_set {w : World} {b : Nat} {us : Array Value} {T : TypeId} (h : Blk w b us T) (o : Nat) (v : Value) : Blk (w.setCell ⟨b, o, none⟩ v) b (us.setIfInBounds o v) T := by
  unfold Blk at *
  simp [World.setCell, Array.getElem?_modify, h]
theorem blk_far {w : World} {b c : Nat} {us : Array Value} {T : TypeId} (h : Blk w b us T) (o : Nat) (v : Value) (ne : b ≠ c) : Blk (w.setCell ⟨c, o, none⟩ v) b us T :=
  (Below.heap_setCell w ⟨c, o, none⟩ v b ne).trans h
theorem blk_eq {w : World} {b : Nat} {us vs : Array Value} {T : TypeId} (e : us = vs) (h : Blk w b us T) : Blk w b vs T := e ▸ h
theorem below_alloc {w w1 : World} {o : Obj} (b : Below (w.alloc o).heap.size (w.alloc o) w1) : Below w.heap.size w w1 :=
  ((Below.refl _ w).alloc (Nat.le_refl _) o).trans (b.mono (by simp))
theorem below_new {a w : World} (h : Below a.heap.size a w) (o : Obj) : Below a.heap.size a (w.alloc o) := h.alloc h.size o
theorem allocs (w : World) (o : Obj) : Below w.heap.size w (w.alloc o) := (Below.refl _ w).alloc (Nat.le_refl _) o

/-- Cells from a place on, set one by one. -/
def setsA (us : Array Value) : Nat → List Value → Array Value
  | _, [] => us
  | o, v :: vs => setsA (us.setIfInBounds o v) (o + 1) vs
theorem blk_sets {b : Nat} {T : TypeId} : ∀ (vs : List Value) (w : World) (us : Array Value) (o : Nat), Blk w b us T → Blk (w.setCells b o vs) b (setsA us o vs) T
  | [], _, _, _, h => h
  | v :: vs, _, _, o, h => blk_sets vs _ _ (o + 1) (blk_set h o v)
theorem blk_sets_far {b c : Nat} {T : TypeId} {us : Array Value} (ne : b ≠ c) : ∀ (vs : List Value) (w : World) (o : Nat), Blk w b us T → Blk (w.setCells c o vs) b us T
  | [], _, _, h => h
  | v :: vs, _, o, h => blk_sets_far ne vs _ (o + 1) (blk_far h o v ne)
theorem below_sets {B b : Nat} {a : World} (hb : B ≤ b) : ∀ (vs : List Value) (w : World) (o : Nat), Below B a w → Below B a (w.setCells b o vs)
  | [], _, _, h => h
  | v :: vs, _, o, h => below_sets hb vs _ (o + 1) (h.setCell (p := ⟨b, o, none⟩) hb v)
theorem size_sets (b : Nat) : ∀ (vs : List Value) (w : World) (o : Nat), (w.setCells b o vs).heap.size = w.heap.size
  | [], _, _ => rfl
  | v :: vs, w, o => (size_sets b vs _ (o + 1)).trans (by simp)
theorem part3 (A B C : List Value) (hA : A.length = 3) (hB : B.length = 3) (X : Nat → List Value) (h0 : X 0 = A) (h1 : X 1 = B) (h2 : X 2 = C) (i q : Nat) (hi : i < 3) (hq : q < 3) : (A ++ (B ++ C))[i * 3 + q]? = (X i)[q]? := by
  have hi3 : i = 0 ∨ i = 1 ∨ i = 2 := by omega
  rcases hi3 with rfl | rfl | rfl
  · rw [List.getElem?_append_left (by omega), h0, show 0 * 3 + q = q by omega]
  · rw [List.getElem?_append_right (by omega), List.getElem?_append_left (by omega), h1, hA, show 1 * 3 + q - 3 = q by omega]
  · rw [List.getElem?_append_right (by omega), List.getElem?_append_right (by omega), h2, hA, hB, show 2 * 3 + q - 3 - 3 = q by omega]
/-- One of them, another one. -/
def updT {T : Type} (X : Nat → T) (k : Nat) (v : T) (i : Nat) : T := if i = k then v else X i
theorem updT_at {T : Type} (X : Nat → T) (k : Nat) (v : T) : updT X k v k = v := if_pos rfl
theorem updT_off {T : Type} {X : Nat → T} {k i : Nat} {v : T} (h : i ≠ k) : updT X k v i = X i := if_neg h

/-- A command (or three numbers), by place; three of them; three bools. -/
abbrev cA (c : Nat → Int) : Array Value := #[.int .i64 (c 0), .int .i64 (c 1), .int .i64 (c 2)]
abbrev c9 (X : Nat → Nat → Int) : Array Value := #[.int .i64 (X 0 0), .int .i64 (X 0 1), .int .i64 (X 0 2), .int .i64 (X 1 0), .int .i64 (X 1 1), .int .i64 (X 1 2), .int .i64 (X 2 0), .int .i64 (X 2 1), .int .i64 (X 2 2)]
abbrev b3A (g : Nat → Bool) : Array Value := #[.bool (g 0), .bool (g 1), .bool (g 2)]
abbrev zC : Nat → Int := fun _ => 0
theorem cA_as {c d : Nat → Int} (e : ∀ j, j < 3 → c j = d j) : cA c = cA d := by
  unfold cA; rw [e 0 (by decide), e 1 (by decide), e 2 (by decide)]
theorem c9_as {X Y : Nat → Nat → Int} (e : ∀ i j, i < 3 → j < 3 → X i j = Y i j) : c9 X = c9 Y := by
  unfold c9; rw [e 0 0 (by decide) (by decide), e 0 1 (by decide) (by decide), e 0 2 (by decide) (by decide), e 1 0 (by decide) (by decide), e 1 1 (by decide) (by decide), e 1 2 (by decide) (by decide), e 2 0 (by decide) (by decide), e 2 1 (by decide) (by decide), e 2 2 (by decide) (by decide)]
theorem cA_at (c : Nat → Int) : ∀ k : Nat, k < 3 → (cA c)[k]? = some (.int .i64 (c k)) := fun k h => match k, h with
  | 0, _ => rfl
  | 1, _ => rfl
  | 2, _ => rfl
theorem b3_at (g : Nat → Bool) : ∀ k : Nat, k < 3 → (b3A g)[k]? = some (.bool (g k)) := fun k h => match k, h with
  | 0, _ => rfl
  | 1, _ => rfl
  | 2, _ => rfl
theorem cA_set (c d : Nat → Int) (v : Int) (k : Nat) (hk : k < 3) (e : ∀ a, a < 3 → (if a = k then v else c a) = d a) : (cA c).setIfInBounds k (.int .i64 v) = cA d := by
  have h : ∀ a, a < 3 → Value.int .i64 (d a) = .int .i64 (if a = k then v else c a) := fun a ha => by rw [e a ha]
  have hk3 : k = 0 ∨ k = 1 ∨ k = 2 := by omega
  unfold cA
  rw [h 0 (by decide), h 1 (by decide), h 2 (by decide)]
  rcases hk3 with rfl | rfl | rfl <;> simp
theorem c9_list (X : Nat → Nat → Int) : (c9 X).toList = (cA (X 0)).toList ++ ((cA (X 1)).toList ++ (cA (X 2)).toList) := rfl
theorem c9_at (X : Nat → Nat → Int) (i q : Nat) (hi : i < 3) (hq : q < 3) : (c9 X)[i * 3 + q]? = (cA (X i))[q]? := by
  have h := part3 (cA (X 0)).toList (cA (X 1)).toList (cA (X 2)).toList rfl rfl (fun i => (cA (X i)).toList) rfl rfl rfl i q hi hq
  rw [← c9_list, Array.getElem?_toList] at h
  rw [h, Array.getElem?_toList]
theorem c9_set (X : Nat → Nat → Int) (x : Nat → Int) (i : Nat) (hi : i < 3) : setsA (c9 X) (i * 3) (cA x).toList = c9 (updT X i x) := by
  have hi3 : i = 0 ∨ i = 1 ∨ i = 2 := by omega
  rcases hi3 with rfl | rfl | rfl <;> simp [setsA, updT]

theorem c9_range {w : World} {g : Nat} {X : Nat → Nat → Int} {T : TypeId} (K : Blk w g (c9 X) T) {i : Nat} (hi : i < 3) : w.rangeAt g (i * 3) (cA (X i)).toList := fun q v hv => by
  have hq : q < 3 := (List.getElem?_eq_some_iff.1 hv).1
  rw [cell_of_row w g (i * 3 + q) _ _ (0, 0) K, c9_at X i q hi hq, ← hv, Array.getElem?_toList]
theorem c9_there {w : World} {g : Nat} {X : Nat → Nat → Int} {T : TypeId} (K : Blk w g (c9 X) T) {i n : Nat} (hi : i * 3 + n ≤ 9) : w.there g (i * 3) n := fun q hq => by
  refine ⟨?_, blk_free K _⟩
  rw [cell_of_row w g (i * 3 + q) _ _ (0, 0) K]
  have : (c9 X).size = 9 := rfl
  rw [Array.getElem?_eq_getElem (by omega)]
  rfl
theorem range_below {w w' : World} {B b o : Nat} {cs : List Value} (h : w.rangeAt b o cs) (k : Below B w w') (hb : b < B) : w'.rangeAt b o cs := fun j v hv => (k.cell (p := ⟨b, o + j, none⟩) hb).trans (h j v hv)
theorem c_range {w : World} {g : Nat} {c : Nat → Int} {T : TypeId} (K : Blk w g (cA c) T) : w.rangeAt g 0 (cA c).toList := fun q v hv => by
  rw [cell_of_row w g (0 + q) _ _ (0, 0) K, Nat.zero_add, ← hv, Array.getElem?_toList]

/-- A slice of commands. -/
def Cms (w : World) (B : Nat) (A : Option Addr) (n : Nat) (X : Nat → Nat → Int) : Prop :=
  0 < n → ∃ b off, A = some ⟨b, off, none⟩ ∧ b < B ∧ ∀ i, i < n → w.rangeAt b (off + i * 3) (cA (X i)).toList
theorem Cms.below {w w' : World} {B : Nat} {A : Option Addr} {n : Nat} {X : Nat → Nat → Int} (h : Cms w B A n X) (hb : Below B w w') : Cms w' B A n X := by
  intro hn
  obtain ⟨b, off, rfl, hlt, hc⟩ := h hn
  exact ⟨b, off, rfl, hlt, fun i hi => range_below (hc i hi) hb hlt⟩
theorem Cms.more {w : World} {B B' : Nat} {A : Option Addr} {n : Nat} {X : Nat → Nat → Int} (h : Cms w B A n X) (hB : B ≤ B') : Cms w B' A n X := by
  intro hn
  obtain ⟨b, off, rfl, hlt, hc⟩ := h hn
  exact ⟨b, off, rfl, by omega, hc⟩
theorem Cms.next {w w' : World} {A : Option Addr} {n : Nat} {X : Nat → Nat → Int} (h : Cms w w.heap.size A n X) (hb : Below w.heap.size w w') : Cms w' w'.heap.size A n X := (h.below hb).more hb.size
theorem cms_of_c9 {w : World} {g : Nat} {X : Nat → Nat → Int} {T : TypeId} (K : Blk w g (c9 X) T) : Cms w w.heap.size (some ⟨g, 0, none⟩) 3 X :=
  fun _ => ⟨g, 0, rfl, blk_lt K, fun i hi => by rw [Nat.zero_add]; exact c9_range K hi⟩

end Go.Proofs.Ytpjekkdidihagaa.Lanes
