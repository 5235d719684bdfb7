/- Slices of bytes, blocks known whole: what they are in memory, how that stays while new memory is made; appends to a slice of bytes; bytes turned into a string. Conditions: none. -/
import Derived.Test.YtkcibgknbjlnkaaBase
import Derived.Below
import Derived.Deep.Draws
import Derived.Deep.QuietTactic
import Derived.BigQuiet
import Derived.OwnWalk
import Derived.Laws.AppendOwnNone
import Derived.Laws.OwnMore
import Derived.Laws.Rows
import Derived.Laws.BytesArg
namespace Go.Proofs.Ytkcibgknbjlnkaa.By
open Go.ChangeShapes Go.WideShapes Go.ChangeAt Go.RowKit Num

/-- A slice of n bytes lies at A, below block B: the one at place i is L i. -/
def Bys (w : World) (B : Nat) (A : Option Addr) (n : Nat) (L : Nat → Int) : Prop :=
  0 < n → ∃ b off, A = some ⟨b, off, none⟩ ∧ b < B ∧ ∀ i, i < n → w.cell? ⟨b, off + i, none⟩ = some (.int .u8 (L i))
/-- All of them are bytes. -/
def Byte (L : Nat → Int) : Prop := ∀ i, 0 ≤ L i ∧ L i < 256

theorem Bys.below {w w' : World} {B : Nat} {A : Option Addr} {n : Nat} {L : Nat → Int} (h : Bys w B A n L) (hb : Below B w w') : Bys w' B A n L := by
  intro hn
  obtain ⟨b, off, rfl, hlt, hc⟩ := h hn
  exact ⟨b, off, rfl, hlt, fun i hi => (hb.cell (by exact hlt)).trans (hc i hi)⟩
theorem Bys.more {w : World} {B B' : Nat} {A : Option Addr} {n : Nat} {L : Nat → Int} (h : Bys w B A n L) (hB : B ≤ B') : Bys w B' A n L := by
  intro hn
  obtain ⟨b, off, rfl, hlt, hc⟩ := h hn
  exact ⟨b, off, rfl, by omega, hc⟩
theorem Bys.next {w w' : World} {A : Option Addr} {n : Nat} {L : Nat → Int} (h : Bys w w.heap.size A n L) (hb : Below w.heap.size w w') : Bys w' w'.heap.size A n L := (h.below hb).more hb.size
theorem Bys.as {w : World} {B : Nat} {A : Option Addr} {n : Nat} {L M : Nat → Int} (h : Bys w B A n L) (e : ∀ i, i < n → L i = M i) : Bys w B A n M := by
  intro hn
  obtain ⟨b, off, rfl, hlt, hc⟩ := h hn
  exact ⟨b, off, rfl, hlt, fun i hi => by rw [← e i hi]; exact hc i hi⟩
theorem Bys.here {w : World} {A : Option Addr} {n : Nat} {L : Nat → Int} (h : Bys w w.heap.size A n L) (k : Nat) : Bys (w.drewN k) (w.drewN k).heap.size A n L := h
theorem Bys.fewer {w : World} {B : Nat} {A : Option Addr} {n m : Nat} {L : Nat → Int} (h : Bys w B A n L) (hm : m ≤ n) : Bys w B A m L := by
  intro hn
  obtain ⟨b, off, rfl, hlt, hc⟩ := h (by omega)
  exact ⟨b, off, rfl, hlt, fun i hi => hc i (by omega)⟩
theorem Bys.from {w : World} {B : Nat} {b off n : Nat} {L : Nat → Int} (h : Bys w B (some ⟨b, off, none⟩) n L) (k m : Nat) (hm : k + m ≤ n) : Bys w B (some ⟨b, off + k, none⟩) m (fun i => L (k + i)) := by
  intro hn
  obtain ⟨b', off', he, hlt, hc⟩ := h (by omega)
  replace he := Option.some.inj he
  injection he with h1 h2
  subst h1 h2
  exact ⟨b, off + k, rfl, hlt, fun i hi => by rw [Nat.add_assoc]; exact hc (k + i) (by omega)⟩
theorem Bys.cell {w : World} {B : Nat} {b off n : Nat} {L : Nat → Int} (h : Bys w B (some ⟨b, off, none⟩) n L) (i : Nat) (hi : i < n) : w.cell? ⟨b, off + i, none⟩ = some (.int .u8 (L i)) := by
  obtain ⟨b', off', he, hlt, hc⟩ := h (by omega)
  replace he := Option.some.inj he
  injection he with h1 h2
  subst h1 h2
  exact hc i hi

/-- The bytes L 0 .. L (n - 1), as cells. -/
def cellsOf (n : Nat) (L : Nat → Int) : List Value := (List.range n).map fun i => .int .u8 (L i)
theorem cellsOf_at (n : Nat) (L : Nat → Int) (i : Nat) (h : i < n) : (cellsOf n L)[i]? = some (.int .u8 (L i)) := by
  unfold cellsOf
  rw [List.getElem?_map, List.getElem?_range h]
  rfl
theorem cellsOf_len (n : Nat) (L : Nat → Int) : (cellsOf n L).length = n := by simp [cellsOf]
theorem cellsOf_last (n : Nat) (L : Nat → Int) : cellsOf (n + 1) L = cellsOf n L ++ [.int .u8 (L n)] := by simp [cellsOf, List.range_succ]
theorem cellsOf_as {n : Nat} {L M : Nat → Int} (e : ∀ i, i < n → L i = M i) : cellsOf n L = cellsOf n M :=
  List.map_congr_left fun i hi => by rw [e i (List.mem_range.1 hi)]
theorem lt_of_at {w : World} {g : Nat} {o : Obj} (h : w.heap[g]? = some o) : g < w.heap.size := by
  rcases Nat.lt_or_ge g w.heap.size with h' | h'
  · exact h'
  · rw [Array.getElem?_eq_none h'] at h; cases h
theorem bys_of_block {w : World} {g n : Nat} {t : TypeId} {cur : Array Value} {L : Nat → Int} (hh : w.heap[g]? = some (.cells cur t (0, 0))) (hc : cur.toList.take n = cellsOf n L) : Bys w w.heap.size (some ⟨g, 0, none⟩) n L := by
  refine fun _ => ⟨g, 0, rfl, lt_of_at hh, fun i hi => ?_⟩
  rw [cell_of_row w g (0 + i) cur t (0, 0) hh, Nat.zero_add, ← cellsOf_at n L i hi, ← hc, List.getElem?_take, if_pos hi]
  simp
theorem bys_of_own {w : World} {base : Nat} {t : TypeId} {v : Value} {n : Nat} {L : Nat → Int} (h : w.ownsRow base t 1 v n (cellsOf n L)) : ∃ A c, v = .slice A n c ∧ (A = none → n = 0 ∧ c = 0) ∧ n ≤ c ∧ Bys w w.heap.size A n L := by
  rcases h.2 with ⟨rfl, rfl⟩ | ⟨g, cap, cur, rfl, _, hh, hc, _, _, hcur⟩
  · exact ⟨none, 0, rfl, fun _ => ⟨rfl, rfl⟩, Nat.le_refl _, fun hh => by omega⟩
  · exact ⟨_, cap, rfl, fun h => by simp at h, hc, bys_of_block hh (by simpa using hcur)⟩
theorem own_base {w : World} {base : Nat} {t : TypeId} {s : Nat} {v : Value} {n : Nat} {xs : List Value} (h : w.ownsRow base t s v n xs) : ∀ g, v.ownBlock = some g → base ≤ g := by
  intro g hg
  rcases h.2 with ⟨rfl, rfl⟩ | ⟨g', cap, cur, rfl, hb, _⟩
  · simp [Value.ownBlock] at hg
  · have : g' = g := by simpa [Value.ownBlock] using hg
    omega
theorem add_plain (b off j : Nat) : ((⟨b, off, none⟩ : Addr).add j) = ⟨b, off + j, none⟩ := by unfold Addr.add; split <;> simp_all
theorem info_byte : (Try.prog.info? 5).map (fun i => (i.zero, i.size, i.bytes)) = some (some (.int .u8 0), 1, 1) := by kernel_rfl

/-- A block, as it was laid: its cells, none of them frozen. -/
def Blk (w : World) (b : Nat) (us : Array Value) (T : TypeId) : Prop := w.heap[b]? = some (.cells us T (0, 0))
theorem blk_new {w w1 : World} {us : Array Value} {T : TypeId} (h : Below (w.alloc (.cells us T)).heap.size (w.alloc (.cells us T)) w1) : Blk w1 w.heap.size us T :=
  (h.block _ (by simp)).trans (heap_alloc_new w _)
theorem blk_lt {w : World} {b : Nat} {us : Array Value} {T : TypeId} (h : Blk w b us T) : b < w.heap.size := (Array.getElem?_eq_some_iff.1 h).1
theorem blk_kept {w w1 : World} {b : Nat} {us : Array Value} {T : TypeId} (h : Blk w b us T) (k : Below w.heap.size w w1) : Blk w1 b us T := (k.block b (blk_lt h)).trans h
theorem blk_under {w w1 : World} {b B : Nat} {us : Array Value} {T : TypeId} (h : Blk w b us T) (k : Below B w w1) (hb : b < B) : Blk w1 b us T := (k.block b hb).trans h
theorem blk_cell {w : World} {b : Nat} {us : Array Value} {T : TypeId} (h : Blk w b us T) {o : Nat} {v : Value} (e : us[o]? = some v) : w.cell? ⟨b, o, none⟩ = some v := by
  unfold Blk at h; simp [World.cell?, h, e]
theorem blk_free {w : World} {b : Nat} {us : Array Value} {T : TypeId} (h : Blk w b us T) (o : Nat) : w.frozen? ⟨b, o, none⟩ = false := by
  unfold Blk at h; simp [World.frozen?, h]
theorem blk_alloc (w : World) (us : Array Value) (T : TypeId) : Blk (w.alloc (.cells us T)) w.heap.size us T := heap_alloc_new w _
theorem blk_row {w : World} {b : Nat} {us : Array Value} {T : TypeId} (h : Blk w b us T) (vs : Array Value) : Blk (w.setRow b vs) b vs T := setRow_heap w b us vs T _ h
theorem blk_row_far {w : World} {b c : Nat} {us : Array Value} {T : TypeId} (h : Blk w b us T) (ne : b ≠ c) (vs : Array Value) : Blk (w.setRow c vs) b us T := (setRow_other w c b vs (by omega)).trans h
theorem below_row {B : Nat} {a w : World} (h : Below B a w) {g : Nat} (hg : B ≤ g) (cs : Array Value) : Below B a (w.setRow g cs) :=
  ⟨h.os, h.tape, h.output, by rw [setRow_size]; exact h.size, fun k hk => by
    rw [← h.block k hk]
    have ne : g ≠ k := by omega
    simp [World.setRow, Array.getElem?_modify, ne]⟩
/-- The same, over a world that differs in what was drawn alone. -/
theorem below_at {w w2 w1 : World} (b : Below w2.heap.size w2 w1) (eh : w2.heap = w.heap := by rfl) (eo : w2.os = w.os := by rfl) (et : w2.tape = w.tape := by rfl) (ep : w2.output = w.output := by rfl) : Below w.heap.size w w1 := by
  have es : w.heap.size = w2.heap.size := by rw [eh]
  exact ⟨b.os.trans eo, b.tape.trans et, b.output.trans ep, es ▸ b.size, fun j hj => (b.block j (es ▸ hj)).trans (by rw [eh])⟩
theorem blk_set {w : World} {b : Nat} {us : Array Value} {T : TypeId} (h : Blk w b us T) (o : Nat) (v : Value) : Blk (w.setCell ⟨b, o, none⟩ v) b (us.setIfInBounds o v) T := by
  unfold Blk at *
  simp [World.setCell, Array.getElem?_modify, h]
theorem blk_far {w : World} {b c : Nat} {us : Array Value} {T : TypeId} (h : Blk w b us T) (o : Nat) (v : Value) (ne : b ≠ c) : Blk (w.setCell ⟨c, o, none⟩ v) b us T :=
  (Below.heap_setCell w ⟨c, o, none⟩ v b ne).trans h
theorem below_alloc {w w1 : World} {o : Obj} (b : Below (w.alloc o).heap.size (w.alloc o) w1) : Below w.heap.size w w1 :=
  ((Below.refl _ w).alloc (Nat.le_refl _) o).trans (b.mono (by simp))

/-- One slice behind another. -/
def catL (k : Nat) (K L : Nat → Int) (i : Nat) : Int := if i < k then K i else L (i - k)
theorem catL_lo {k i : Nat} {K L : Nat → Int} (h : i < k) : catL k K L i = K i := if_pos h
theorem catL_hi (k i : Nat) (K L : Nat → Int) : catL k K L (k + i) = L i := by unfold catL; rw [if_neg (by omega), Nat.add_sub_cancel_left]
theorem cells_cat (k n : Nat) (K L : Nat → Int) : cellsOf k K ++ cellsOf n L = cellsOf (k + n) (catL k K L) := by
  induction n with
  | zero =>
    simp only [cellsOf, List.range_zero, List.map_nil, List.append_nil, Nat.add_zero]
    refine List.map_congr_left fun i hi => ?_
    rw [List.mem_range] at hi
    simp [catL, hi]
  | succ n ih =>
    rw [cellsOf_last, ← List.append_assoc, ih, ← Nat.add_assoc, cellsOf_last, catL_hi]
theorem catL_byte {k : Nat} {K L : Nat → Int} (hK : Byte K) (hL : Byte L) : Byte (catL k K L) := by
  intro i
  unfold catL
  split
  · exact hK i
  · exact hL _

/-- 'append(v, l...)', v of the call's own, l bytes. -/
theorem wpList_append_more {w : World} {ops : Array Oper} {rest : List Oper} {o : Oper} {a : Act} {Q : Exit → Act → World → Prop} (hgd : o.guard = none) (s x : Operand)
    (ho : o.op = .call { callee := .builtin .append, args := #[s, x], argTypes := #[26, 26] }) (base k : Nat) (K : Nat → Int) (v : Value) (A : Option Addr) (n c : Nat) (L : Nat → Int)
    (hs : a.eval s = v) (hv : w.ownsRow base 5 1 v k (cellsOf k K)) (hbase : base ≤ w.heap.size) (hx : a.eval x = .slice A n c) (hP : Bys w w.heap.size A n L) (hnil : A = none → n = 0 ∧ c = 0) (hn : k + n ≤ 140737488355328)
    (h : ∀ v' w', w'.ownsRow base 5 1 v' (k + n) (cellsOf (k + n) (catL k K L)) → Below base w w' → wpList Try.prog ops Q rest (a.put o.dst v') w') : wpList Try.prog ops Q (o :: rest) a w := by
  obtain ⟨i0, hi, hz0, hz1, hz2⟩ := info_parts info_byte
  rw [← cells_cat] at h
  cases A with
  | none =>
    obtain ⟨rfl, rfl⟩ := hnil rfl
    refine wpList_append_own_none hgd s x _ ho base 5 i0 1 Try.underlying26 hi v k _ hs hv hx (h v w ?_ (Below.refl _ _))
    simpa [cellsOf] using hv
  | some ad =>
    refine wpList_append_own w hgd s x _ ho base 5 i0 _ 1 1 Try.underlying26 hi hz0 hz1 hz2 rfl (by decide) v k _ hs hv ad n c (cellsOf n L) hx (by simp [cellsOf]) ?_ ?_ (by unfold maxLen; omega) (by omega) hbase ?_
    · intro j u hu
      have hj : j < n := by
        have := (List.getElem?_eq_some_iff.1 hu).1
        simpa [cellsOf] using this
      obtain ⟨b, off, he, _, hc⟩ := hP (by omega)
      replace he := Option.some.inj he
      subst he
      have ha : ((⟨b, off, none⟩ : Addr).add j) = ⟨b, off + j, none⟩ := add_plain b off j
      rw [cellsOf_at n L j hj] at hu
      rw [ha, ← hu]
      exact hc j hj
    · intro u hu
      simp only [cellsOf, List.mem_map] at hu
      obtain ⟨j, _, rfl⟩ := hu
      rfl
    · intro v' w' hown hg _
      exact h v' w' hown ((Below.refl _ _).grown hg hbase (own_base hv))

/-- The same at a step of a region that draws its order; something is appended. -/
theorem step_append_more {w : World} {ops : Array Oper} {o : Oper} {a : Act} {C : Act → World → Prop} {Q : Exit → Act → World → Prop} {E : Prop} (hgd : o.guard = none) (s x : Operand)
    (ho : o.op = .call { callee := .builtin .append, args := #[s, x], argTypes := #[26, 26] }) (base k : Nat) (K : Nat → Int) (v : Value) (ad : Addr) (n c : Nat) (L : Nat → Int)
    (hs : a.eval s = v) (hv : w.ownsRow base 5 1 v k (cellsOf k K)) (hbase : base ≤ w.heap.size) (hx : a.eval x = .slice (some ad) n c) (hP : Bys w w.heap.size (some ad) n L) (hn : k + n ≤ 140737488355328)
    (h : ∀ v' w', w'.ownsRow base 5 1 v' (k + n) (cellsOf (k + n) (catL k K L)) → Below base w w' → C (a.put o.dst v') w') :
    if Region.wanted o (yielded ops a.tmps) = true then Oper.wp Try.prog o a w C Q else E := by
  obtain ⟨i0, hi, hz0, hz1, hz2⟩ := info_parts info_byte
  rw [← cells_cat] at h
  have hw : Region.wanted o (yielded ops a.tmps) = true := by simp [Region.wanted, hgd]
  rw [if_pos hw]
  refine wp_append_own w s x _ ho base 5 i0 _ 1 1 Try.underlying26 hi hz0 hz1 hz2 rfl (by decide) v k _ hs hv ad n c (cellsOf n L) hx (by simp [cellsOf]) ?_ ?_ (by unfold maxLen; omega) (by omega) hbase ?_
  · intro j u hu
    have hj : j < n := by
      have := (List.getElem?_eq_some_iff.1 hu).1
      simpa [cellsOf] using this
    obtain ⟨b, off, he, _, hc⟩ := hP (by omega)
    replace he := Option.some.inj he
    subst he
    have ha : ((⟨b, off, none⟩ : Addr).add j) = ⟨b, off + j, none⟩ := add_plain b off j
    rw [cellsOf_at n L j hj] at hu
    rw [ha, ← hu]
    exact hc j hj
  · intro u hu
    simp only [cellsOf, List.mem_map] at hu
    obtain ⟨j, _, rfl⟩ := hu
    rfl
  · intro v' w' hown hg _
    exact h v' w' hown ((Below.refl _ _).grown hg hbase (own_base hv))

/-- The same bytes, as the elements of one block that is just laid. -/
theorem bys_new (w : World) (n : Nat) (us : Array Value) (T : TypeId) (L : Nat → Int) (h : us.toList = cellsOf n L) : Bys (w.alloc (.cells us T)) (w.alloc (.cells us T)).heap.size (some ⟨w.heap.size, 0, none⟩) n L :=
  bys_of_block (heap_alloc_new w _) (by rw [h, List.take_of_length_le (by rw [cellsOf_len]; omega)])

/-- The string of n bytes. -/
def str (n : Nat) (L : Nat → Int) : ByteArray := strOfNums ((List.range n).map L)
theorem conv_run (w : World) (A : Option Addr) (n c : Nat) (L : Nat → Int) (hP : Bys w w.heap.size A n L) (hnil : A = none → n = 0 ∧ c = 0) :
    (convert 26 9 (.slice A n c)).run Try.prog w = .ok (.string (str n L)) w := by
  rcases Nat.eq_zero_or_pos n with h0 | hn
  · subst h0
    cases A with
    | none =>
      rw [run_convert_bytes_nil w 26 5 Try.underlying26 Try.underlying5 0 c 9 Try.underlying9]
      rfl
    | some a =>
      rw [run_convert_bytes_string w _ _ 5 _ 0 c Try.underlying26 Try.underlying5 Try.underlying9]
      have hl : (loadCells a 0).run Try.prog w = .ok ([].map (Value.int .u8)).toArray w := run_loadCells_list (P := Try.prog) w a [] (fun j v hj => by simp at hj)
      rw [run_bytesToString w a 0 c [] hl]
      rfl
  · obtain ⟨b, off, rfl, _, hc⟩ := hP hn
    refine run_convert_bytes_arg w 26 5 Try.underlying26 Try.underlying5 b off n c ((List.range n).map L) (by simp) (fun i hi => ?_) 9 Try.underlying9
    rw [hc i hi]
    simp [List.getD, hi]

end Go.Proofs.Ytkcibgknbjlnkaa.By
