/- A slice of commands, and one of numbers, of the call's own: what it holds, what is appended; which lanes are alive. Conditions: at most three commands. -/
import Derived.Test.YtdjemiimnpkfnaaLanesTog
import Derived.OwnWalk
import Derived.Laws.AppendOwnNone
import Derived.Laws.OwnMore
namespace Go.Proofs.Ytdjemiimnpkfnaa.Lanes
open Go.ChangeShapes Go.WideShapes Go.ChangeAt Go.RowKit Num Mid

/-- The first n commands, as cells. -/
def rowsC (F : Nat → Nat → Int) : Nat → List Value
  | 0 => []
  | n + 1 => rowsC F n ++ (cA (F n)).toList
theorem rowsC_len (F : Nat → Nat → Int) (n : Nat) : (rowsC F n).length = n * 3 := by
  induction n with
  | zero => rfl
  | succ n ih => unfold rowsC; rw [List.length_append, ih]; simp; omega
theorem rowsC_as {F G : Nat → Nat → Int} {n : Nat} (h : ∀ i, i < n → F i = G i) : rowsC F n = rowsC G n := by
  induction n with
  | zero => rfl
  | succ n ih => unfold rowsC; rw [ih fun i hi => h i (by omega), h n (by omega)]
theorem rowsC_at (F : Nat → Nat → Int) (n i q : Nat) (hi : i < n) (hq : q < 3) : (rowsC F n)[i * 3 + q]? = (cA (F i)).toList[q]? := by
  induction n with
  | zero => omega
  | succ n ih =>
    unfold rowsC
    by_cases h : i < n
    · rw [List.getElem?_append_left (by rw [rowsC_len]; omega), ih h]
    · obtain rfl : i = n := by omega
      rw [List.getElem?_append_right (by rw [rowsC_len]; omega), rowsC_len, show i * 3 + q - i * 3 = q by omega]
abbrev OwnC (w : World) (base : Nat) (v : Value) (n : Nat) (F : Nat → Nat → Int) : Prop := w.ownsRow base 23 3 v n (rowsC F n)
theorem own_base {w : World} {base : Nat} {t : TypeId} {s : Nat} {v : Value} {n : Nat} {xs : List Value} (h : w.ownsRow base t s v n xs) : ∀ g, v.ownBlock = some g → base ≤ g := by
  intro g hg
  exact (h.lt g hg).1
theorem cms_of_own {w : World} {base : Nat} {v : Value} {n : Nat} {F : Nat → Nat → Int} (h : OwnC w base v n F) : ∃ A c, v = .slice A n c ∧ Cms w w.heap.size A n F := by
  rcases h.2 with ⟨rfl, rfl⟩ | ⟨g, cap, cur, rfl, _, hh, hc, _, hs, hcur⟩
  · exact ⟨none, 0, rfl, fun hh => by omega⟩
  · refine ⟨_, cap, rfl, fun _ => ⟨g, 0, rfl, lt_of_at hh, fun i hi q u hu => ?_⟩⟩
    have hq : q < 3 := (List.getElem?_eq_some_iff.1 hu).1
    rw [Nat.zero_add, cell_of_row w g (i * 3 + q) cur _ (0, 0) hh, ← hu, ← rowsC_at F n i q hi hq, ← hcur, List.getElem?_take, if_pos (by omega), Array.getElem?_toList]
theorem info_cmd : (Try.prog.info? 23).map (fun i => (i.zero, i.size, i.bytes)) = some (some (.agg (cA zC)), 3, 24) := by kernel_rfl
/-- 'append(v, c)'. -/
theorem wpList_append_c {w : World} {ops : Array Oper} {rest : List Oper} {o : Oper} {a : Act} {Q : Exit → Act → World → Prop} (hgd : o.guard = none) (s x : Operand)
    (ho : o.op = .call { callee := .builtin .append, args := #[s, x], argTypes := #[40, 40] }) (base n : Nat) (F : Nat → Nat → Int) (v : Value) (g c : Nat) (m : Nat → Int)
    (hs : a.eval s = v) (hv : OwnC w base v n F) (hbase : base ≤ w.heap.size) (hx : a.eval x = .slice (some ⟨g, 0, none⟩) 1 c) (K : Blk w g (cA m) 23) (hn : n ≤ 3)
    (h : ∀ v' w', OwnC w' base v' (n + 1) (updT F n m) → Below base w w' → wpList Try.prog ops Q rest (a.put o.dst v') w') : wpList Try.prog ops Q (o :: rest) a w := by
  obtain ⟨i0, hi, hz0, hz1, hz2⟩ := info_parts info_cmd
  have er : rowsC F n ++ (cA m).toList = rowsC (updT F n m) (n + 1) := by
    show _ = rowsC (updT F n m) n ++ (cA (updT F n m n)).toList
    rw [updT_at, rowsC_as (F := updT F n m) (G := F) fun i hi => updT_off (by omega)]
  refine wpList_append_own w hgd s x _ ho base 23 i0 _ 3 24 Try.underlying40 hi hz0 hz1 hz2 rfl (by decide) v n _ hs hv ⟨g, 0, none⟩ 1 c (cA m).toList hx rfl ?_ ?_ (by unfold maxLen; omega) (by omega) hbase ?_
  · intro j u hu
    rw [Mid.add_plain, Nat.zero_add, cell_of_row w g j _ _ (0, 0) K, ← hu, Array.getElem?_toList]
  · intro u hu
    simp only [List.mem_cons, List.not_mem_nil, or_false] at hu
    rcases hu with rfl | rfl | rfl <;> rfl
  · intro v' w' hown hg _
    rw [er] at hown
    exact h v' w' hown ((Below.refl _ _).grown hg hbase (own_base hv))

/-- How many of the first n lanes are alive, and the commands of those. -/
def sK (H : Nat → Bool) : Nat → Nat
  | 0 => 0
  | n + 1 => if H n then sK H n + 1 else sK H n
def sF (X : Nat → Nat → Int) (H : Nat → Bool) : Nat → Nat → Nat → Int
  | 0 => fun _ => zC
  | n + 1 => if H n then updT (sF X H n) (sK H n) (X n) else sF X H n
theorem sK_le (H : Nat → Bool) (n : Nat) : sK H n ≤ n := by
  induction n with
  | zero => exact Nat.le_refl _
  | succ n ih => unfold sK; split <;> omega
theorem sK_on {H : Nat → Bool} {n : Nat} (h : H n = true) : sK H (n + 1) = sK H n + 1 := if_pos h
theorem sK_off {H : Nat → Bool} {n : Nat} (h : H n = false) : sK H (n + 1) = sK H n := by show (if H n then _ else _) = _; rw [h]; rfl
theorem sF_on (X : Nat → Nat → Int) {H : Nat → Bool} {n : Nat} (h : H n = true) : sF X H (n + 1) = updT (sF X H n) (sK H n) (X n) := if_pos h
theorem sF_off (X : Nat → Nat → Int) {H : Nat → Bool} {n : Nat} (h : H n = false) : sF X H (n + 1) = sF X H n := by show (if H n then _ else _) = _; rw [h]; rfl
theorem sF_in {X : Nat → Nat → Int} (hX : ∀ i j, In (X i j)) (H : Nat → Bool) (n i j : Nat) : In (sF X H n i j) := by
  induction n with
  | zero => exact (show In 0 from ⟨by decide, by decide⟩)
  | succ n ih =>
    unfold sF
    split
    · unfold updT; split
      · exact hX _ _
      · exact ih
    · exact ih
/-- What goes to the surfaces. -/
abbrev servo (X : Nat → Nat → Int) (H : Nat → Bool) : Nat → Int := tg (sK H 3) (sF X H 3)

/-- The same of numbers. -/
abbrev OwnI (w : World) (base : Nat) (v : Value) (n : Nat) (L : Nat → Int) : Prop := w.ownsRow base 2 1 v n (Mid.cellsOf n L)
theorem ints_of_own' {w : World} {base : Nat} {v : Value} {n : Nat} {L : Nat → Int} (h : OwnI w base v n L) : ∃ A c, v = .slice A n c ∧ Ints w w.heap.size A n L := ints_of_own h
theorem cellsOf_as {n : Nat} {L M : Nat → Int} (e : ∀ i, i < n → L i = M i) : Mid.cellsOf n L = Mid.cellsOf n M :=
  List.map_congr_left fun i hi => by rw [e i (List.mem_range.1 hi)]
theorem cellsOf_last (n : Nat) (L : Nat → Int) : Mid.cellsOf (n + 1) L = Mid.cellsOf n L ++ [.int .i64 (L n)] := by simp [Mid.cellsOf, List.range_succ]
/-- 'append(v, x)'. -/
theorem wpList_append_i {w : World} {ops : Array Oper} {rest : List Oper} {o : Oper} {a : Act} {Q : Exit → Act → World → Prop} (hgd : o.guard = none) (s x : Operand)
    (ho : o.op = .call { callee := .builtin .append, args := #[s, x], argTypes := #[45, 45] }) (base n : Nat) (L M : Nat → Int) (v : Value) (g c : Nat) (m : Int)
    (hs : a.eval s = v) (hv : OwnI w base v n L) (hbase : base ≤ w.heap.size) (hx : a.eval x = .slice (some ⟨g, 0, none⟩) 1 c) (K : Blk w g #[.int .i64 m] 2) (hn : n ≤ 3) (e : ∀ i, i < n → L i = M i) (em : M n = m)
    (h : ∀ v' w', OwnI w' base v' (n + 1) M → Below base w w' → wpList Try.prog ops Q rest (a.put o.dst v') w') : wpList Try.prog ops Q (o :: rest) a w := by
  obtain ⟨i0, hi, hz0, hz1, hz2⟩ := info_parts info_i64
  have er : Mid.cellsOf n L ++ [.int .i64 m] = Mid.cellsOf (n + 1) M := by
    rw [cellsOf_last, em, cellsOf_as e]
  refine wpList_append_own w hgd s x _ ho base 2 i0 _ 1 8 Try.underlying45 hi hz0 hz1 hz2 rfl (by decide) v n _ hs hv ⟨g, 0, none⟩ 1 c [.int .i64 m] hx rfl ?_ ?_ (by unfold maxLen; omega) (by omega) hbase ?_
  · intro j u hu
    rw [Mid.add_plain, Nat.zero_add, cell_of_row w g j _ _ (0, 0) K, ← hu]
    rcases j with _ | j <;> simp
  · intro u hu
    simp only [List.mem_cons, List.not_mem_nil, or_false] at hu
    rcases hu with rfl; rfl
  · intro v' w' hown hg _
    rw [er] at hown
    exact h v' w' hown ((Below.refl _ _).grown hg hbase (own_base hv))

end Go.Proofs.Ytdjemiimnpkfnaa.Lanes
