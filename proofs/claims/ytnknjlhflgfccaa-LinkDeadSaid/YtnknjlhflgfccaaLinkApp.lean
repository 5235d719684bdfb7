/- A slice of messages of the call's own: what it holds, what is appended. Conditions: at most three messages. -/
import Derived.Test.YtnknjlhflgfccaaLinkRow
import Derived.OwnWalk
import Derived.Laws.AppendOwnNone
import Derived.Laws.OwnMore
namespace Go.Proofs.Ytnknjlhflgfccaa.Link
open Go.ChangeShapes Go.WideShapes Go.ChangeAt Go.RowKit Num By Msg

/-- The first n messages, as cells. -/
def rowsM (F : Nat → Ms) : Nat → List Value
  | 0 => []
  | n + 1 => rowsM F n ++ (mA (F n)).toList
theorem rowsM_len (F : Nat → Ms) (n : Nat) : (rowsM F n).length = n * 11 := by
  induction n with
  | zero => rfl
  | succ n ih => unfold rowsM; rw [List.length_append, ih]; simp; omega
theorem rowsM_as {F G : Nat → Ms} {n : Nat} (h : ∀ i, i < n → F i = G i) : rowsM F n = rowsM G n := by
  induction n with
  | zero => rfl
  | succ n ih => unfold rowsM; rw [ih fun i hi => h i (by omega), h n (by omega)]
theorem rowsM_at (F : Nat → Ms) (n i q : Nat) (hi : i < n) (hq : q < 11) : (rowsM F n)[i * 11 + q]? = (mA (F i)).toList[q]? := by
  induction n with
  | zero => omega
  | succ n ih =>
    unfold rowsM
    by_cases h : i < n
    · rw [List.getElem?_append_left (by rw [rowsM_len]; omega), ih h]
    · obtain rfl : i = n := by omega
      rw [List.getElem?_append_right (by rw [rowsM_len]; omega), rowsM_len, show i * 11 + q - i * 11 = q by omega]
abbrev OwnM (w : World) (base : Nat) (v : Value) (n : Nat) (F : Nat → Ms) : Prop := w.ownsRow base 38 11 v n (rowsM F n)
theorem own_nil (w : World) (base : Nat) (F : Nat → Ms) : OwnM w base (.slice none 0 0) 0 F := World.ownsRow_nil _ _ _ _
theorem mss_of {w : World} {base : Nat} {v : Value} {n : Nat} {F : Nat → Ms} (h : OwnM w base v n F) : ∃ A c, v = .slice A n c ∧ Mss w w.heap.size A n F := by
  rcases h.2 with ⟨rfl, rfl⟩ | ⟨g, cap, cur, rfl, _, hh, hc, _, hs, hcur⟩
  · exact ⟨none, 0, rfl, fun hh => by omega⟩
  · refine ⟨_, cap, rfl, fun _ => ⟨g, 0, rfl, lt_of_at hh, fun i hi q u hu => ?_⟩⟩
    have hq : q < 11 := (List.getElem?_eq_some_iff.1 hu).1
    rw [Nat.zero_add, cell_of_row w g (i * 11 + q) cur _ (0, 0) hh, ← hu, ← rowsM_at F n i q hi hq, ← hcur, List.getElem?_take, if_pos (by omega), Array.getElem?_toList]
theorem info_msg : (Try.prog.info? 38).map (fun i => (i.zero, i.size, i.bytes)) = some (some (.agg (mA m0)), 11, 40) := by kernel_rfl
/-- 'append(v, m)'. -/
theorem wpList_append_m {w : World} {ops : Array Oper} {rest : List Oper} {o : Oper} {a : Act} {Q : Exit → Act → World → Prop} (hgd : o.guard = none) (s x : Operand)
    (ho : o.op = .call { callee := .builtin .append, args := #[s, x], argTypes := #[44, 44] }) (base n : Nat) (F : Nat → Ms) (v : Value) (g c : Nat) (m : Ms)
    (hs : a.eval s = v) (hv : OwnM w base v n F) (hbase : base ≤ w.heap.size) (hx : a.eval x = .slice (some ⟨g, 0, none⟩) 1 c) (K : Blk w g (mA m) 38) (hn : n ≤ 3)
    (h : ∀ v' w', OwnM w' base v' (n + 1) (updT F n m) → Below base w w' → wpList Try.prog ops Q rest (a.put o.dst v') w') : wpList Try.prog ops Q (o :: rest) a w := by
  obtain ⟨i0, hi, hz0, hz1, hz2⟩ := info_parts info_msg
  have er : rowsM F n ++ (mA m).toList = rowsM (updT F n m) (n + 1) := by
    show _ = rowsM (updT F n m) n ++ (mA (updT F n m n)).toList
    rw [updT_at, rowsM_as (F := updT F n m) (G := F) fun i hi => updT_off (by omega)]
  refine wpList_append_own w hgd s x _ ho base 38 i0 _ 11 40 Try.underlying44 hi hz0 hz1 hz2 rfl (by decide) v n _ hs hv ⟨g, 0, none⟩ 1 c (mA m).toList hx rfl ?_ ?_ (by unfold maxLen; omega) (by omega) hbase ?_
  · intro j u hu
    rw [By.add_plain, Nat.zero_add, cell_of_row w g j _ _ (0, 0) K, ← hu, Array.getElem?_toList]
  · intro u hu
    simp only [List.mem_cons, List.not_mem_nil, or_false] at hu
    rcases hu with rfl | rfl | rfl | rfl | rfl | rfl | rfl | rfl | rfl | rfl | rfl <;> rfl
  · intro v' w' hown hg _
    rw [er] at hown
    exact h v' w' hown ((Below.refl _ _).grown hg hbase (own_base hv))

end Go.Proofs.Ytnknjlhflgfccaa.Link
