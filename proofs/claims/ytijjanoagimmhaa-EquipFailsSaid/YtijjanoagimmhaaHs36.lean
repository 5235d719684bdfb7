/- Four signals' healths in memory, known whole: what lies at a place, a signal's part, one source put out. Conditions: none. -/
import Derived.Test.YtijjanoagimmhaaVote
import Derived.Deep.MidRow
namespace Go.Proofs.Ytijjanoagimmhaa.Vote
open Go.ChangeShapes Go.WideShapes Go.ChangeAt Go.RowKit Num Bl Pers Mid

/-- Four signals' healths, as cells. -/
def h36 (H : Nat → Nat → Hl) : Array Value := #[.int .i64 (H 0 0).b, .bool (H 0 0).o, .int .i64 (H 0 0).g, .int .i64 (H 0 1).b, .bool (H 0 1).o, .int .i64 (H 0 1).g, .int .i64 (H 0 2).b, .bool (H 0 2).o, .int .i64 (H 0 2).g, .int .i64 (H 1 0).b, .bool (H 1 0).o, .int .i64 (H 1 0).g, .int .i64 (H 1 1).b, .bool (H 1 1).o, .int .i64 (H 1 1).g, .int .i64 (H 1 2).b, .bool (H 1 2).o, .int .i64 (H 1 2).g, .int .i64 (H 2 0).b, .bool (H 2 0).o, .int .i64 (H 2 0).g, .int .i64 (H 2 1).b, .bool (H 2 1).o, .int .i64 (H 2 1).g, .int .i64 (H 2 2).b, .bool (H 2 2).o, .int .i64 (H 2 2).g, .int .i64 (H 3 0).b, .bool (H 3 0).o, .int .i64 (H 3 0).g, .int .i64 (H 3 1).b, .bool (H 3 1).o, .int .i64 (H 3 1).g, .int .i64 (H 3 2).b, .bool (H 3 2).o, .int .i64 (H 3 2).g]
theorem h36_0 (H : Nat → Nat → Hl) : ∀ i : Nat, i < 4 → (h36 H)[i * 9]? = some (.int .i64 (H i 0).b) := fun i h => match i, h with
  | 0, _ => rfl
  | 1, _ => rfl
  | 2, _ => rfl
  | 3, _ => rfl
theorem h36_1 (H : Nat → Nat → Hl) : ∀ i : Nat, i < 4 → (h36 H)[i * 9 + 1]? = some (.bool (H i 0).o) := fun i h => match i, h with
  | 0, _ => rfl
  | 1, _ => rfl
  | 2, _ => rfl
  | 3, _ => rfl
theorem h36_2 (H : Nat → Nat → Hl) : ∀ i : Nat, i < 4 → (h36 H)[i * 9 + 2]? = some (.int .i64 (H i 0).g) := fun i h => match i, h with
  | 0, _ => rfl
  | 1, _ => rfl
  | 2, _ => rfl
  | 3, _ => rfl
theorem h36_3 (H : Nat → Nat → Hl) : ∀ i : Nat, i < 4 → (h36 H)[i * 9 + 3]? = some (.int .i64 (H i 1).b) := fun i h => match i, h with
  | 0, _ => rfl
  | 1, _ => rfl
  | 2, _ => rfl
  | 3, _ => rfl
theorem h36_4 (H : Nat → Nat → Hl) : ∀ i : Nat, i < 4 → (h36 H)[i * 9 + 4]? = some (.bool (H i 1).o) := fun i h => match i, h with
  | 0, _ => rfl
  | 1, _ => rfl
  | 2, _ => rfl
  | 3, _ => rfl
theorem h36_5 (H : Nat → Nat → Hl) : ∀ i : Nat, i < 4 → (h36 H)[i * 9 + 5]? = some (.int .i64 (H i 1).g) := fun i h => match i, h with
  | 0, _ => rfl
  | 1, _ => rfl
  | 2, _ => rfl
  | 3, _ => rfl
theorem h36_6 (H : Nat → Nat → Hl) : ∀ i : Nat, i < 4 → (h36 H)[i * 9 + 6]? = some (.int .i64 (H i 2).b) := fun i h => match i, h with
  | 0, _ => rfl
  | 1, _ => rfl
  | 2, _ => rfl
  | 3, _ => rfl
theorem h36_7 (H : Nat → Nat → Hl) : ∀ i : Nat, i < 4 → (h36 H)[i * 9 + 7]? = some (.bool (H i 2).o) := fun i h => match i, h with
  | 0, _ => rfl
  | 1, _ => rfl
  | 2, _ => rfl
  | 3, _ => rfl
theorem h36_8 (H : Nat → Nat → Hl) : ∀ i : Nat, i < 4 → (h36 H)[i * 9 + 8]? = some (.int .i64 (H i 2).g) := fun i h => match i, h with
  | 0, _ => rfl
  | 1, _ => rfl
  | 2, _ => rfl
  | 3, _ => rfl
theorem info35 : (Try.prog.info? 25).map (·.size) = some 36 := by kernel_rfl
theorem load_36 {ops : Array Oper} {rest : List Oper} {o : Oper} {a : Act} {w : World} {Q : Exit → Act → World → Prop} (hgd : o.guard = none) (x : Operand) (ho : o.op = .load 25 x)
    (g : Nat) (H : Nat → Nat → Hl) (K : Blk w g (h36 H) 25) (hx : a.eval x = .pointer (some ⟨g, 0, none⟩)) (h : wpList Try.prog ops Q rest (a.put o.dst (.agg (h36 H))) w) : wpList Try.prog ops Q (o :: rest) a w :=
  wpList_load_row hgd 25 x ho g hx 25 _ (0, 0) _ K Try.underlying25 rfl info35 h

theorem part9 (A B C D : List Value) (hA : A.length = 9) (hB : B.length = 9) (hC : C.length = 9) (X : Nat → List Value) (h0 : X 0 = A) (h1 : X 1 = B) (h2 : X 2 = C) (h3 : X 3 = D) (i q : Nat) (hi : i < 4) (hq : q < 9) : (A ++ (B ++ (C ++ D)))[i * 9 + q]? = (X i)[q]? := by
  have hi4 : i = 0 ∨ i = 1 ∨ i = 2 ∨ i = 3 := by omega
  rcases hi4 with rfl | rfl | rfl | rfl
  · rw [List.getElem?_append_left (by omega), h0, show 0 * 9 + q = q by omega]
  · rw [List.getElem?_append_right (by omega), List.getElem?_append_left (by omega), h1, hA, show 1 * 9 + q - 9 = q by omega]
  · rw [List.getElem?_append_right (by omega), List.getElem?_append_right (by omega), List.getElem?_append_left (by omega), h2, hA, hB, show 2 * 9 + q - 9 - 9 = q by omega]
  · rw [List.getElem?_append_right (by omega), List.getElem?_append_right (by omega), List.getElem?_append_right (by omega), h3, hA, hB, hC, show 3 * 9 + q - 9 - 9 - 9 = q by omega]
theorem h36_list (H : Nat → Nat → Hl) : (h36 H).toList = (hsA (H 0)).toList ++ ((hsA (H 1)).toList ++ ((hsA (H 2)).toList ++ (hsA (H 3)).toList)) := rfl
theorem h36_at (H : Nat → Nat → Hl) (i q : Nat) (hi : i < 4) (hq : q < 9) : (h36 H)[i * 9 + q]? = (hsA (H i))[q]? := by
  have h := part9 (hsA (H 0)).toList (hsA (H 1)).toList (hsA (H 2)).toList (hsA (H 3)).toList rfl rfl rfl (fun i => (hsA (H i)).toList) rfl rfl rfl rfl i q hi hq
  rw [← h36_list, Array.getElem?_toList] at h
  rw [h, Array.getElem?_toList]
theorem h36_o (H : Nat → Nat → Hl) (i k : Nat) (hi : i < 4) (hk : k < 3) : (h36 H)[i * 9 + k * 3 + 1]? = some (.bool (H i k).o) := by
  rw [show i * 9 + k * 3 + 1 = i * 9 + (k * 3 + 1) by omega, h36_at H i _ hi (by omega)]
  exact hs_o (H i) k hk
theorem h36_range {w : World} {g : Nat} {H : Nat → Nat → Hl} {T : TypeId} (K : Blk w g (h36 H) T) {i : Nat} (hi : i < 4) : w.rangeAt g (i * 9) (hsA (H i)).toList := fun q v hv => by
  have hq : q < 9 := (List.getElem?_eq_some_iff.1 hv).1
  rw [cell_of_row w g (i * 9 + q) _ _ (0, 0) K, h36_at H i q hi hq, ← hv, Array.getElem?_toList]
/-- A signal's part read. -/
theorem load_hp {ops : Array Oper} {rest : List Oper} {o : Oper} {a : Act} {w : World} {Q : Exit → Act → World → Prop} (hgd : o.guard = none) (x : Operand) (ho : o.op = .load 24 x)
    (b off : Nat) (c : Nat → Hl) (R : w.rangeAt b off (hsA c).toList) (hx : a.eval x = .pointer (some ⟨b, off, none⟩)) (h : wpList Try.prog ops Q rest (a.put o.dst (.agg (hsA c))) w) : wpList Try.prog ops Q (o :: rest) a w :=
  wpList_load_mid hgd 24 x ho b off hx (hsA c).toList _ R Try.underlying24 rfl infoHs h
/-- One source put out. -/
def outS (H : Nat → Nat → Hl) (s k : Nat) (i j : Nat) : Hl := if i = s ∧ j = k then ⟨(H i j).b, true, (H i j).g⟩ else H i j
theorem h36_out (H : Nat → Nat → Hl) (s k : Nat) (hs : s < 4) (hk : k < 3) : (h36 H).setIfInBounds (s * 9 + k * 3 + 1) (.bool true) = h36 (outS H s k) := by
  have hs4 : s = 0 ∨ s = 1 ∨ s = 2 ∨ s = 3 := by omega
  have hk3 : k = 0 ∨ k = 1 ∨ k = 2 := by omega
  rcases hs4 with rfl | rfl | rfl | rfl <;> rcases hk3 with rfl | rfl | rfl <;> simp [h36, outS]

end Go.Proofs.Ytijjanoagimmhaa.Vote
