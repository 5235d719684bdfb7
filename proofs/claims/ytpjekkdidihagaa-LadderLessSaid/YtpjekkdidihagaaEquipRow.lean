/- An inventory in memory: its block, read and written whole or by a number; '==' of two. Conditions: none. -/
import Derived.Test.YtpjekkdidihagaaEquipNum
import Derived.Test.YtpjekkdidihagaaArrEq
import Derived.Laws.Rows
import Derived.Deep.MidRow
import Derived.Deep.DeepCutAuto
import Derived.Deep.RegionHeld3
namespace Go.Proofs.Ytpjekkdidihagaa.Equip
open Go.ChangeShapes Go.WideShapes Go.ChangeAt Go.RowKit Num Pers Vote Lanes

/-- Its cells. -/
abbrev stA (S : St) : Array Value := #[.int .i64 (S.s 0), .int .i64 (S.s 1), .int .i64 (S.s 2), .int .i64 (S.s 3), .int .i64 S.l, .int .i64 S.y, .bool S.r, .bool S.t]
abbrev i4A (f : Nat → Int) : Array Value := #[.int .i64 (f 0), .int .i64 (f 1), .int .i64 (f 2), .int .i64 (f 3)]
abbrev zS : St := ⟨fun _ => 0, 0, 0, false, false⟩
abbrev Blk := @Lanes.Blk
theorem st_at (S : St) : ∀ k : Nat, k < 4 → (stA S)[k]? = some (.int .i64 (S.s k)) := fun k h => match k, h with
  | 0, _ => rfl
  | 1, _ => rfl
  | 2, _ => rfl
  | 3, _ => rfl
theorem st_set (S : St) (v : Int) (k : Nat) (hk : k < 4) (f : Nat → Int) (e : ∀ a, a < 4 → (if a = k then v else S.s a) = f a) : (stA S).setIfInBounds k (.int .i64 v) = stA ⟨f, S.l, S.y, S.r, S.t⟩ := by
  have h : ∀ a, a < 4 → Value.int .i64 (f a) = .int .i64 (if a = k then v else S.s a) := fun a ha => by rw [e a ha]
  have hk4 : k = 0 ∨ k = 1 ∨ k = 2 ∨ k = 3 := by omega
  unfold stA
  dsimp only
  rw [h 0 (by decide), h 1 (by decide), h 2 (by decide), h 3 (by decide)]
  rcases hk4 with rfl | rfl | rfl | rfl <;> simp
theorem st_as {S : St} {f : Nat → Int} (e : ∀ a, a < 4 → S.s a = f a) : stA S = stA ⟨f, S.l, S.y, S.r, S.t⟩ := by
  unfold stA
  dsimp only
  rw [e 0 (by decide), e 1 (by decide), e 2 (by decide), e 3 (by decide)]
theorem infoS : (Try.prog.info? 24).map (·.size) = some 8 := by kernel_rfl
theorem load_st {ops : Array Oper} {rest : List Oper} {o : Oper} {a : Act} {w : World} {Q : Exit → Act → World → Prop} (hgd : o.guard = none) (x : Operand) (ho : o.op = .load 24 x)
    (g : Nat) (S : St) (K : Blk w g (stA S) 24) (hx : a.eval x = .pointer (some ⟨g, 0, none⟩)) (h : wpList Try.prog ops Q rest (a.put o.dst (.agg (stA S))) w) : wpList Try.prog ops Q (o :: rest) a w :=
  wpList_load_row hgd 24 x ho g hx 24 _ (0, 0) _ K Try.underlying24 rfl infoS h
theorem store_st {ops : Array Oper} {rest : List Oper} {o : Oper} {a : Act} {w : World} {Q : Exit → Act → World → Prop} (hgd : o.guard = none) (x y : Operand) (ho : o.op = .store 24 x y)
    (g : Nat) (S R : St) (K : Blk w g (stA R) 24) (hx : a.eval x = .pointer (some ⟨g, 0, none⟩)) (hy : a.eval y = .agg (stA S)) (h : wpList Try.prog ops Q rest (a.put o.dst undef) (w.setRow g (stA S))) : wpList Try.prog ops Q (o :: rest) a w :=
  wpList_store_row hgd 24 x y ho g (stA S) hx hy 24 _ K infoS rfl (by kernel_rfl) h
theorem ret_st {fn : Func} {p : Tmp} (h : fn.results = #[.cell p 24]) (tmps : Array Value) (W : World) (g : Nat) (S : St) (hp : tmps.getD p undef = .pointer (some ⟨g, 0, none⟩)) (K : Blk W g (stA S) 24) :
    (results fn tmps).run Try.prog W = .ok (.agg (stA S)) W :=
  results_cell_row h tmps W g 24 (stA S) (0, 0) _ hp K Try.underlying24 rfl infoS
theorem ix_4 (f : Nat → Int) (w : World) : ∀ k : Nat, k < 4 → (Instr.index 22 (.agg (i4A f)) (.int .i64 (k : Int))).run Try.prog w = .ok (.int .i64 (f k)) w := fun k h => match k, h with
  | 0, _ => by kernel_rfl
  | 1, _ => by kernel_rfl
  | 2, _ => by kernel_rfl
  | 3, _ => by kernel_rfl

theorem if_and {p : Prop} [Decidable p] (b : Bool) (w : World) : (if p then (Result.ok (Value.bool b) w : Result Value) else .ok (.bool false) w) = .ok (.bool (decide p && b)) w := by by_cases h : p <;> simp [h]
theorem if_nand {p : Prop} [Decidable p] (b : Bool) (w : World) : (if p then (Result.ok (Value.bool b) w : Result Value) else .ok (.bool true) w) = .ok (.bool (!decide p || b)) w := by by_cases h : p <;> simp [h]
set_option maxRecDepth 100000 in
set_option maxHeartbeats 2000000 in
theorem eq_8 (a0 a1 a2 a3 a4 a5 b0 b1 b2 b3 b4 b5 : Int) (a6 a7 b6 b7 : Bool) (w : World) : (Go.binOp .eql 24 (.agg #[.int .i64 a0, .int .i64 a1, .int .i64 a2, .int .i64 a3, .int .i64 a4, .int .i64 a5, .bool a6, .bool a7]) (.agg #[.int .i64 b0, .int .i64 b1, .int .i64 b2, .int .i64 b3, .int .i64 b4, .int .i64 b5, .bool b6, .bool b7])).run Try.prog w = .ok (.bool (decide (a0 = b0) && (decide (a1 = b1) && (decide (a2 = b2) && (decide (a3 = b3) && (decide (a4 = b4) && (decide (a5 = b5) && (a6 == b6 && a7 == b7)))))))) w := by
  go_simp
  simp only [if_and, Bool.and_true, Bool.beq_eq_decide_eq]
set_option maxRecDepth 100000 in
set_option maxHeartbeats 2000000 in
theorem ne_8 (a0 a1 a2 a3 a4 a5 b0 b1 b2 b3 b4 b5 : Int) (a6 a7 b6 b7 : Bool) (w : World) : (Go.binOp .neq 24 (.agg #[.int .i64 a0, .int .i64 a1, .int .i64 a2, .int .i64 a3, .int .i64 a4, .int .i64 a5, .bool a6, .bool a7]) (.agg #[.int .i64 b0, .int .i64 b1, .int .i64 b2, .int .i64 b3, .int .i64 b4, .int .i64 b5, .bool b6, .bool b7])).run Try.prog w = .ok (.bool (!(decide (a0 = b0) && (decide (a1 = b1) && (decide (a2 = b2) && (decide (a3 = b3) && (decide (a4 = b4) && (decide (a5 = b5) && (a6 == b6 && a7 == b7))))))))) w := by
  go_simp
  simp only [if_nand, Bool.or_false, Bool.beq_eq_decide_eq]
theorem eq_st (S R : St) (w : World) : (Go.binOp .eql 24 (.agg (stA S)) (.agg (stA R))).run Try.prog w = .ok (.bool (eqS S R)) w := eq_8 _ _ _ _ _ _ _ _ _ _ _ _ _ _ _ _ w
theorem ne_st (S R : St) (w : World) : (Go.binOp .neq 24 (.agg (stA S)) (.agg (stA R))).run Try.prog w = .ok (.bool (!eqS S R)) w := ne_8 _ _ _ _ _ _ _ _ _ _ _ _ _ _ _ _ w

end Go.Proofs.Ytpjekkdidihagaa.Equip
