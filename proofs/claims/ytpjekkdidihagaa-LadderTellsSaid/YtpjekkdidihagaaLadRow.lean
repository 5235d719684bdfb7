/- A level's row in memory: its nine cells, both rows in a block, loads kept shut; '==' of rows. Conditions: none. -/
import Derived.Test.YtpjekkdidihagaaLadNum
import Derived.Test.YtpjekkdidihagaaEquipRow
namespace Go.Proofs.Ytpjekkdidihagaa.Lad
open Go.ChangeShapes Go.WideShapes Go.ChangeAt Go.RowKit Num Pers Vote Equip
open Lanes hiding Blk

/-- A row's cells; both rows'. -/
abbrev rgA (l : Int) (S : St) : Array Value := #[.int .u8 l, .int .i64 (S.s 0), .int .i64 (S.s 1), .int .i64 (S.s 2), .int .i64 (S.s 3), .int .i64 S.l, .int .i64 S.y, .bool S.r, .bool S.t]
abbrev r18 : Array Value := #[.int .u8 2, .int .i64 3, .int .i64 3, .int .i64 3, .int .i64 3, .int .i64 3, .int .i64 2, .bool true, .bool true, .int .u8 1, .int .i64 2, .int .i64 2, .int .i64 2, .int .i64 2, .int .i64 2, .int .i64 1, .bool true, .bool false]
theorem infoR : (Try.prog.info? 28).map (·.size) = some 9 := by kernel_rfl

/-- What a load of a row, of an inventory gives: kept shut, so that a walk meets it as one fact. -/
def ldR (x : Value) : Sem Value := Instr.loadAt 28 x
theorem ldR_eq (x : Value) : Instr.loadAt 28 x = ldR x := rfl
def ldS (x : Value) : Sem Value := Instr.loadAt 24 x
theorem ldS_eq (x : Value) : Instr.loadAt 24 x = ldS x := rfl
theorem ldS_blk {W : World} {g : Nat} {S : St} (K : Blk W g (stA S) 24) : (ldS (.pointer (some ⟨g, 0, none⟩))).run Try.prog W = .ok (.agg (stA S)) W := by
  unfold ldS
  simp only [Instr.loadAt, Instr.sureAddr, Sem.run_bind, Sem.run_pure, Result.andThen_ok, run_loadVar_row W g _ _ (stA S) (0, 0) _ K Try.underlying24 rfl infoS]
theorem ldS_part {W : World} {g o : Nat} {S : St} (K : W.rangeAt g o (stA S).toList) : (ldS (.pointer (some ⟨g, o, none⟩))).run Try.prog W = .ok (.agg (stA S)) W :=
  run_loadAt_mid W g o 24 (stA S).toList _ K Try.underlying24 rfl infoS
theorem ldR_part {W : World} {g o : Nat} {l : Int} {S : St} (K : W.rangeAt g o (rgA l S).toList) : (ldR (.pointer (some ⟨g, o, none⟩))).run Try.prog W = .ok (.agg (rgA l S)) W :=
  run_loadAt_mid W g o 28 (rgA l S).toList _ K Try.underlying28 rfl infoR

/-- A row's parts. -/
theorem range_of {w : World} {g : Nat} {us : Array Value} {T : TypeId} (K : Blk w g us T) {o : Nat} {cs : List Value} (h : ∀ j, j < cs.length → us[o + j]? = cs[j]?) : w.rangeAt g o cs := fun j v hv => by
  have hj : j < cs.length := (List.getElem?_eq_some_iff.1 hv).1
  exact blk_cell K ((h j hj).trans hv)
theorem r18_at : ∀ k : Fin 2, ∀ j : Fin 9, r18[k.val * 9 + j.val]? = (rgA (rowL k.val) (rowS k.val)).toList[j.val]? := fun k j => match k, j with
  | 0, 0 => rfl
  | 0, 1 => rfl
  | 0, 2 => rfl
  | 0, 3 => rfl
  | 0, 4 => rfl
  | 0, 5 => rfl
  | 0, 6 => rfl
  | 0, 7 => rfl
  | 0, 8 => rfl
  | 1, 0 => rfl
  | 1, 1 => rfl
  | 1, 2 => rfl
  | 1, 3 => rfl
  | 1, 4 => rfl
  | 1, 5 => rfl
  | 1, 6 => rfl
  | 1, 7 => rfl
  | 1, 8 => rfl
theorem ldR_row {W : World} {g k : Nat} {T : TypeId} (K : Blk W g r18 T) (hk : k < 2) : (ldR (.pointer (some ⟨g, k * 9, none⟩))).run Try.prog W = .ok (.agg (rgA (rowL k) (rowS k))) W :=
  ldR_part (range_of K fun j hj => r18_at ⟨k, hk⟩ ⟨j, hj⟩)
theorem ldS_row {W : World} {g k : Nat} {T : TypeId} (K : Blk W g r18 T) (hk : k < 2) : (ldS (.pointer (some ⟨g, k * 9 + 1, none⟩))).run Try.prog W = .ok (.agg (stA (rowS k))) W :=
  ldS_part (range_of K fun j hj => by
    have h := r18_at ⟨k, hk⟩ ⟨j + 1, by have : j < 8 := hj; omega⟩
    have e : k * 9 + 1 + j = k * 9 + (j + 1) := by omega
    rw [e]
    exact h)
theorem lev_row {W : World} {g k : Nat} {T : TypeId} (K : Blk W g r18 T) (hk : k < 2) : W.cell? ⟨g, k * 9, none⟩ = some (.int .u8 (rowL k)) :=
  blk_cell K (r18_at ⟨k, hk⟩ 0)
theorem ldS_rg {W : World} {g : Nat} {l : Int} {S : St} {T : TypeId} (K : Blk W g (rgA l S) T) : (ldS (.pointer (some ⟨g, 1, none⟩))).run Try.prog W = .ok (.agg (stA S)) W :=
  ldS_part (range_of K fun j hj => by
    have h8 : j < 8 := hj
    match j, h8 with
    | 0, _ => rfl
    | 1, _ => rfl
    | 2, _ => rfl
    | 3, _ => rfl
    | 4, _ => rfl
    | 5, _ => rfl
    | 6, _ => rfl
    | 7, _ => rfl)
theorem ne_row (k : Nat) (w : World) : (Go.binOp .neq 28 (.agg (rgA (rowL k) (rowS k))) (.agg (rgA (rowL k) (rowS k)))).run Try.prog w = .ok (.bool false) w := match k with
  | 0 => by kernel_rfl
  | _ + 1 => by kernel_rfl

/-- A slice of the two rows, in memory of its own. -/
def RowsIs (w : World) (e : Ending) (w' : World) : Prop := ∃ g, e = .returned (.slice (some ⟨g, 0, none⟩) 2 2) ∧ w.heap.size ≤ g ∧ Blk w' g r18 28 ∧ Below w.heap.size w w'

end Go.Proofs.Ytpjekkdidihagaa.Lad
