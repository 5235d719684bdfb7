/- Commands in memory; what holds for each of their numbers, as the package's table has it; pointers to them; loads and stores kept shut. Conditions: none. -/
import Derived.Test.YtgmgpefegmlnoaaDoorOutNum
import Derived.Test.YtgmgpefegmlnoaaDoorBandRow
namespace Go.Proofs.YtgmgpefegmlnoaaDoor.Out
open Go.ChangeShapes Go.WideShapes Go.ChangeAt Go.RowKit Num Mem Band

/-- A command's cells, by place. -/
abbrev cA (c : Nat → Int) : Array Value := #[.int .i64 (c 0), .int .i64 (c 1), .int .i64 (c 2)]
abbrev InC (c : Nat → Int) : Prop := ∀ k, k < 3 → In (c k)
theorem cA_as {c d : Nat → Int} (e : ∀ j, j < 3 → c j = d j) : cA c = cA d := by
  unfold cA; rw [e 0 (by decide), e 1 (by decide), e 2 (by decide)]
theorem cA_at (c : Nat → Int) : ∀ k : Nat, k < 3 → (cA c)[k]? = some (.int .i64 (c k)) := fun k h => match k, h with
  | 0, _ => rfl
  | 1, _ => rfl
  | 2, _ => rfl
/-- One of its numbers, another one. -/
def upC (c : Nat → Int) (k : Nat) (v : Int) (i : Nat) : Int := if i = k then v else c i
theorem upC_at (c : Nat → Int) (k : Nat) (v : Int) : upC c k v k = v := if_pos rfl
theorem upC_off {c : Nat → Int} {k i : Nat} {v : Int} (h : i ≠ k) : upC c k v i = c i := if_neg h
theorem cA_set (c : Nat → Int) (v : Int) : ∀ k : Nat, k < 3 → (cA c).setIfInBounds k (.int .i64 v) = cA (upC c k v) := fun k h => match k, h with
  | 0, _ => rfl
  | 1, _ => rfl
  | 2, _ => rfl
theorem infoC : (Tryd.prog.info? 26).map (·.size) = some 3 := by kernel_rfl
def ldC (x : Value) : Sem Value := Instr.loadAt 26 x
theorem ldC_eq (x : Value) : Instr.loadAt 26 x = ldC x := rfl
theorem ldC_blk {W : World} {g : Nat} {c : Nat → Int} (K : Blk W g (cA c) 26) : (ldC (.pointer (some ⟨g, 0, none⟩))).run Tryd.prog W = .ok (.agg (cA c)) W := by
  unfold ldC
  simp only [Instr.loadAt, Instr.sureAddr, Sem.run_bind, Sem.run_pure, Result.andThen_ok, run_loadVar_row W g _ _ (cA c) (0, 0) _ K Tryd.underlying26 rfl infoC]
def stC (x v : Value) : Sem Unit := Instr.storeAt 26 x v
theorem stC_eq (x v : Value) : Instr.storeAt 26 x v = stC x v := rfl
theorem stC_blk {W : World} {g : Nat} {d : Nat → Int} (c : Nat → Int) (K : Blk W g (cA d) 26) : (stC (.pointer (some ⟨g, 0, none⟩)) (.agg (cA c))).run Tryd.prog W = .ok () (W.setRow g (cA c)) := by
  unfold stC
  simp only [Instr.storeAt, Instr.sureAddr, Sem.run_bind, Sem.run_pure, Result.andThen_ok, run_storeVar_row W g 26 26 _ (cA c) K infoC rfl (by kernel_rfl)]
theorem ret_c {fn : Func} {p : Tmp} (h : fn.results = #[.cell p 26]) (tmps : Array Value) (W : World) (g : Nat) (c : Nat → Int) (hp : tmps.getD p undef = .pointer (some ⟨g, 0, none⟩)) (K : Blk W g (cA c) 26) :
    (results fn tmps).run Tryd.prog W = .ok (.agg (cA c)) W :=
  results_cell_row h tmps W g 26 (cA c) (0, 0) _ hp K Tryd.underlying26 rfl infoC
set_option maxRecDepth 100000 in
theorem eq_c (c : Nat → Int) (w : World) : (Go.binOp .eql 26 (.agg (cA c)) (.agg (cA c))).run Tryd.prog w = .ok (.bool true) w := by
  go_simp
  try simp
abbrev zC : Nat → Int := fun _ => 0

/-- What holds for one number of a command; the package's table of it, as it lies. -/
abbrev bdA (k : Nat) : Array Value := #[.int .i64 (lo k), .int .i64 (hi k), .int .i64 (st k)]
abbrev bdL : List Value := [.int .i64 (-20), .int .i64 20, .int .i64 40, .int .i64 (-20), .int .i64 24, .int .i64 14, .int .i64 (-500), .int .i64 500, .int .i64 1000]
def BdAt (w : World) : Prop := TabAt w 0 bdL
theorem bd_kept {w w1 : World} (h : BdAt w) (k : Below w.heap.size w w1) : BdAt w1 := tab_kept h k
theorem bd_drew {w : World} (h : BdAt w) : BdAt w.drew := h
theorem bd_pos {w : World} (h : BdAt w) : 0 < w.heap.size := h.1
theorem infoB : (Tryd.prog.info? 38).map (·.size) = some 3 := by kernel_rfl
def ldB (x : Value) : Sem Value := Instr.loadAt 38 x
theorem ldB_eq (x : Value) : Instr.loadAt 38 x = ldB x := rfl
theorem ldB_part {W : World} {g o k : Nat} (K : W.rangeAt g o (bdA k).toList) : (ldB (.pointer (some ⟨g, o, none⟩))).run Tryd.prog W = .ok (.agg (bdA k)) W :=
  run_loadAt_mid W g o 38 (bdA k).toList _ K Tryd.underlying38 rfl infoB
theorem bdL_at : ∀ k : Fin 3, ∀ j : Fin 3, bdL[k.val * 3 + j.val]? = (bdA k.val).toList[j.val]? := fun k j => match k, j with
  | 0, 0 => rfl
  | 0, 1 => rfl
  | 0, 2 => rfl
  | 1, 0 => rfl
  | 1, 1 => rfl
  | 1, 2 => rfl
  | 2, 0 => rfl
  | 2, 1 => rfl
  | 2, 2 => rfl
theorem ldB_tab {W : World} (T : BdAt W) {k : Nat} (hk : k < 3) : (ldB (.pointer (some ⟨0, k * 3, none⟩))).run Tryd.prog W = .ok (.agg (bdA k)) W :=
  ldB_part fun j v hv => by
    have hj : j < 3 := (List.getElem?_eq_some_iff.1 hv).1
    have h := T.2 (k * 3 + j) v ((bdL_at ⟨k, hk⟩ ⟨j, hj⟩).trans hv)
    rwa [Nat.zero_add] at h
theorem ldB_blk {W : World} {g k : Nat} (K : Blk W g (bdA k) 38) : (ldB (.pointer (some ⟨g, 0, none⟩))).run Tryd.prog W = .ok (.agg (bdA k)) W :=
  ldB_part (range_of K fun j _ => by rw [Nat.zero_add]; simp)
theorem lo_In (k : Nat) : In (lo k) := by have := lo_hi k; exact ⟨by omega, by omega⟩
theorem hi_In (k : Nat) : In (hi k) := by have := lo_hi k; exact ⟨by omega, by omega⟩
theorem st_In (k : Nat) : In (st k) := by have := lo_hi k; exact ⟨by omega, by omega⟩

/-- Where the three numbers of a command stand. -/
abbrev pA (g : Nat) : Array Value := #[.pointer (some ⟨g, 0, none⟩), .pointer (some ⟨g, 1, none⟩), .pointer (some ⟨g, 2, none⟩)]
abbrev zP : Array Value := #[.pointer none, .pointer none, .pointer none]
theorem pA_at (g : Nat) : ∀ k : Nat, k < 3 → (pA g)[k]? = some (.pointer (some ⟨g, k, none⟩)) := fun k h => match k, h with
  | 0, _ => rfl
  | 1, _ => rfl
  | 2, _ => rfl
theorem infoP : (Tryd.prog.info? 34).map (·.size) = some 3 := by kernel_rfl
theorem ix_p (g : Nat) (w : World) : ∀ k : Nat, k < 3 → (Instr.index 34 (.agg (pA g)) (.int .i64 (k : Int))).run Tryd.prog w = .ok (.pointer (some ⟨g, k, none⟩)) w := fun k h => match k, h with
  | 0, _ => by kernel_rfl
  | 1, _ => by kernel_rfl
  | 2, _ => by kernel_rfl
def stP (x v : Value) : Sem Unit := Instr.storeAt 34 x v
theorem stP_eq (x v : Value) : Instr.storeAt 34 x v = stP x v := rfl
theorem stP_blk {W : World} {g : Nat} {ps : Array Value} (hps : ps.size = 3) (c : Nat) (K : Blk W g ps 34) : (stP (.pointer (some ⟨g, 0, none⟩)) (.agg (pA c))).run Tryd.prog W = .ok () (W.setRow g (pA c)) := by
  unfold stP
  simp only [Instr.storeAt, Instr.sureAddr, Sem.run_bind, Sem.run_pure, Result.andThen_ok, run_storeVar_row W g 34 34 _ (pA c) K infoP hps (by kernel_rfl)]
theorem ret_p {fn : Func} {p : Tmp} (h : fn.results = #[.cell p 34]) (tmps : Array Value) (W : World) (g c : Nat) (hp : tmps.getD p undef = .pointer (some ⟨g, 0, none⟩)) (K : Blk W g (pA c) 34) :
    (results fn tmps).run Tryd.prog W = .ok (.agg (pA c)) W :=
  results_cell_row h tmps W g 34 (pA c) (0, 0) _ hp K Tryd.underlying34 rfl infoP

end Go.Proofs.YtgmgpefegmlnoaaDoor.Out
