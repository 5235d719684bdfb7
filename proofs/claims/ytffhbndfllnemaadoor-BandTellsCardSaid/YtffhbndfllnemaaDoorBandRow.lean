/- Signals in memory: one, four of them in a block; what the modes are told; the package's table of edges; loads kept shut. Conditions: none. -/
import Derived.Test.YtffhbndfllnemaaDoorBandNum
import Derived.Test.YtffhbndfllnemaaDoorMem
namespace Go.Proofs.YtffhbndfllnemaaDoor.Band
open Go.ChangeShapes Go.WideShapes Go.ChangeAt Go.RowKit Num Mem

/-- A signal's cells; four signals'. -/
abbrev vtA (V : Vt) : Array Value := #[.bool V.b, .int .i64 V.v, .int .i64 V.o]
abbrev v12 (X : Nat → Vt) : Array Value := #[.bool (X 0).b, .int .i64 (X 0).v, .int .i64 (X 0).o, .bool (X 1).b, .int .i64 (X 1).v, .int .i64 (X 1).o, .bool (X 2).b, .int .i64 (X 2).v, .int .i64 (X 2).o, .bool (X 3).b, .int .i64 (X 3).v, .int .i64 (X 3).o]
theorem infoV : (Tryd.prog.info? 23).map (·.size) = some 3 := by kernel_rfl

theorem infoX : (Tryd.prog.info? 24).map (·.size) = some 12 := by kernel_rfl

/-- What a load of a signal, of four, gives: kept shut, so that a walk meets it as one fact. -/
def ldV (x : Value) : Sem Value := Instr.loadAt 23 x
theorem ldV_eq (x : Value) : Instr.loadAt 23 x = ldV x := rfl
theorem ldV_part {W : World} {g o : Nat} {V : Vt} (K : W.rangeAt g o (vtA V).toList) : (ldV (.pointer (some ⟨g, o, none⟩))).run Tryd.prog W = .ok (.agg (vtA V)) W :=
  run_loadAt_mid W g o 23 (vtA V).toList _ K Tryd.underlying23 rfl infoV

def ldX (x : Value) : Sem Value := Instr.loadAt 24 x
theorem ldX_eq (x : Value) : Instr.loadAt 24 x = ldX x := rfl
theorem ldX_blk {W : World} {g : Nat} {X : Nat → Vt} (K : Blk W g (v12 X) 24) : (ldX (.pointer (some ⟨g, 0, none⟩))).run Tryd.prog W = .ok (.agg (v12 X)) W := by
  unfold ldX
  simp only [Instr.loadAt, Instr.sureAddr, Sem.run_bind, Sem.run_pure, Result.andThen_ok, run_loadVar_row W g _ _ (v12 X) (0, 0) _ K Tryd.underlying24 rfl infoX]
theorem v12_at (X : Nat → Vt) : ∀ k : Fin 4, ∀ j : Fin 3, (v12 X)[k.val * 3 + j.val]? = (vtA (X k.val)).toList[j.val]? := fun k j => match k, j with
  | 0, 0 => rfl
  | 0, 1 => rfl
  | 0, 2 => rfl
  | 1, 0 => rfl
  | 1, 1 => rfl
  | 1, 2 => rfl
  | 2, 0 => rfl
  | 2, 1 => rfl
  | 2, 2 => rfl
  | 3, 0 => rfl
  | 3, 1 => rfl
  | 3, 2 => rfl
theorem ldV_at {W : World} {g k : Nat} {X : Nat → Vt} {T : TypeId} (K : Blk W g (v12 X) T) (hk : k < 4) : (ldV (.pointer (some ⟨g, k * 3, none⟩))).run Tryd.prog W = .ok (.agg (vtA (X k))) W :=
  ldV_part (range_of K fun j hj => v12_at X ⟨k, hk⟩ ⟨j, hj⟩)

/-- The table of edges, as it lies. -/
abbrev edL : List Value := [.int .i64 6096, .int .u8 0, .int .i64 1524, .int .u8 1, .int .i64 300, .int .u8 2]
def EdAt (w : World) : Prop := TabAt w 0 edL
theorem ed_kept {w w1 : World} (h : EdAt w) (k : Below w.heap.size w w1) : EdAt w1 := tab_kept h k
def ldE (x : Value) : Sem Value := Instr.loadAt 38 x
theorem ldE_eq (x : Value) : Instr.loadAt 38 x = ldE x := rfl
theorem infoE : (Tryd.prog.info? 38).map (·.size) = some 6 := by kernel_rfl
theorem ldE_tab {W : World} (K : EdAt W) : (ldE (.pointer (some ⟨0, 0, none⟩))).run Tryd.prog W = .ok (.agg edL.toArray) W :=
  run_loadAt_mid W 0 0 38 edL _ K.2 Tryd.underlying38 rfl infoE

theorem ix_e (w : World) : ∀ k : Nat, k < 3 → (Instr.index 38 (.agg edL.toArray) (.int .i64 (k : Int))).run Tryd.prog w = .ok (.agg #[.int .i64 (ab k), .int .u8 (k : Int)]) w := fun k h => match k, h with
  | 0, _ => by kernel_rfl
  | 1, _ => by kernel_rfl
  | 2, _ => by kernel_rfl

/-- What the modes are told. -/
structure Se where
  bd : Int
  l : Bool
  g : Bool
  w : Bool
  lv : Int
  cr : Int
  wd : Bool
abbrev seA (s : Se) : Array Value := #[.int .u8 s.bd, .bool s.l, .bool s.g, .bool s.w, .int .u8 s.lv, .int .u8 s.cr, .bool s.wd]
abbrev zSe : Se := ⟨0, false, false, false, 0, 0, false⟩
theorem infoSe : (Tryd.prog.info? 29).map (·.size) = some 7 := by kernel_rfl
/-- What a store of it does: kept shut, so that a walk meets it as one fact. -/
def stSe (x v : Value) : Sem Unit := Instr.storeAt 29 x v
theorem stSe_eq (x v : Value) : Instr.storeAt 29 x v = stSe x v := rfl
theorem stSe_blk {W : World} {g : Nat} {r : Se} (s : Se) (K : Blk W g (seA r) 29) : (stSe (.pointer (some ⟨g, 0, none⟩)) (.agg (seA s))).run Tryd.prog W = .ok () (W.setRow g (seA s)) := by
  unfold stSe
  simp only [Instr.storeAt, Instr.sureAddr, Sem.run_bind, Sem.run_pure, Result.andThen_ok, run_storeVar_row W g 29 29 _ (seA s) K infoSe rfl (by kernel_rfl)]
theorem store_se {ops : Array Oper} {rest : List Oper} {o : Oper} {a : Act} {w : World} {Q : Exit → Act → World → Prop} (hgd : o.guard = none) (x y : Operand) (ho : o.op = .store 29 x y)
    (g : Nat) (t r : Se) (K : Blk w g (seA r) 29) (hx : a.eval x = .pointer (some ⟨g, 0, none⟩)) (hy : a.eval y = .agg (seA t)) (h : wpList Tryd.prog ops Q rest (a.put o.dst undef) (w.setRow g (seA t))) : wpList Tryd.prog ops Q (o :: rest) a w :=
  wpList_store_row hgd 29 x y ho g (seA t) hx hy 29 _ K infoSe rfl (by kernel_rfl) h
theorem ret_se {fn : Func} {p : Tmp} (h : fn.results = #[.cell p 29]) (tmps : Array Value) (W : World) (g : Nat) (t : Se) (hp : tmps.getD p undef = .pointer (some ⟨g, 0, none⟩)) (K : Blk W g (seA t) 29) :
    (results fn tmps).run Tryd.prog W = .ok (.agg (seA t)) W :=
  results_cell_row h tmps W g 29 (seA t) (0, 0) _ hp K Tryd.underlying29 rfl infoSe
set_option maxRecDepth 100000 in
theorem eq_se (a : Se) (w : World) : (Go.binOp .eql 29 (.agg (seA a)) (.agg (seA a))).run Tryd.prog w = .ok (.bool true) w := by
  go_simp
  try simp

end Go.Proofs.YtffhbndfllnemaaDoor.Band
