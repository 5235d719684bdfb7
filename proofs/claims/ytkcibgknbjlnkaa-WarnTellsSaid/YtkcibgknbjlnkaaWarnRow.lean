/- Capabilities and what is shown, in memory: loads and stores kept shut. Conditions: none. -/
import Derived.Test.YtkcibgknbjlnkaaWarnNum
import Derived.Test.YtkcibgknbjlnkaaModeRow
namespace Go.Proofs.Ytkcibgknbjlnkaa.Wr
open Go.ChangeShapes Go.WideShapes Go.ChangeAt Go.RowKit Num Mem Md

abbrev cpA (c : Cp) : Array Value := #[.int .u8 c.l, .bool c.f, .int .u8 c.m]
abbrev shA (s : Sh) : Array Value := #[.int .u8 s.m, .int .u8 s.l, .bool s.t, .int .u8 s.w]

theorem infoCp : (Try.prog.info? 25).map (·.size) = some 3 := by kernel_rfl

theorem infoSh : (Try.prog.info? 30).map (·.size) = some 4 := by kernel_rfl

def ldCp (x : Value) : Sem Value := Instr.loadAt 25 x

theorem ldCp_eq (x : Value) : Instr.loadAt 25 x = ldCp x := rfl

theorem ldCp_blk {W : World} {g : Nat} {c : Cp} (K : Blk W g (cpA c) 25) : (ldCp (.pointer (some ⟨g, 0, none⟩))).run Try.prog W = .ok (.agg (cpA c)) W := by
  unfold ldCp
  simp only [Instr.loadAt, Instr.sureAddr, Sem.run_bind, Sem.run_pure, Result.andThen_ok, run_loadVar_row W g _ _ (cpA c) (0, 0) _ K Try.underlying25 rfl infoCp]

def stCp (x v : Value) : Sem Unit := Instr.storeAt 25 x v

theorem stCp_eq (x v : Value) : Instr.storeAt 25 x v = stCp x v := rfl

theorem stCp_blk {W : World} {g : Nat} {r : Cp} (c : Cp) (K : Blk W g (cpA r) 25) : (stCp (.pointer (some ⟨g, 0, none⟩)) (.agg (cpA c))).run Try.prog W = .ok () (W.setRow g (cpA c)) := by
  unfold stCp
  simp only [Instr.storeAt, Instr.sureAddr, Sem.run_bind, Sem.run_pure, Result.andThen_ok, run_storeVar_row W g 25 25 _ (cpA c) K infoCp rfl (by kernel_rfl)]

def ldSh (x : Value) : Sem Value := Instr.loadAt 30 x

theorem ldSh_eq (x : Value) : Instr.loadAt 30 x = ldSh x := rfl

theorem ldSh_blk {W : World} {g : Nat} {s : Sh} (K : Blk W g (shA s) 30) : (ldSh (.pointer (some ⟨g, 0, none⟩))).run Try.prog W = .ok (.agg (shA s)) W := by
  unfold ldSh
  simp only [Instr.loadAt, Instr.sureAddr, Sem.run_bind, Sem.run_pure, Result.andThen_ok, run_loadVar_row W g _ _ (shA s) (0, 0) _ K Try.underlying30 rfl infoSh]

def stSh (x v : Value) : Sem Unit := Instr.storeAt 30 x v

theorem stSh_eq (x v : Value) : Instr.storeAt 30 x v = stSh x v := rfl

theorem stSh_blk {W : World} {g : Nat} {r : Sh} (s : Sh) (K : Blk W g (shA r) 30) : (stSh (.pointer (some ⟨g, 0, none⟩)) (.agg (shA s))).run Try.prog W = .ok () (W.setRow g (shA s)) := by
  unfold stSh
  simp only [Instr.storeAt, Instr.sureAddr, Sem.run_bind, Sem.run_pure, Result.andThen_ok, run_storeVar_row W g 30 30 _ (shA s) K infoSh rfl (by kernel_rfl)]

theorem ret_sh {fn : Func} {p : Tmp} (h : fn.results = #[.cell p 30]) (tmps : Array Value) (W : World) (g : Nat) (s : Sh) (hp : tmps.getD p undef = .pointer (some ⟨g, 0, none⟩)) (K : Blk W g (shA s) 30) :
    (results fn tmps).run Try.prog W = .ok (.agg (shA s)) W :=
  results_cell_row h tmps W g 30 (shA s) (0, 0) _ hp K Try.underlying30 rfl infoSh

set_option maxRecDepth 100000 in
theorem eq_sh (a : Sh) (w : World) : (Go.binOp .eql 30 (.agg (shA a)) (.agg (shA a))).run Try.prog w = .ok (.bool true) w := by
  go_simp
  try simp

end Go.Proofs.Ytkcibgknbjlnkaa.Wr
