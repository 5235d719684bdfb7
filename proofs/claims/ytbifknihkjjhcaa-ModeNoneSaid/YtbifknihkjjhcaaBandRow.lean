/- Signals in memory: one, four of them in a block; what the modes are told; the package's table of edges; loads kept shut. Conditions: none. -/
import Derived.Test.YtbifknihkjjhcaaBandNum
import Derived.Test.YtbifknihkjjhcaaMem
namespace Go.Proofs.Ytbifknihkjjhcaa.Band
open Go.ChangeShapes Go.WideShapes Go.ChangeAt Go.RowKit Num Mem

/-- What the modes are told. -/
structure Se where
  bd : Int
  l : Bool
  g : Bool
  w : Bool
  lv : Int
  cr : Int
  wd : Bool
abbrev seA (s : Se) : Array Value := #[.int .u8 s.bd, .bool s.l, .bool s.g, .bool s.w, .int .u8 s.lv, .int .u8 s.cr, .bool s.wd]
abbrev zSe : Se := ⟨0, false, false, false, 0, 0, false⟩
theorem infoSe : (Try.prog.info? 25).map (·.size) = some 7 := by kernel_rfl
/-- What a store of it does: kept shut, so that a walk meets it as one fact. -/
def stSe (x v : Value) : Sem Unit := Instr.storeAt 25 x v
theorem stSe_eq (x v : Value) : Instr.storeAt 25 x v = stSe x v := rfl
theorem stSe_blk {W : World} {g : Nat} {r : Se} (s : Se) (K : Blk W g (seA r) 25) : (stSe (.pointer (some ⟨g, 0, none⟩)) (.agg (seA s))).run Try.prog W = .ok () (W.setRow g (seA s)) := by
  unfold stSe
  simp only [Instr.storeAt, Instr.sureAddr, Sem.run_bind, Sem.run_pure, Result.andThen_ok, run_storeVar_row W g 25 25 _ (seA s) K infoSe rfl (by kernel_rfl)]
theorem store_se {ops : Array Oper} {rest : List Oper} {o : Oper} {a : Act} {w : World} {Q : Exit → Act → World → Prop} (hgd : o.guard = none) (x y : Operand) (ho : o.op = .store 25 x y)
    (g : Nat) (t r : Se) (K : Blk w g (seA r) 25) (hx : a.eval x = .pointer (some ⟨g, 0, none⟩)) (hy : a.eval y = .agg (seA t)) (h : wpList Try.prog ops Q rest (a.put o.dst undef) (w.setRow g (seA t))) : wpList Try.prog ops Q (o :: rest) a w :=
  wpList_store_row hgd 25 x y ho g (seA t) hx hy 25 _ K infoSe rfl (by kernel_rfl) h
theorem ret_se {fn : Func} {p : Tmp} (h : fn.results = #[.cell p 25]) (tmps : Array Value) (W : World) (g : Nat) (t : Se) (hp : tmps.getD p undef = .pointer (some ⟨g, 0, none⟩)) (K : Blk W g (seA t) 25) :
    (results fn tmps).run Try.prog W = .ok (.agg (seA t)) W :=
  results_cell_row h tmps W g 25 (seA t) (0, 0) _ hp K Try.underlying25 rfl infoSe
set_option maxRecDepth 100000 in
theorem eq_se (a : Se) (w : World) : (Go.binOp .eql 25 (.agg (seA a)) (.agg (seA a))).run Try.prog w = .ok (.bool true) w := by
  go_simp
  try simp

end Go.Proofs.Ytbifknihkjjhcaa.Band
