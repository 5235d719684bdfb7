/- States, and what the modes are told, in memory: loads and stores kept shut; a question: a function that is asked of both. Conditions: none. -/
import Derived.Test.YtkcibgknbjlnkaaModeNum
namespace Go.Proofs.Ytkcibgknbjlnkaa.Md
open Go.ChangeShapes Go.WideShapes Go.ChangeAt Go.RowKit Num Mem Band

theorem infoSt : (Try.prog.info? 23).map (·.size) = some 2 := by kernel_rfl

/-- What a load, a store does: kept shut, so that a walk meets it as one fact. -/
def ldSt (x : Value) : Sem Value := Instr.loadAt 23 x

theorem ldSt_eq (x : Value) : Instr.loadAt 23 x = ldSt x := rfl

theorem ldSt_blk {W : World} {g : Nat} {s : St} (K : Blk W g (stA s) 23) : (ldSt (.pointer (some ⟨g, 0, none⟩))).run Try.prog W = .ok (.agg (stA s)) W := by
  unfold ldSt
  simp only [Instr.loadAt, Instr.sureAddr, Sem.run_bind, Sem.run_pure, Result.andThen_ok, run_loadVar_row W g _ _ (stA s) (0, 0) _ K Try.underlying23 rfl infoSt]

def stSt (x v : Value) : Sem Unit := Instr.storeAt 23 x v

theorem stSt_eq (x v : Value) : Instr.storeAt 23 x v = stSt x v := rfl

theorem stSt_blk {W : World} {g : Nat} {r : St} (s : St) (K : Blk W g (stA r) 23) : (stSt (.pointer (some ⟨g, 0, none⟩)) (.agg (stA s))).run Try.prog W = .ok () (W.setRow g (stA s)) := by
  unfold stSt
  simp only [Instr.storeAt, Instr.sureAddr, Sem.run_bind, Sem.run_pure, Result.andThen_ok, run_storeVar_row W g 23 23 _ (stA s) K infoSt rfl (by kernel_rfl)]

theorem ret_st {fn : Func} {p : Tmp} (h : fn.results = #[.cell p 23]) (tmps : Array Value) (W : World) (g : Nat) (s : St) (hp : tmps.getD p undef = .pointer (some ⟨g, 0, none⟩)) (K : Blk W g (stA s) 23) :
    (results fn tmps).run Try.prog W = .ok (.agg (stA s)) W :=
  results_cell_row h tmps W g 23 (stA s) (0, 0) _ hp K Try.underlying23 rfl infoSt

set_option maxRecDepth 100000 in
theorem eq_st (a : St) (w : World) : (Go.binOp .eql 23 (.agg (stA a)) (.agg (stA a))).run Try.prog w = .ok (.bool true) w := by
  go_simp
  try simp

/-- A value that is a question: what it answers in whatever world comes behind. -/
def Ask (w : World) (v : Value) (q : Q) : Prop := ∃ k cap, v = .func (.func k) #[] cap ∧ (∀ a b W, (callFunc k (#[a, b] ++ cap)).run Try.prog W = .ok (.enter k (#[a, b] ++ cap)) W) ∧
  ∀ W, Below w.heap.size w W → ∀ s x, Calls Try.prog k (#[.agg (stA s), .agg (seA x)] ++ cap) W fun e W' => e = .returned (.bool (q s x)) ∧ Below W.heap.size W W'

theorem ask_kept {w w1 : World} {v : Value} {q : Q} (h : Ask w v q) (b : Below w.heap.size w w1) : Ask w1 v q := by
  obtain ⟨k, cap, e, hc, hq⟩ := h
  exact ⟨k, cap, e, hc, fun W hW => hq W (bthen b hW)⟩

/-- A function gives a question. -/
def Gives (q : Q) (w : World) (e : Ending) (w' : World) : Prop := ∃ k cap, e = .returned (.func (.func k) #[] cap) ∧ Ask w' (.func (.func k) #[] cap) q ∧ Below w.heap.size w w'

end Go.Proofs.Ytkcibgknbjlnkaa.Md
