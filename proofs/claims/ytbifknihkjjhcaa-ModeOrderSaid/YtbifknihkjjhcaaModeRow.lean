/- States, and what the modes are told, in memory: loads and stores kept shut; a question: a function that is asked of both. Conditions: none. -/
import Derived.Test.YtbifknihkjjhcaaModeNum
namespace Go.Proofs.Ytbifknihkjjhcaa.Md
open Go.ChangeShapes Go.WideShapes Go.ChangeAt Go.RowKit Num Mem Band

theorem infoSt : (Try.prog.info? 23).map (·.size) = some 2 := by kernel_rfl
/-- What a load, a store does: kept shut, so that a walk meets it as one fact. -/
def ldSt (x : Value) : Sem Value := Instr.loadAt 23 x
theorem ldSt_eq (x : Value) : Instr.loadAt 23 x = ldSt x := rfl
theorem ldSt_blk {W : World} {g : Nat} {s : St} (K : Blk W g (stA s) 23) : (ldSt (.pointer (some ⟨g, 0, none⟩))).run Try.prog W = .ok (.agg (stA s)) W := by
  unfold ldSt
  simp only [Instr.loadAt, Instr.sureAddr, Sem.run_bind, Sem.run_pure, Result.andThen_ok, run_loadVar_row W g _ _ (stA s) (0, 0) _ K Try.underlying23 rfl infoSt]
def stSt (x v : Value) : Sem Unit := Instr.storeAt 23 x v
theorem stSt_eq (x v : Value) : Instr.storeAt 23 x v = stSt x v := rfl
theorem stSt_blk {W : World} {g : Nat} {r : St} (s : St) (K : Blk W g (stA r) 23) : (stSt (.pointer (some ⟨g, 0, none⟩)) (.agg (stA s))).run Try.prog W = .ok () (W.setRow g (stA s)) := by
  unfold stSt
  simp only [Instr.storeAt, Instr.sureAddr, Sem.run_bind, Sem.run_pure, Result.andThen_ok, run_storeVar_row W g 23 23 _ (stA s) K infoSt rfl (by kernel_rfl)]
theorem ret_st {fn : Func} {p : Tmp} (h : fn.results = #[.cell p 23]) (tmps : Array Value) (W : World) (g : Nat) (s : St) (hp : tmps.getD p undef = .pointer (some ⟨g, 0, none⟩)) (K : Blk W g (stA s) 23) :
    (results fn tmps).run Try.prog W = .ok (.agg (stA s)) W :=
  results_cell_row h tmps W g 23 (stA s) (0, 0) _ hp K Try.underlying23 rfl infoSt
set_option maxRecDepth 100000 in
theorem eq_st (a : St) (w : World) : (Go.binOp .eql 23 (.agg (stA a)) (.agg (stA a))).run Try.prog w = .ok (.bool true) w := by
  go_simp
  try simp

def ldSe (x : Value) : Sem Value := Instr.loadAt 25 x
theorem ldSe_eq (x : Value) : Instr.loadAt 25 x = ldSe x := rfl
theorem ldSe_blk {W : World} {g : Nat} {s : Se} (K : Blk W g (seA s) 25) : (ldSe (.pointer (some ⟨g, 0, none⟩))).run Try.prog W = .ok (.agg (seA s)) W := by
  unfold ldSe
  simp only [Instr.loadAt, Instr.sureAddr, Sem.run_bind, Sem.run_pure, Result.andThen_ok, run_loadVar_row W g _ _ (seA s) (0, 0) _ K Try.underlying25 rfl infoSe]
theorem ldSe_part {W : World} {g o : Nat} {x : Se} (K : W.rangeAt g o (seA x).toList) : (ldSe (.pointer (some ⟨g, o, none⟩))).run Try.prog W = .ok (.agg (seA x)) W :=
  run_loadAt_mid W g o 25 (seA x).toList _ K Try.underlying25 rfl infoSe

/-- A state and what the modes are told, boxed. -/
structure TwAt (w0 : World) (s : St) (x : Se) (w : World) : Prop where
  below : Below w0.heap.size w0 w
  hs : Blk w w0.heap.size (stA s) 23
  hx : Blk w (w0.heap.size + 1) (seA x) 25
theorem tw_box (w : World) (s : St) (x : Se) : TwAt w s x ((w.alloc (.cells (stA s) 23)).alloc (.cells (seA x) 25)) :=
  ⟨below_new (allocs w _) _, blk_kept (blk_alloc w _ _) (allocs _ _), blk_alloc2 w _ _ _⟩
theorem tw_call {w0 w w1 : World} {s : St} {x : Se} (h : TwAt w0 s x w) (b : Below w.heap.size w w1) : TwAt w0 s x w1 := ⟨bthen h.below b, blk_kept h.hs b, blk_kept h.hx b⟩
theorem tw_drew {w0 w : World} {s : St} {x : Se} (h : TwAt w0 s x w) : TwAt w0 s x w.drew := ⟨below_drewN h.below 1, h.hs, h.hx⟩

/-- A value that is a question: what it answers in whatever world comes behind. -/
def Ask (w : World) (v : Value) (q : Q) : Prop := ∃ k cap, v = .func (.func k) #[] cap ∧ (∀ a b W, (callFunc k (#[a, b] ++ cap)).run Try.prog W = .ok (.enter k (#[a, b] ++ cap)) W) ∧
  ∀ W, Below w.heap.size w W → ∀ s x, Calls Try.prog k (#[.agg (stA s), .agg (seA x)] ++ cap) W fun e W' => e = .returned (.bool (q s x)) ∧ Below W.heap.size W W'
theorem ask_kept {w w1 : World} {v : Value} {q : Q} (h : Ask w v q) (b : Below w.heap.size w w1) : Ask w1 v q := by
  obtain ⟨k, cap, e, hc, hq⟩ := h
  exact ⟨k, cap, e, hc, fun W hW => hq W (bthen b hW)⟩
/-- A function gives a question. -/
def Gives (q : Q) (w : World) (e : Ending) (w' : World) : Prop := ∃ k cap, e = .returned (.func (.func k) #[] cap) ∧ Ask w' (.func (.func k) #[] cap) q ∧ Below w.heap.size w w'

end Go.Proofs.Ytbifknihkjjhcaa.Md
