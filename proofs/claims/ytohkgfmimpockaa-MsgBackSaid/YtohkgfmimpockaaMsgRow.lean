/- A message in memory: read, written, handed back as a whole. Conditions: none. -/
import Derived.Test.YtohkgfmimpockaaMsgMay
import Derived.Test.YtohkgfmimpockaaMsgApp
import Derived.Laws.Rows
namespace Go.Proofs.Ytohkgfmimpockaa.Msg
open Go.ChangeShapes Go.WideShapes Go.ChangeAt Go.RowKit Num By

theorem infoM : (Try.prog.info? 27).map (·.size) = some 11 := by kernel_rfl
theorem load_m {ops : Array Oper} {rest : List Oper} {o : Oper} {a : Act} {w : World} {Q : Exit → Act → World → Prop} (hgd : o.guard = none) (x : Operand) (ho : o.op = .load 27 x)
    (g : Nat) (m : Ms) (K : Blk w g (mA m) 27) (hx : a.eval x = .pointer (some ⟨g, 0, none⟩)) (h : wpList Try.prog ops Q rest (a.put o.dst (.agg (mA m))) w) : wpList Try.prog ops Q (o :: rest) a w :=
  wpList_load_row hgd 27 x ho g hx 27 _ (0, 0) _ K Try.underlying27 rfl infoM h
theorem load_mg {ops : Array Oper} {rest : List Oper} {o : Oper} {a : Act} {w : World} {Q : Exit → Act → World → Prop} (x : Operand) (ho : o.op = .load 27 x)
    (g : Nat) (m : Ms) (K : Blk w g (mA m) 27) (hw : Region.wanted o (yielded ops a.tmps) = true) (hx : a.eval x = .pointer (some ⟨g, 0, none⟩)) (h : wpList Try.prog ops Q rest (a.put o.dst (.agg (mA m))) w) : wpList Try.prog ops Q (o :: rest) a w :=
  wpList_step fun C hC => by
    rw [if_pos hw]
    exact wp_load_row 27 x ho g hx 27 _ (0, 0) _ K Try.underlying27 rfl infoM (hC _ _ h)
theorem store_m {ops : Array Oper} {rest : List Oper} {o : Oper} {a : Act} {w : World} {Q : Exit → Act → World → Prop} (hgd : o.guard = none) (x y : Operand) (ho : o.op = .store 27 x y)
    (g : Nat) (m n : Ms) (K : Blk w g (mA n) 27) (hx : a.eval x = .pointer (some ⟨g, 0, none⟩)) (hy : a.eval y = .agg (mA m)) (h : wpList Try.prog ops Q rest (a.put o.dst undef) (w.setRow g (mA m))) : wpList Try.prog ops Q (o :: rest) a w :=
  wpList_store_row hgd 27 x y ho g (mA m) hx hy 27 _ K infoM rfl (by kernel_rfl) h
/-- The same at a step of a region that draws its order. -/
theorem step_store_m {ops : Array Oper} {o : Oper} {a : Act} {w : World} {C : Act → World → Prop} {Q : Exit → Act → World → Prop} {E : Prop} (hgd : o.guard = none) (x y : Operand) (ho : o.op = .store 27 x y)
    (g : Nat) (m n : Ms) (hx : a.eval x = .pointer (some ⟨g, 0, none⟩)) (hy : a.eval y = .agg (mA m)) (K : Blk w g (mA n) 27) (h : C (a.put o.dst undef) (w.setRow g (mA m))) :
    if Region.wanted o (yielded ops a.tmps) = true then Oper.wp Try.prog o a w C Q else E := by
  have hw : Region.wanted o (yielded ops a.tmps) = true := by simp [Region.wanted, hgd]
  rw [if_pos hw]
  exact wp_store_row 27 x y ho g (mA m) hx hy 27 _ K infoM rfl (by kernel_rfl) h
theorem ret_m {fn : Func} {p : Tmp} (h : fn.results = #[.cell p 27]) (tmps : Array Value) (W : World) (g : Nat) (m : Ms) (hp : tmps.getD p undef = .pointer (some ⟨g, 0, none⟩)) (K : Blk W g (mA m) 27) :
    (results fn tmps).run Try.prog W = .ok (.agg (mA m)) W :=
  results_cell_row h tmps W g 27 (mA m) (0, 0) _ hp K Try.underlying27 rfl infoM
/-- A message and an error. -/
theorem ret_me {fn : Func} {p q : Tmp} (h : fn.results = #[.cell p 27, .tmp q]) (tmps : Array Value) (W : World) (g : Nat) (m : Ms) (v : Value) (hp : tmps.getD p undef = .pointer (some ⟨g, 0, none⟩)) (hq : tmps.getD q undef = v) (K : Blk W g (mA m) 27) :
    (results fn tmps).run Try.prog W = .ok (.tuple #[.agg (mA m), v]) W := by
  have hp' : tmps[p]?.getD undef = .pointer (some ⟨g, 0, none⟩) := by simpa using hp
  have hq' : tmps[q]?.getD undef = v := by simpa using hq
  simp [results, h, hp', hq', asAddr, run_loadVar_row W g 27 27 (mA m) (0, 0) _ K Try.underlying27 rfl infoM]
theorem below_box {w w1 : World} {us : Array Value} {T : TypeId} (b : Below (w.alloc (.cells us T)).heap.size (w.alloc (.cells us T)) w1) : Blk w1 w.heap.size us T ∧ Below w.heap.size w w1 := ⟨blk_new b, below_alloc b⟩

end Go.Proofs.Ytohkgfmimpockaa.Msg
