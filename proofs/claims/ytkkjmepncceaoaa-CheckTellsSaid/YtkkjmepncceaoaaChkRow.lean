/- A test in memory: its block, read and written whole; '==' of two. Conditions: none. -/
import Derived.Test.YtkkjmepncceaoaaChkNum
import Derived.Laws.Rows
import Derived.Deep.MidRow
import Derived.Deep.DeepCutAuto
import Derived.Deep.RegionHeld3
namespace Go.Proofs.Ytkkjmepncceaoaa.Chk
open Go.ChangeShapes Go.WideShapes Go.ChangeAt Go.RowKit Num By

/-- Its cells. -/
abbrev ptA (t : Pt) : Array Value := #[.int .i64 t.s, .int .i64 t.f, .bool t.p, .bool t.x]
theorem infoP : (Try.prog.info? 23).map (·.size) = some 4 := by kernel_rfl
/-- What a load of a test gives: kept shut, so that a walk meets it as one fact. -/
def ldP (x : Value) : Sem Value := Instr.loadAt 23 x
theorem ldP_eq (x : Value) : Instr.loadAt 23 x = ldP x := rfl
theorem ldP_blk {W : World} {g : Nat} {t : Pt} (K : Blk W g (ptA t) 23) : (ldP (.pointer (some ⟨g, 0, none⟩))).run Try.prog W = .ok (.agg (ptA t)) W := by
  unfold ldP
  simp only [Instr.loadAt, Instr.sureAddr, Sem.run_bind, Sem.run_pure, Result.andThen_ok, run_loadVar_row W g _ _ (ptA t) (0, 0) _ K Try.underlying23 rfl infoP]
theorem store_p {ops : Array Oper} {rest : List Oper} {o : Oper} {a : Act} {w : World} {Q : Exit → Act → World → Prop} (hgd : o.guard = none) (x y : Operand) (ho : o.op = .store 23 x y)
    (g : Nat) (t r : Pt) (K : Blk w g (ptA r) 23) (hx : a.eval x = .pointer (some ⟨g, 0, none⟩)) (hy : a.eval y = .agg (ptA t)) (h : wpList Try.prog ops Q rest (a.put o.dst undef) (w.setRow g (ptA t))) : wpList Try.prog ops Q (o :: rest) a w :=
  wpList_store_row hgd 23 x y ho g (ptA t) hx hy 23 _ K infoP rfl (by kernel_rfl) h
theorem ret_p {fn : Func} {p : Tmp} (h : fn.results = #[.cell p 23]) (tmps : Array Value) (W : World) (g : Nat) (t : Pt) (hp : tmps.getD p undef = .pointer (some ⟨g, 0, none⟩)) (K : Blk W g (ptA t) 23) :
    (results fn tmps).run Try.prog W = .ok (.agg (ptA t)) W :=
  results_cell_row h tmps W g 23 (ptA t) (0, 0) _ hp K Try.underlying23 rfl infoP
theorem if_and {p : Prop} [Decidable p] (b : Bool) (w : World) : (if p then (Result.ok (Value.bool b) w : Result Value) else .ok (.bool false) w) = .ok (.bool (decide p && b)) w := by by_cases h : p <;> simp [h]
set_option maxRecDepth 100000 in
theorem eq_p (a b : Pt) (w : World) : (Go.binOp .eql 23 (.agg (ptA a)) (.agg (ptA b))).run Try.prog w = .ok (.bool (eqP a b)) w := by
  obtain ⟨a0, a1, a2, a3⟩ := a
  obtain ⟨b0, b1, b2, b3⟩ := b
  go_simp
  simp only [if_and, Bool.and_true, Bool.beq_eq_decide_eq, eqP]
theorem eq_self (a : Pt) (w : World) : (Go.binOp .eql 23 (.agg (ptA a)) (.agg (ptA a))).run Try.prog w = .ok (.bool true) w := by rw [eq_p, eqP_self]

theorem allocs (w : World) (o : Obj) : Below w.heap.size w (w.alloc o) := (Below.refl _ w).alloc (Nat.le_refl _) o
theorem blk_alloc2 (w : World) (o : Obj) (us : Array Value) (T : TypeId) : Blk ((w.alloc o).alloc (.cells us T)) (w.heap.size + 1) us T := by
  have h := blk_alloc (w.alloc o) us T
  rwa [World.size_alloc] at h
/-- A test boxed, and a block for what comes of it. -/
structure TwoAt (w0 : World) (a b : Pt) (w : World) : Prop where
  below : Below w0.heap.size w0 w
  ha : Blk w w0.heap.size (ptA a) 23
  hb : Blk w (w0.heap.size + 1) (ptA b) 23
theorem two_box (w : World) (a b : Pt) : TwoAt w a b ((w.alloc (.cells (ptA a) 23)).alloc (.cells (ptA b) 23)) :=
  ⟨bthen (allocs w _) (allocs _ _), blk_kept (blk_alloc w _ _) (allocs _ _), blk_alloc2 w _ _ _⟩
theorem two_call {w0 w w1 : World} {a b : Pt} (h : TwoAt w0 a b w) (k : Below w.heap.size w w1) : TwoAt w0 a b w1 := ⟨bthen h.below k, blk_kept h.ha k, blk_kept h.hb k⟩
theorem two_drewN {w0 w : World} {a b : Pt} (h : TwoAt w0 a b w) (n : Nat) : TwoAt w0 a b (w.drewN n) := ⟨below_drewN h.below n, h.ha, h.hb⟩
theorem two_drew {w0 w : World} {a b : Pt} (h : TwoAt w0 a b w) : TwoAt w0 a b w.drew := ⟨below_drewN h.below 1, h.ha, h.hb⟩
theorem two_set {w0 w : World} {a b c : Pt} {o : Nat} {v : Value} (h : TwoAt w0 a b w) (e : (ptA a).setIfInBounds o v = ptA c) : TwoAt w0 c b (w.setCell ⟨w0.heap.size, o, none⟩ v) :=
  ⟨h.below.setCell (p := ⟨w0.heap.size, o, none⟩) (Nat.le_refl _) _, by rw [← e]; exact blk_set h.ha _ _, blk_far h.hb _ _ (by omega)⟩
theorem two_put {w0 w : World} {a b : Pt} (h : TwoAt w0 a b w) (c : Pt) : TwoAt w0 c b (w.setRow w0.heap.size (ptA c)) := ⟨below_row h.below (Nat.le_refl _) _, blk_row h.ha _, blk_row_far h.hb (by omega) _⟩

end Go.Proofs.Ytkkjmepncceaoaa.Chk
