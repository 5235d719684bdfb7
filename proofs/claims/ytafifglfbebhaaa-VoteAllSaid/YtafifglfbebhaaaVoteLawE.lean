/- The walk of the law VoteAll: it returns true and turns nothing that was there. Conditions: the numbers are int64. -/
import Derived.Test.YtafifglfbebhaaaVoteRAll
import Derived.Test.YtafifglfbebhaaaVoteLives
import Derived.Test.YtafifglfbebhaaaArrEq
namespace Go.Proofs.Ytafifglfbebhaaa.Vote
open Go.ChangeShapes Go.WideShapes Go.ChangeAt Go.RowKit Num Bl Pers Mid

set_option maxRecDepth 100000 in
theorem eq_9 (b0 b1 b2 g0 g1 g2 : Int) (o0 o1 o2 : Bool) (w : World) : (Op.equalIn 9999 24 (.agg #[.int .i64 b0, .bool o0, .int .i64 g0, .int .i64 b1, .bool o1, .int .i64 g1, .int .i64 b2, .bool o2, .int .i64 g2]) (.agg #[.int .i64 b0, .bool o0, .int .i64 g0, .int .i64 b1, .bool o1, .int .i64 g1, .int .i64 b2, .bool o2, .int .i64 g2])).run Try.prog w = .ok true w := by
  go_simp
theorem el35 : Try.prog.elem 35 = 24 := by kernel_rfl
theorem al35 : Try.prog.arrayLen 35 = 4 := by kernel_rfl
theorem so24 (w : World) : (sizeOf 24).run Try.prog w = .ok 9 w := by kernel_rfl
theorem part0 (F : Nat → Nat → Hl) (w : World) : (part 24 (h36 F) (0 * 9)).run Try.prog w = .ok (.agg #[.int .i64 (F 0 0).b, .bool (F 0 0).o, .int .i64 (F 0 0).g, .int .i64 (F 0 1).b, .bool (F 0 1).o, .int .i64 (F 0 1).g, .int .i64 (F 0 2).b, .bool (F 0 2).o, .int .i64 (F 0 2).g]) w := by kernel_rfl
theorem part1 (F : Nat → Nat → Hl) (w : World) : (part 24 (h36 F) ((0 + 1) * 9)).run Try.prog w = .ok (.agg #[.int .i64 (F 1 0).b, .bool (F 1 0).o, .int .i64 (F 1 0).g, .int .i64 (F 1 1).b, .bool (F 1 1).o, .int .i64 (F 1 1).g, .int .i64 (F 1 2).b, .bool (F 1 2).o, .int .i64 (F 1 2).g]) w := by kernel_rfl
theorem part2 (F : Nat → Nat → Hl) (w : World) : (part 24 (h36 F) ((0 + 1 + 1) * 9)).run Try.prog w = .ok (.agg #[.int .i64 (F 2 0).b, .bool (F 2 0).o, .int .i64 (F 2 0).g, .int .i64 (F 2 1).b, .bool (F 2 1).o, .int .i64 (F 2 1).g, .int .i64 (F 2 2).b, .bool (F 2 2).o, .int .i64 (F 2 2).g]) w := by kernel_rfl
theorem part3 (F : Nat → Nat → Hl) (w : World) : (part 24 (h36 F) ((0 + 1 + 1 + 1) * 9)).run Try.prog w = .ok (.agg #[.int .i64 (F 3 0).b, .bool (F 3 0).o, .int .i64 (F 3 0).g, .int .i64 (F 3 1).b, .bool (F 3 1).o, .int .i64 (F 3 1).g, .int .i64 (F 3 2).b, .bool (F 3 2).o, .int .i64 (F 3 2).g]) w := by kernel_rfl
theorem eq_36 (F : Nat → Nat → Hl) (w : World) : (Go.binOp .eql 35 (.agg (h36 F)) (.agg (h36 F))).run Try.prog w = .ok (.bool true) w := by
  have h := run_equalIn_arr (P := Try.prog) w 9999 35 (h36 F) (h36 F) (by rw [el35, al35]; exact Try.underlying35)
  rw [run_eql_struct]
  rw [h, el35, al35, so24]
  simp only [Result.andThen_ok, eqElems_succ, eqElems_zero, Sem.run_bind, part0, part1, part2, part3, eq_9, Bool.not_true, Bool.false_eq_true, if_false, Sem.run_pure]
set_option maxRecDepth 100000 in
theorem eq_12 (x0 x3 x6 x9 : Bool) (x1 x2 x4 x5 x7 x8 x10 x11 : Int) (w : World) : (Go.binOp .eql 37 (.agg #[.bool x0, .int .i64 x1, .int .i64 x2, .bool x3, .int .i64 x4, .int .i64 x5, .bool x6, .int .i64 x7, .int .i64 x8, .bool x9, .int .i64 x10, .int .i64 x11]) (.agg #[.bool x0, .int .i64 x1, .int .i64 x2, .bool x3, .int .i64 x4, .int .i64 x5, .bool x6, .int .i64 x7, .int .i64 x8, .bool x9, .int .i64 x10, .int .i64 x11])).run Try.prog w = .ok (.bool true) w := by
  go_simp
theorem eqH (F : Nat → Nat → Hl) (w : World) : (Go.binOp .eql 35 (.agg (h36 F)) (.agg (h36 F))).run Try.prog w = .ok (.bool true) w := eq_36 F w
theorem eqV (V : Nat → Vt) (w : World) : (Go.binOp .eql 37 (.agg (v12 V)) (.agg (v12 V))).run Try.prog w = .ok (.bool true) w := eq_12 _ _ _ _ _ _ _ _ _ _ _ _ w
theorem info36R : (Try.prog.info? 36).map (·.size) = some 24 := by kernel_rfl
theorem load_36 {ops : Array Oper} {rest : List Oper} {o : Oper} {a : Act} {w : World} {Q : Exit → Act → World → Prop} (hgd : o.guard = none) (x : Operand) (ho : o.op = .load 35 x)
    (g : Nat) (H : Nat → Nat → Hl) (K : Blk w g (h36 H) 35) (hx : a.eval x = .pointer (some ⟨g, 0, none⟩)) (h : wpList Try.prog ops Q rest (a.put o.dst (.agg (h36 H))) w) : wpList Try.prog ops Q (o :: rest) a w :=
  wpList_load_row hgd 35 x ho g hx 35 _ (0, 0) _ K Try.underlying35 rfl info35 h
theorem load_24 {ops : Array Oper} {rest : List Oper} {o : Oper} {a : Act} {w : World} {Q : Exit → Act → World → Prop} (hgd : o.guard = none) (x : Operand) (ho : o.op = .load 36 x)
    (g : Nat) (R : Nat → Nat → Rd) (K : Blk w g (r24 R) 36) (hx : a.eval x = .pointer (some ⟨g, 0, none⟩)) (h : wpList Try.prog ops Q rest (a.put o.dst (.agg (r24 R))) w) : wpList Try.prog ops Q (o :: rest) a w :=
  wpList_load_row hgd 36 x ho g hx 36 _ (0, 0) _ K Try.underlying36 rfl info36R h
theorem store_36 {ops : Array Oper} {rest : List Oper} {o : Oper} {a : Act} {w : World} {Q : Exit → Act → World → Prop} (hgd : o.guard = none) (x y : Operand) (ho : o.op = .store 35 x y)
    (g : Nat) (H J : Nat → Nat → Hl) (K : Blk w g (h36 J) 35) (hx : a.eval x = .pointer (some ⟨g, 0, none⟩)) (hy : a.eval y = .agg (h36 H)) (h : wpList Try.prog ops Q rest (a.put o.dst undef) (w.setRow g (h36 H))) : wpList Try.prog ops Q (o :: rest) a w :=
  wpList_store_row hgd 35 x y ho g (h36 H) hx hy 35 _ K info35 rfl (by kernel_rfl) h
theorem store_12 {ops : Array Oper} {rest : List Oper} {o : Oper} {a : Act} {w : World} {Q : Exit → Act → World → Prop} (hgd : o.guard = none) (x y : Operand) (ho : o.op = .store 37 x y)
    (g : Nat) (V U : Nat → Vt) (K : Blk w g (v12 U) 37) (hx : a.eval x = .pointer (some ⟨g, 0, none⟩)) (hy : a.eval y = .agg (v12 V)) (h : wpList Try.prog ops Q rest (a.put o.dst undef) (w.setRow g (v12 V))) : wpList Try.prog ops Q (o :: rest) a w :=
  wpList_store_row hgd 37 x y ho g (v12 V) hx hy 37 _ K info37 rfl (by kernel_rfl) h
abbrev z36 : Array Value := #[.int .i64 0, .bool false, .int .i64 0, .int .i64 0, .bool false, .int .i64 0, .int .i64 0, .bool false, .int .i64 0, .int .i64 0, .bool false, .int .i64 0, .int .i64 0, .bool false, .int .i64 0, .int .i64 0, .bool false, .int .i64 0, .int .i64 0, .bool false, .int .i64 0, .int .i64 0, .bool false, .int .i64 0, .int .i64 0, .bool false, .int .i64 0, .int .i64 0, .bool false, .int .i64 0, .int .i64 0, .bool false, .int .i64 0, .int .i64 0, .bool false, .int .i64 0]
abbrev z12 : Array Value := #[.bool false, .int .i64 0, .int .i64 0, .bool false, .int .i64 0, .int .i64 0, .bool false, .int .i64 0, .int .i64 0, .bool false, .int .i64 0, .int .i64 0]
/-- Two results laid. -/
abbrev laid (w : World) : World := (w.alloc (.cells z36 35)).alloc (.cells z12 37)
abbrev laid2 (w : World) (F : Nat → Nat → Hl) (V : Nat → Vt) : World := ((laid w).setRow w.heap.size (h36 F)).setRow (w.heap.size + 1) (v12 V)
theorem laid_at (w : World) (F : Nat → Nat → Hl) (V : Nat → Vt) : Blk (laid w) w.heap.size (h36 noHs) 35 ∧ Blk ((laid w).setRow w.heap.size (h36 F)) (w.heap.size + 1) (v12 noVs) 37 ∧ Below w.heap.size w (laid2 w F V) ∧ Blk (laid2 w F V) w.heap.size (h36 F) 35 ∧ Blk (laid2 w F V) (w.heap.size + 1) (v12 V) 37 := by
  obtain ⟨t1, t2, t3⟩ := two_new (two_refl w z36 z12 35 37)
  exact ⟨t1, blk_row_far t2 (by omega) _, below_row (below_row t3 (Nat.le_refl _) _) (Nat.le_succ _) _, blk_row_far (blk_row t1 _) (by omega) _, blk_row (blk_row_far t2 (by omega) _) _⟩

set_option maxRecDepth 100000 in
set_option maxHeartbeats 8000000 in
theorem allLaw (H : Nat → Nat → Hl) (R : Nat → Nat → Rd) (q : Bool) (w : World) (hR : ∀ i k, In (R i k).v) :
    Calls Try.prog 4 #[.agg (h36 H), .agg (r24 R), .bool q] w fun e w' => e = .returned (.bool true) ∧ Below w.heap.size w w' := by
  have cS : Hid (∀ W, Calls Try.prog 13 #[.agg (h36 H), .agg (r24 R), .bool q] W fun e w' => e = .returned (.tuple #[.agg (h36 (alH H R q)), .agg (v12 (alV H R))]) ∧ Below W.heap.size W w') := fun W => allC H R q W hR
  have cR : Hid (∀ W, Calls Try.prog 14 #[.agg (h36 H), .agg (r24 R), .bool q] W fun e w' => e = .returned (.tuple #[.agg (h36 (alH H R q)), .agg (v12 (alV H R))]) ∧ Below W.heap.size W w') := fun W => rAllC H R q W hR
  generalize alH H R q = F at *
  generalize alV H R = V at *
  clear hR
  have T0 := Lib.hid (two_new (two_refl w (h36 H) (r24 R) 35 36))
  go_enter Try.func4, Try.ntmps4
  go_wp2_with (first | ((with_reducible refine load_36 rfl (.tmp 3) rfl w.heap.size H T0.out.1 ?_ ?_); rfl) | ((with_reducible refine load_24 rfl (.tmp 4) rfl (w.heap.size + 1) R T0.out.2.1 ?_ ?_); rfl))
  refine (cS.out _).mono ?_
  rintro e w1 ⟨rfl, b1⟩
  have T1 := Lib.hid (laid_at w1 F V)
  have U0 := Lib.hid (two_new b1)
  have U1 := Lib.hid (And.intro (blk_kept U0.out.1 T1.out.2.2.1) (blk_kept U0.out.2.1 T1.out.2.2.1))
  clear b1 cS T0
  go_wp2_with (first | ((with_reducible refine load_36 rfl (.tmp 3) rfl w.heap.size H U1.out.1 ?_ ?_); rfl) | ((with_reducible refine load_24 rfl (.tmp 4) rfl (w.heap.size + 1) R U1.out.2 ?_ ?_); rfl) | ((with_reducible refine store_36 rfl (.tmp 7) (.tmp 16) rfl w1.heap.size F noHs T1.out.1 ?_ ?_ ?_); rfl; rfl) | ((with_reducible refine store_12 rfl (.tmp 8) (.tmp 17) rfl (w1.heap.size + 1) V noVs T1.out.2.1 ?_ ?_ ?_); rfl; rfl))
  refine (cR.out _).mono ?_
  rintro e w2 ⟨rfl, b2⟩
  have T2 := Lib.hid (laid_at w2 F V)
  have K := Lib.hid (bthen (a := laid2 w1 F V) b2 T2.out.2.2.1)
  have K1 := Lib.hid (blk_kept T1.out.2.2.2.1 K.out)
  have K2 := Lib.hid (blk_kept T1.out.2.2.2.2 K.out)
  have HB := Lib.hid (bthen (bthen U0.out.2.2 T1.out.2.2.1) K.out)
  clear b2 cR U0 U1 T1 K
  have p0 := blk_cell K2.out (o := 0) (v := .bool (V 0).i) rfl
  have p1 := blk_cell K2.out (o := 1) (v := .int .i64 (V 0).v) rfl
  have p2 := blk_cell K2.out (o := 2) (v := .int .i64 (V 0).n) rfl
  have p3 := blk_cell K2.out (o := 3) (v := .bool (V 1).i) rfl
  have p4 := blk_cell K2.out (o := 4) (v := .int .i64 (V 1).v) rfl
  have p5 := blk_cell K2.out (o := 5) (v := .int .i64 (V 1).n) rfl
  have p6 := blk_cell K2.out (o := 6) (v := .bool (V 2).i) rfl
  have p7 := blk_cell K2.out (o := 7) (v := .int .i64 (V 2).v) rfl
  have p8 := blk_cell K2.out (o := 8) (v := .int .i64 (V 2).n) rfl
  have p9 := blk_cell K2.out (o := 9) (v := .bool (V 3).i) rfl
  have p10 := blk_cell K2.out (o := 10) (v := .int .i64 (V 3).v) rfl
  have p11 := blk_cell K2.out (o := 11) (v := .int .i64 (V 3).n) rfl
  have s0 := blk_cell T2.out.2.2.2.2 (o := 0) (v := .bool (V 0).i) rfl
  have s1 := blk_cell T2.out.2.2.2.2 (o := 1) (v := .int .i64 (V 0).v) rfl
  have s2 := blk_cell T2.out.2.2.2.2 (o := 2) (v := .int .i64 (V 0).n) rfl
  have s3 := blk_cell T2.out.2.2.2.2 (o := 3) (v := .bool (V 1).i) rfl
  have s4 := blk_cell T2.out.2.2.2.2 (o := 4) (v := .int .i64 (V 1).v) rfl
  have s5 := blk_cell T2.out.2.2.2.2 (o := 5) (v := .int .i64 (V 1).n) rfl
  have s6 := blk_cell T2.out.2.2.2.2 (o := 6) (v := .bool (V 2).i) rfl
  have s7 := blk_cell T2.out.2.2.2.2 (o := 7) (v := .int .i64 (V 2).v) rfl
  have s8 := blk_cell T2.out.2.2.2.2 (o := 8) (v := .int .i64 (V 2).n) rfl
  have s9 := blk_cell T2.out.2.2.2.2 (o := 9) (v := .bool (V 3).i) rfl
  have s10 := blk_cell T2.out.2.2.2.2 (o := 10) (v := .int .i64 (V 3).v) rfl
  have s11 := blk_cell T2.out.2.2.2.2 (o := 11) (v := .int .i64 (V 3).n) rfl
  have qE := eqH F
  go_wp2_with (first | ((with_reducible refine load_36 rfl (.tmp 7) rfl w1.heap.size F K1.out ?_ ?_); rfl) | ((with_reducible refine load_36 rfl (.tmp 9) rfl w2.heap.size F T2.out.2.2.2.1 ?_ ?_); rfl) | ((with_reducible refine store_36 rfl (.tmp 9) (.tmp 23) rfl w2.heap.size F noHs T2.out.1 ?_ ?_ ?_); rfl; rfl) | ((with_reducible refine store_12 rfl (.tmp 10) (.tmp 24) rfl (w2.heap.size + 1) V noVs T2.out.2.1 ?_ ?_ ?_); rfl; rfl))
  refine (lives _).mono ?_
  rintro e v ⟨rfl, bb⟩
  have HC := Lib.hid (bthen HB.out bb)
  clear bb
  go_wp2
  go_ret
  exact ⟨rfl, HC.out⟩

end Go.Proofs.Ytafifglfbebhaaa.Vote
