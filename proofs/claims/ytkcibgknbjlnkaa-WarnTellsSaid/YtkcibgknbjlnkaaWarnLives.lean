/- The law's lives: warnings that the document tells, read off the contracts. Conditions: none. -/
import Derived.Test.YtkcibgknbjlnkaaWarnOf
import Derived.Test.YtkcibgknbjlnkaaWarnText
namespace Go.Proofs.Ytkcibgknbjlnkaa.Wr
open Go.ChangeShapes Go.WideShapes Go.ChangeAt Go.RowKit Num Mem Md
open By (Bys)

section
attribute [local go_sem ↓] stSt_eq
theorem stateC (m : Int) (w : World) : Calls Try.prog 17 #[.int .u8 m] w fun e w' => e = .returned (.agg (stA ⟨m, false⟩)) ∧ Below w.heap.size w w' := by
  have K := Lib.hid (blk_alloc w (stA zSt) 23)
  have B := Lib.hid (allocs w (.cells (stA zSt) 23))
  have s0 := stSt_blk ⟨m, false⟩ K.out
  go_enter Try.func17, Try.ntmps17
  go_wp2
  refine bodyPost_ret (v := .agg (stA ⟨m, false⟩)) ?_ rfl ⟨rfl, below_row B.out (Nat.le_refl _) _⟩
  exact ret_st Try.results17 _ _ w.heap.size ⟨m, false⟩ rfl (blk_row K.out _)
end

theorem ofIs (s n : St) (c : Cp) (wide : Bool) (v : Int) (h : wnW s.m n.m c wide = v) (w : World) : Calls Try.prog 7 #[.agg (stA s), .agg (stA n), .agg (cpA c), .bool wide] w fun e w' => e = .returned (.agg (shA ⟨n.m, c.l, n.t, v⟩)) ∧ Below w.heap.size w w' := by
  rw [← h]; exact ofC s n c wide w
def fourL : Nat → Int := lsF [4, 0, 2, 9]
theorem four_grv : grv fourL 4 = 2 := by decide +kernel
theorem gravIs (w : World) (g c : Nat) (h : Bys w w.heap.size (some ⟨g, 0, none⟩) 4 fourL) : Calls Try.prog 9 #[.slice (some ⟨g, 0, none⟩) 4 c] w fun e w' => e = .returned (.int .u8 2) ∧ w = w' := by
  rw [← four_grv]; exact gravestC _ _ _ _ _ (by decide) h

set_option maxRecDepth 100000 in
set_option maxHeartbeats 4000000 in
theorem lives (w : World) : Calls Try.prog 11 #[] w fun e w' => e = .returned (.bool true) ∧ Below w.heap.size w w' := by
  have B0 := Lib.hid (Below.refl w.heap.size w)
  go_enter Try.func11, Try.ntmps11
  go_wp2_with fail
  refine (stateC 2 _).mono ?_
  rintro e x1 ⟨rfl, bb⟩
  replace B0 := Lib.hid (bthen B0.out bb); clear bb
  go_wp2_with fail
  refine (stateC 0 _).mono ?_
  rintro e x2 ⟨rfl, bb⟩
  replace B0 := Lib.hid (bthen B0.out bb); clear bb
  go_wp2_with fail
  refine (ofIs ⟨2, false⟩ ⟨0, false⟩ ⟨0, false, 0⟩ false 1 (by decide +kernel) _).mono ?_
  rintro e w1 ⟨rfl, bb⟩
  replace B0 := Lib.hid (bthen B0.out bb)
  clear bb
  have Ka := Lib.hid (blk_alloc w1 (shA ⟨0, 0, false, 1⟩) 30)
  replace B0 := Lib.hid (below_new B0.out (.cells (shA ⟨0, 0, false, 1⟩) 30))
  go_upto_region 2 with (fail)
  generalize World.alloc w1 _ = V1 at *
  generalize w1.heap.size = ga at *
  go_wp2_with fail
  refine (stateC 2 _).mono ?_
  rintro e x3 ⟨rfl, bb⟩
  replace B0 := Lib.hid (bthen B0.out bb); replace Ka := Lib.hid (blk_kept Ka.out bb); clear bb
  go_wp2_with fail
  refine (stateC 2 _).mono ?_
  rintro e x4 ⟨rfl, bb⟩
  replace B0 := Lib.hid (bthen B0.out bb); replace Ka := Lib.hid (blk_kept Ka.out bb); clear bb
  go_wp2_with fail
  refine (ofIs ⟨2, false⟩ ⟨2, false⟩ ⟨0, false, 2⟩ false 2 (by decide +kernel) _).mono ?_
  rintro e w2 ⟨rfl, bb⟩
  replace B0 := Lib.hid (bthen B0.out bb); replace Ka := Lib.hid (blk_kept Ka.out bb)
  clear bb
  have Kb := Lib.hid (blk_alloc w2 (shA ⟨2, 0, false, 2⟩) 30)
  replace B0 := Lib.hid (below_new B0.out (.cells (shA ⟨2, 0, false, 2⟩) 30))
  replace Ka := Lib.hid (blk_kept Ka.out (allocs w2 (.cells (shA ⟨2, 0, false, 2⟩) 30)))
  go_upto_region 3 with (fail)
  generalize World.alloc w2 _ = V2 at *
  generalize w2.heap.size = gb at *
  go_wp2_with fail
  refine (stateC 3 _).mono ?_
  rintro e x5 ⟨rfl, bb⟩
  replace B0 := Lib.hid (bthen B0.out bb); replace Ka := Lib.hid (blk_kept Ka.out bb); replace Kb := Lib.hid (blk_kept Kb.out bb); clear bb
  go_wp2_with fail
  refine (stateC 3 _).mono ?_
  rintro e x6 ⟨rfl, bb⟩
  replace B0 := Lib.hid (bthen B0.out bb); replace Ka := Lib.hid (blk_kept Ka.out bb); replace Kb := Lib.hid (blk_kept Kb.out bb); clear bb
  go_wp2_with fail
  refine (ofIs ⟨3, false⟩ ⟨3, false⟩ ⟨1, false, 2⟩ true 3 (by decide +kernel) _).mono ?_
  rintro e w3 ⟨rfl, bb⟩
  replace B0 := Lib.hid (bthen B0.out bb); replace Ka := Lib.hid (blk_kept Ka.out bb); replace Kb := Lib.hid (blk_kept Kb.out bb)
  clear bb
  have Kc := Lib.hid (blk_alloc w3 (shA ⟨3, 1, false, 3⟩) 30)
  replace B0 := Lib.hid (below_new B0.out (.cells (shA ⟨3, 1, false, 3⟩) 30))
  replace Ka := Lib.hid (blk_kept Ka.out (allocs w3 (.cells (shA ⟨3, 1, false, 3⟩) 30)))
  replace Kb := Lib.hid (blk_kept Kb.out (allocs w3 (.cells (shA ⟨3, 1, false, 3⟩) 30)))
  go_upto_region 4 with (fail)
  generalize World.alloc w3 _ = V3 at *
  generalize w3.heap.size = gc at *
  go_wp2_with fail
  refine (textC 5 (by decide) (by decide) _).mono ?_
  rintro e w4 ⟨rfl, bb⟩
  replace B0 := Lib.hid (bthen B0.out bb); replace Ka := Lib.hid (blk_kept Ka.out bb); replace Kb := Lib.hid (blk_kept Kb.out bb); replace Kc := Lib.hid (blk_kept Kc.out bb)
  clear bb
  have la := blk_cell Ka.out (o := 3) (v := .int .u8 1) rfl
  have lb := blk_cell Kb.out (o := 3) (v := .int .u8 2) rfl
  have lc := blk_cell Kc.out (o := 3) (v := .int .u8 3) rfl
  have HN := Lib.hid (By.bys_new w4 4 #[.int .u8 4, .int .u8 0, .int .u8 2, .int .u8 9] 5 fourL rfl)
  go_wp2_with ((with_reducible refine (gravIs _ _ _ HN.out).mono ?_); rintro e w5 ⟨rfl, rfl⟩)
  go_ret
  exact ⟨rfl, below_new B0.out _⟩

end Go.Proofs.Ytkcibgknbjlnkaa.Wr
