/- The law's lives: states that the document tells, read off the contracts. Conditions: none. -/
import Derived.Test.YtbifknihkjjhcaaModeNext
namespace Go.Proofs.Ytbifknihkjjhcaa.Md
open Go.ChangeShapes Go.WideShapes Go.ChangeAt Go.RowKit Num Mem Band

theorem nextIs (s : St) (x : Se) (r : St) (h : eqSt (next s x) r = true) (w : World) : Calls Try.prog 9 #[.agg (stA s), .agg (seA x)] w fun e w' => e = .returned (.agg (stA r)) ∧ Below w.heap.size w w' := by
  rw [← eq_of h]; exact nextC s x w
set_option maxRecDepth 100000 in
set_option maxHeartbeats 4000000 in
theorem lives (w : World) : Calls Try.prog 17 #[] w fun e w' => e = .returned (.bool true) ∧ Below w.heap.size w w' := by
  have B0 := Lib.hid (Below.refl w.heap.size w)
  go_enter Try.func17, Try.ntmps17
  go_wp2_with fail
  refine (nextIs ⟨0, false⟩ ⟨0, false, false, false, 1, 1, false⟩ ⟨1, false⟩ (by decide +kernel) _).mono ?_
  rintro e w1 ⟨rfl, bb⟩
  replace B0 := Lib.hid (bthen B0.out bb)
  clear bb
  have Ka := Lib.hid (blk_alloc w1 #[.int .u8 1, .bool false] 23)
  replace B0 := Lib.hid (below_new B0.out (.cells #[.int .u8 1, .bool false] 23))
  go_upto_region 2 with (fail)
  generalize World.alloc w1 _ = V1 at *
  generalize w1.heap.size = ga at *
  go_wp2_with fail
  refine (nextIs ⟨1, false⟩ ⟨0, true, true, false, 1, 0, false⟩ ⟨2, true⟩ (by decide +kernel) _).mono ?_
  rintro e w2 ⟨rfl, bb⟩
  replace B0 := Lib.hid (bthen B0.out bb)
  replace Ka := Lib.hid (blk_kept Ka.out bb)
  clear bb
  have Kb := Lib.hid (blk_alloc w2 #[.int .u8 2, .bool true] 23)
  replace B0 := Lib.hid (below_new B0.out (.cells #[.int .u8 2, .bool true] 23))
  replace Ka := Lib.hid (blk_kept Ka.out (allocs w2 (.cells #[.int .u8 2, .bool true] 23)))
  go_upto_region 3 with (fail)
  generalize World.alloc w2 _ = V2 at *
  generalize w2.heap.size = gb at *
  have l0 := blk_cell Kb.out (o := 0) (v := .int .u8 2) rfl
  have l1 := blk_cell Kb.out (o := 1) (v := .bool true) rfl
  go_wp2_with fail
  refine (nextIs ⟨2, true⟩ ⟨3, false, false, false, 1, 0, false⟩ ⟨3, true⟩ (by decide +kernel) _).mono ?_
  rintro e w3 ⟨rfl, bb⟩
  clear l0 l1
  replace B0 := Lib.hid (bthen B0.out bb)
  replace Ka := Lib.hid (blk_kept Ka.out bb)
  replace Kb := Lib.hid (blk_kept Kb.out bb)
  clear bb
  have Kc := Lib.hid (blk_alloc w3 #[.int .u8 3, .bool true] 23)
  replace B0 := Lib.hid (below_new B0.out (.cells #[.int .u8 3, .bool true] 23))
  replace Ka := Lib.hid (blk_kept Ka.out (allocs w3 (.cells #[.int .u8 3, .bool true] 23)))
  replace Kb := Lib.hid (blk_kept Kb.out (allocs w3 (.cells #[.int .u8 3, .bool true] 23)))
  go_upto_region 4 with (fail)
  generalize World.alloc w3 _ = V3 at *
  generalize w3.heap.size = gc at *
  have l0 := blk_cell Kc.out (o := 0) (v := .int .u8 3) rfl
  have l1 := blk_cell Kc.out (o := 1) (v := .bool true) rfl
  go_wp2_with fail
  refine (nextIs ⟨3, true⟩ ⟨0, false, false, false, 1, 2, false⟩ ⟨6, false⟩ (by decide +kernel) _).mono ?_
  rintro e w4 ⟨rfl, bb⟩
  clear l0 l1
  replace B0 := Lib.hid (bthen B0.out bb)
  replace Ka := Lib.hid (blk_kept Ka.out bb)
  replace Kb := Lib.hid (blk_kept Kb.out bb)
  replace Kc := Lib.hid (blk_kept Kc.out bb)
  clear bb
  have Kd := Lib.hid (blk_alloc w4 #[.int .u8 6, .bool false] 23)
  replace B0 := Lib.hid (below_new B0.out (.cells #[.int .u8 6, .bool false] 23))
  replace Ka := Lib.hid (blk_kept Ka.out (allocs w4 (.cells #[.int .u8 6, .bool false] 23)))
  replace Kb := Lib.hid (blk_kept Kb.out (allocs w4 (.cells #[.int .u8 6, .bool false] 23)))
  replace Kc := Lib.hid (blk_kept Kc.out (allocs w4 (.cells #[.int .u8 6, .bool false] 23)))
  go_upto_region 5 with (fail)
  generalize World.alloc w4 _ = V4 at *
  generalize w4.heap.size = gd at *
  go_wp2_with fail
  refine (nextIs ⟨4, true⟩ ⟨0, false, false, false, 0, 0, false⟩ ⟨0, false⟩ (by decide +kernel) _).mono ?_
  rintro e w5 ⟨rfl, bb⟩
  replace B0 := Lib.hid (bthen B0.out bb)
  replace Ka := Lib.hid (blk_kept Ka.out bb)
  replace Kb := Lib.hid (blk_kept Kb.out bb)
  replace Kc := Lib.hid (blk_kept Kc.out bb)
  replace Kd := Lib.hid (blk_kept Kd.out bb)
  clear bb
  have Ke := Lib.hid (blk_alloc w5 #[.int .u8 0, .bool false] 23)
  replace B0 := Lib.hid (below_new B0.out (.cells #[.int .u8 0, .bool false] 23))
  replace Ka := Lib.hid (blk_kept Ka.out (allocs w5 (.cells #[.int .u8 0, .bool false] 23)))
  replace Kb := Lib.hid (blk_kept Kb.out (allocs w5 (.cells #[.int .u8 0, .bool false] 23)))
  replace Kc := Lib.hid (blk_kept Kc.out (allocs w5 (.cells #[.int .u8 0, .bool false] 23)))
  replace Kd := Lib.hid (blk_kept Kd.out (allocs w5 (.cells #[.int .u8 0, .bool false] 23)))
  go_upto_region 6 with (fail)
  generalize World.alloc w5 _ = V5 at *
  generalize w5.heap.size = ge at *
  have l0 := blk_cell Kb.out (o := 0) (v := .int .u8 2) rfl
  have l1 := blk_cell Kb.out (o := 1) (v := .bool true) rfl
  go_wp2_with fail
  refine (nextIs ⟨2, true⟩ ⟨0, false, false, false, 1, 6, false⟩ ⟨0, false⟩ (by decide +kernel) _).mono ?_
  rintro e w6 ⟨rfl, bb⟩
  clear l0 l1
  replace B0 := Lib.hid (bthen B0.out bb)
  replace Ka := Lib.hid (blk_kept Ka.out bb)
  replace Kb := Lib.hid (blk_kept Kb.out bb)
  replace Kc := Lib.hid (blk_kept Kc.out bb)
  replace Kd := Lib.hid (blk_kept Kd.out bb)
  replace Ke := Lib.hid (blk_kept Ke.out bb)
  clear bb
  have Kf := Lib.hid (blk_alloc w6 #[.int .u8 0, .bool false] 23)
  replace B0 := Lib.hid (below_new B0.out (.cells #[.int .u8 0, .bool false] 23))
  replace Ka := Lib.hid (blk_kept Ka.out (allocs w6 (.cells #[.int .u8 0, .bool false] 23)))
  replace Kb := Lib.hid (blk_kept Kb.out (allocs w6 (.cells #[.int .u8 0, .bool false] 23)))
  replace Kc := Lib.hid (blk_kept Kc.out (allocs w6 (.cells #[.int .u8 0, .bool false] 23)))
  replace Kd := Lib.hid (blk_kept Kd.out (allocs w6 (.cells #[.int .u8 0, .bool false] 23)))
  replace Ke := Lib.hid (blk_kept Ke.out (allocs w6 (.cells #[.int .u8 0, .bool false] 23)))
  go_upto_region 7 with (fail)
  generalize World.alloc w6 _ = V6 at *
  generalize w6.heap.size = gf at *
  have la0 := blk_cell Ka.out (o := 0) (v := .int .u8 1) rfl
  have la1 := blk_cell Ka.out (o := 1) (v := .bool false) rfl
  have lb0 := blk_cell Kb.out (o := 0) (v := .int .u8 2) rfl
  have lb1 := blk_cell Kb.out (o := 1) (v := .bool true) rfl
  have lc0 := blk_cell Kc.out (o := 0) (v := .int .u8 3) rfl
  have lc1 := blk_cell Kc.out (o := 1) (v := .bool true) rfl
  have ld0 := blk_cell Kd.out (o := 0) (v := .int .u8 6) rfl
  have ld1 := blk_cell Kd.out (o := 1) (v := .bool false) rfl
  have le0 := blk_cell Ke.out (o := 0) (v := .int .u8 0) rfl
  have le1 := blk_cell Ke.out (o := 1) (v := .bool false) rfl
  have lf0 := blk_cell Kf.out (o := 0) (v := .int .u8 0) rfl
  have lf1 := blk_cell Kf.out (o := 1) (v := .bool false) rfl
  go_wp2
  go_ret
  exact ⟨rfl, B0.out⟩

end Go.Proofs.Ytbifknihkjjhcaa.Md
