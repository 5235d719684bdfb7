/- Contract of the reference's All. Conditions: the numbers are int64. -/
import Derived.Test.YtafifglfbebhaaaVoteAll
namespace Go.Proofs.Ytafifglfbebhaaa.Vote
open Go.ChangeShapes Go.WideShapes Go.ChangeAt Go.RowKit Num Bl Pers Mid

set_option maxRecDepth 100000 in
set_option maxHeartbeats 20000000 in
theorem rAllC (H : Nat → Nat → Hl) (R : Nat → Nat → Rd) (q : Bool) (w : World) (hR : ∀ i k, In (R i k).v) :
    Calls Try.prog 14 #[.agg (h36 H), .agg (r24 R), .bool q] w fun e w' => e = .returned (.tuple #[.agg (h36 (alH H R q)), .agg (v12 (alV H R))]) ∧ Below w.heap.size w w' := by
  have HR := Lib.hid hR
  have HF : Hid (∀ i, stH (H i) (R i) (Dict.kAp (Dict.sL i)) q = alH H R q i) := fun _ => rfl
  have HV : Hid (∀ i, stV (H i) (R i) (Dict.kAp (Dict.sL i)) = alV H R i) := fun _ => rfl
  clear hR
  generalize alH H R q = F at *
  generalize alV H R = V at *
  have K0 := Lib.hid (all_begin w H F R V)
  have q0 : h36 H = #[.int .i64 (H 0 0).b, .bool (H 0 0).o, .int .i64 (H 0 0).g, .int .i64 (H 0 1).b, .bool (H 0 1).o, .int .i64 (H 0 1).g, .int .i64 (H 0 2).b, .bool (H 0 2).o, .int .i64 (H 0 2).g, .int .i64 (H 1 0).b, .bool (H 1 0).o, .int .i64 (H 1 0).g, .int .i64 (H 1 1).b, .bool (H 1 1).o, .int .i64 (H 1 1).g, .int .i64 (H 1 2).b, .bool (H 1 2).o, .int .i64 (H 1 2).g, .int .i64 (H 2 0).b, .bool (H 2 0).o, .int .i64 (H 2 0).g, .int .i64 (H 2 1).b, .bool (H 2 1).o, .int .i64 (H 2 1).g, .int .i64 (H 2 2).b, .bool (H 2 2).o, .int .i64 (H 2 2).g, .int .i64 (H 3 0).b, .bool (H 3 0).o, .int .i64 (H 3 0).g, .int .i64 (H 3 1).b, .bool (H 3 1).o, .int .i64 (H 3 1).g, .int .i64 (H 3 2).b, .bool (H 3 2).o, .int .i64 (H 3 2).g] := rfl
  have q1 : h36 noHs = #[.int .i64 0, .bool false, .int .i64 0, .int .i64 0, .bool false, .int .i64 0, .int .i64 0, .bool false, .int .i64 0, .int .i64 0, .bool false, .int .i64 0, .int .i64 0, .bool false, .int .i64 0, .int .i64 0, .bool false, .int .i64 0, .int .i64 0, .bool false, .int .i64 0, .int .i64 0, .bool false, .int .i64 0, .int .i64 0, .bool false, .int .i64 0, .int .i64 0, .bool false, .int .i64 0, .int .i64 0, .bool false, .int .i64 0, .int .i64 0, .bool false, .int .i64 0] := rfl
  have q2 : v12 noVs = #[.bool false, .int .i64 0, .int .i64 0, .bool false, .int .i64 0, .int .i64 0, .bool false, .int .i64 0, .int .i64 0, .bool false, .int .i64 0, .int .i64 0] := rfl
  have q3 : r24 R = #[.bool (R 0 0).i, .int .i64 (R 0 0).v, .bool (R 0 1).i, .int .i64 (R 0 1).v, .bool (R 0 2).i, .int .i64 (R 0 2).v, .bool (R 1 0).i, .int .i64 (R 1 0).v, .bool (R 1 1).i, .int .i64 (R 1 1).v, .bool (R 1 2).i, .int .i64 (R 1 2).v, .bool (R 2 0).i, .int .i64 (R 2 0).v, .bool (R 2 1).i, .int .i64 (R 2 1).v, .bool (R 2 2).i, .int .i64 (R 2 2).v, .bool (R 3 0).i, .int .i64 (R 3 0).v, .bool (R 3 1).i, .int .i64 (R 3 1).v, .bool (R 3 2).i, .int .i64 (R 3 2).v] := rfl
  go_enter Try.func14, Try.ntmps14
  go_wp2
  clear q0 q1 q2 q3
  go_loopw [9] (fun v wr => ∃ i : Nat, v = .int .i64 i ∧ i ≤ 4 ∧ AllAt w H F R V i wr) (fun v _ => 4 - (intOf v).toNat)
  case atStart => exact ⟨0, rfl, by omega, K0.out⟩
  case round =>
    rename_i wr
    obtain ⟨i, rfl, hi, A⟩ := hrel
    have HA := Lib.hid A
    clear A K0
    by_cases hi4 : i < 4
    · have i0 : (0 : Int) ≤ (i : Int) := Int.natCast_nonneg _
      have i4 : (i : Int) < 4 := by omega
      have cS := Lib.hid (fun W => rStepC (H i) (R i) (Dict.kAp (Dict.sL i)) q W (HR.out i) (kAp_in _))
      rw [HF.out i, HV.out i] at cS
      go_wp2_with fail
      refine (Dict.rKindOf i _).mono ?_
      rintro e w1 ⟨rfl, b1⟩
      have HB := Lib.hid (all_below HA.out b1)
      have lt0 := blk_lt HB.out.hh
      have lt1 := blk_lt HB.out.hr
      clear b1 HA
      unfold Dict.kA
      have a0 := blk_cell HB.out.hh (o := i * 9) (v := .int .i64 (H i 0).b) ((h36_0 _ i hi4).trans (by rw [mixA_at]))
      have a1 := blk_cell HB.out.hh (o := i * 9 + 1) (v := .bool (H i 0).o) ((h36_1 _ i hi4).trans (by rw [mixA_at]))
      have a2 := blk_cell HB.out.hh (o := i * 9 + 2) (v := .int .i64 (H i 0).g) ((h36_2 _ i hi4).trans (by rw [mixA_at]))
      have r0 := blk_cell HB.out.hr (o := i * 6) (v := .bool (R i 0).i) (r24_0 R i hi4)
      have r1 := blk_cell HB.out.hr (o := i * 6 + 1) (v := .int .i64 (R i 0).v) (r24_1 R i hi4)
      have a3 := blk_cell HB.out.hh (o := i * 9 + 3) (v := .int .i64 (H i 1).b) ((h36_3 _ i hi4).trans (by rw [mixA_at]))
      have a4 := blk_cell HB.out.hh (o := i * 9 + 4) (v := .bool (H i 1).o) ((h36_4 _ i hi4).trans (by rw [mixA_at]))
      have a5 := blk_cell HB.out.hh (o := i * 9 + 5) (v := .int .i64 (H i 1).g) ((h36_5 _ i hi4).trans (by rw [mixA_at]))
      have r2 := blk_cell HB.out.hr (o := i * 6 + 2) (v := .bool (R i 1).i) (r24_2 R i hi4)
      have r3 := blk_cell HB.out.hr (o := i * 6 + 3) (v := .int .i64 (R i 1).v) (r24_3 R i hi4)
      have a6 := blk_cell HB.out.hh (o := i * 9 + 6) (v := .int .i64 (H i 2).b) ((h36_6 _ i hi4).trans (by rw [mixA_at]))
      have a7 := blk_cell HB.out.hh (o := i * 9 + 7) (v := .bool (H i 2).o) ((h36_7 _ i hi4).trans (by rw [mixA_at]))
      have a8 := blk_cell HB.out.hh (o := i * 9 + 8) (v := .int .i64 (H i 2).g) ((h36_8 _ i hi4).trans (by rw [mixA_at]))
      have r4 := blk_cell HB.out.hr (o := i * 6 + 4) (v := .bool (R i 2).i) (r24_4 R i hi4)
      have r5 := blk_cell HB.out.hr (o := i * 6 + 5) (v := .int .i64 (R i 2).v) (r24_5 R i hi4)
      go_wp2_with fail
      go_region_with (go_at_call 9; refine (cS.out _).mono ?_; rintro e v ⟨rfl, bb⟩; have HD := Lib.hid (all_below HB.out (all_two bb)); have c0 := blk_cell HD.out.hh (h36_0 _ i hi4); have f0 := blk_free HD.out.hh (i * 9); have c1 := blk_cell HD.out.hh (h36_1 _ i hi4); have f1 := blk_free HD.out.hh (i * 9 + 1); have c2 := blk_cell HD.out.hh (h36_2 _ i hi4); have f2 := blk_free HD.out.hh (i * 9 + 2); have c3 := blk_cell HD.out.hh (h36_3 _ i hi4); have f3 := blk_free HD.out.hh (i * 9 + 3); have c4 := blk_cell HD.out.hh (h36_4 _ i hi4); have f4 := blk_free HD.out.hh (i * 9 + 4); have c5 := blk_cell HD.out.hh (h36_5 _ i hi4); have f5 := blk_free HD.out.hh (i * 9 + 5); have c6 := blk_cell HD.out.hh (h36_6 _ i hi4); have f6 := blk_free HD.out.hh (i * 9 + 6); have c7 := blk_cell HD.out.hh (h36_7 _ i hi4); have f7 := blk_free HD.out.hh (i * 9 + 7); have c8 := blk_cell HD.out.hh (h36_8 _ i hi4); have f8 := blk_free HD.out.hh (i * 9 + 8); have d0 := blk_cell HD.out.hv (v12_0 _ i hi4); have g0 := blk_free HD.out.hv (i * 3); have d1 := blk_cell HD.out.hv (v12_1 _ i hi4); have g1 := blk_free HD.out.hv (i * 3 + 1); have d2 := blk_cell HD.out.hv (v12_2 _ i hi4); have g2 := blk_free HD.out.hv (i * 3 + 2); clear bb a0 a1 a2 a3 a4 a5 a6 a7 a8 r0 r1 r2 r3 r4 r5)
      all_goals
        have HE := Lib.hid (all_put HD.out hi4)
        clear HD HB lt0 lt1 c0 f0 c1 f1 c2 f2 c3 f3 c4 f4 c5 f5 c6 f6 c7 f7 c8 f8 d0 g0 d1 g1 d2 g2
        go_wp2
        go_roundw
        case rel => exact ⟨i + 1, by go_num, by omega, HE.out⟩
        case measure => simp [intOf]; omega
    · obtain rfl : i = 4 := by omega
      have e4 : ((4 : Nat) : Int) = 4 := rfl
      have E := Lib.hid (all_end HA.out)
      go_upto_region 7 with (fail)
      refine wp_region_any (by kernel_rfl) ?_
      change wpAny _ _ _ _ _ _ _ (World.drew _)
      refine wpAny_ready (rs := [0, 1]) (by kernel_rfl) (by simp) ?_
      refine AllReady.cons rfl (fun K hK => ?_) (AllReady.cons rfl (fun K hK => ?_) AllReady.nil)
      · skip
        refine wp_load_row 35 (.tmp 3) rfl w.heap.size rfl 35 (h36 F) (0, 0) _ E.out.ha Try.underlying35 rfl info35 ?_
        refine hK _ _ ?_
        clear hK K
        refine wpAny_ready (rs := [1, 2]) (by kernel_rfl) (by simp) ?_
        refine AllReady.cons rfl (fun K hK => ?_) (AllReady.cons rfl (fun K hK => ?_) AllReady.nil)
        · skip
          refine wp_load_row 37 (.tmp 8) rfl (w.heap.size + 1 + 1 + 1 + 1) rfl 37 (v12 V) (0, 0) _ E.out.hb Try.underlying37 rfl info37 ?_
          refine hK _ _ ?_
          clear hK K
          refine wpAny_ready (rs := [2]) (by kernel_rfl) (by simp) ?_
          refine AllReady.cons rfl (fun K hK => ?_) AllReady.nil
          refine wp_store_row 35 (.tmp 6) (.tmp 38) rfl (w.heap.size + 1 + 1) (h36 F) rfl rfl 35 _ E.out.hc info35 rfl (by kernel_rfl) ?_
          have E1 := Lib.hid (end_c E.out)
          refine hK _ _ ?_
          clear hK K
          refine wpAny_ready (rs := [3]) (by kernel_rfl) (by simp) ?_
          refine AllReady.cons rfl (fun K hK => ?_) AllReady.nil
          refine wp_store_row 37 (.tmp 7) (.tmp 39) rfl (w.heap.size + 1 + 1 + 1) (v12 V) rfl rfl 37 _ E1.out.hd info37 rfl (by kernel_rfl) ?_
          have E2 := Lib.hid (end_d E1.out)
          refine hK _ _ ?_
          clear hK K
          refine wpAny_done (by kernel_rfl) ?_ _
          go_wp2
          refine bodyPost_ret (v := .tuple #[.agg (h36 F), .agg (v12 V)]) ?_ rfl ⟨rfl, E2.out.below⟩
          exact ret_rows Try.results14 _ _ (w.heap.size + 1 + 1) (w.heap.size + 1 + 1 + 1) (h36 F) (v12 V) rfl rfl (row_36 E2.out.hc) (row_12 E2.out.hd)
        · skip
          refine wp_store_row 35 (.tmp 6) (.tmp 38) rfl (w.heap.size + 1 + 1) (h36 F) rfl rfl 35 _ E.out.hc info35 rfl (by kernel_rfl) ?_
          have E3 := Lib.hid (end_c E.out)
          refine hK _ _ ?_
          clear hK K
          refine wpAny_ready (rs := [1]) (by kernel_rfl) (by simp) ?_
          refine AllReady.cons rfl (fun K hK => ?_) AllReady.nil
          refine wp_load_row 37 (.tmp 8) rfl (w.heap.size + 1 + 1 + 1 + 1) rfl 37 (v12 V) (0, 0) _ E3.out.hb Try.underlying37 rfl info37 ?_
          refine hK _ _ ?_
          clear hK K
          refine wpAny_ready (rs := [3]) (by kernel_rfl) (by simp) ?_
          refine AllReady.cons rfl (fun K hK => ?_) AllReady.nil
          refine wp_store_row 37 (.tmp 7) (.tmp 39) rfl (w.heap.size + 1 + 1 + 1) (v12 V) rfl rfl 37 _ E3.out.hd info37 rfl (by kernel_rfl) ?_
          have E4 := Lib.hid (end_d E3.out)
          refine hK _ _ ?_
          clear hK K
          refine wpAny_done (by kernel_rfl) ?_ _
          go_wp2
          refine bodyPost_ret (v := .tuple #[.agg (h36 F), .agg (v12 V)]) ?_ rfl ⟨rfl, E4.out.below⟩
          exact ret_rows Try.results14 _ _ (w.heap.size + 1 + 1) (w.heap.size + 1 + 1 + 1) (h36 F) (v12 V) rfl rfl (row_36 E4.out.hc) (row_12 E4.out.hd)
      · skip
        refine wp_load_row 37 (.tmp 8) rfl (w.heap.size + 1 + 1 + 1 + 1) rfl 37 (v12 V) (0, 0) _ E.out.hb Try.underlying37 rfl info37 ?_
        refine hK _ _ ?_
        clear hK K
        refine wpAny_ready (rs := [0]) (by kernel_rfl) (by simp) ?_
        refine AllReady.cons rfl (fun K hK => ?_) AllReady.nil
        refine wp_load_row 35 (.tmp 3) rfl w.heap.size rfl 35 (h36 F) (0, 0) _ E.out.ha Try.underlying35 rfl info35 ?_
        refine hK _ _ ?_
        clear hK K
        refine wpAny_ready (rs := [2]) (by kernel_rfl) (by simp) ?_
        refine AllReady.cons rfl (fun K hK => ?_) AllReady.nil
        refine wp_store_row 35 (.tmp 6) (.tmp 38) rfl (w.heap.size + 1 + 1) (h36 F) rfl rfl 35 _ E.out.hc info35 rfl (by kernel_rfl) ?_
        have E5 := Lib.hid (end_c E.out)
        refine hK _ _ ?_
        clear hK K
        refine wpAny_ready (rs := [3]) (by kernel_rfl) (by simp) ?_
        refine AllReady.cons rfl (fun K hK => ?_) AllReady.nil
        refine wp_store_row 37 (.tmp 7) (.tmp 39) rfl (w.heap.size + 1 + 1 + 1) (v12 V) rfl rfl 37 _ E5.out.hd info37 rfl (by kernel_rfl) ?_
        have E6 := Lib.hid (end_d E5.out)
        refine hK _ _ ?_
        clear hK K
        refine wpAny_done (by kernel_rfl) ?_ _
        go_wp2
        refine bodyPost_ret (v := .tuple #[.agg (h36 F), .agg (v12 V)]) ?_ rfl ⟨rfl, E6.out.below⟩
        exact ret_rows Try.results14 _ _ (w.heap.size + 1 + 1) (w.heap.size + 1 + 1 + 1) (h36 F) (v12 V) rfl rfl (row_36 E6.out.hc) (row_12 E6.out.hd)

end Go.Proofs.Ytafifglfbebhaaa.Vote
