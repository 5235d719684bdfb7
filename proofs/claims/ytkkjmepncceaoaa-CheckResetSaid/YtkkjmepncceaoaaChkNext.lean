/- Contracts of check's goOn, wait, Next. Conditions: the units are a byte. -/
import Derived.Test.YtkkjmepncceaoaaChkMay
namespace Go.Proofs.Ytkkjmepncceaoaa.Chk
open Go.ChangeShapes Go.WideShapes Go.ChangeAt Go.RowKit Num By

attribute [local go_sem ↓] ldP_eq
set_option maxRecDepth 100000 in
set_option maxHeartbeats 2000000 in
theorem goOnQ (s f : Int) (q : Bool) (hq : decide (s + 1 = 4) = q) (s0 : 0 ≤ s) (s4 : s < 4) (w : World) : Calls Try.prog 16 #[.agg (ptA (go s f))] w fun e w' => e = .returned (.agg (ptA ⟨s + 1, 0, q, false⟩)) ∧ Below w.heap.size w w' := by
  have K0 := Lib.hid (two_box w (go s f) z0)
  have HE := Lib.hid hq
  clear hq
  go_enter Try.func16, Try.ntmps16
  go_upto_region 1 with (fail)
  generalize World.alloc (World.alloc w _) _ = W at *
  have c0 := blk_cell K0.out.ha (o := 0) (v := .int .i64 s) rfl
  go_wp2_with fail
  clear c0
  refine (behindC _ _).mono ?_
  rintro e w1 ⟨rfl, rfl⟩
  rw [HE.out]
  go_wp2_with ((with_reducible refine store_p rfl (.tmp 2) (.tmp 10) rfl (w.heap.size + 1) ⟨s + 1, 0, q, false⟩ z0 K0.out.hb ?_ ?_ ?_); rfl; rfl)
  refine bodyPost_ret (v := .agg (ptA ⟨s + 1, 0, q, false⟩)) ?_ rfl ⟨rfl, below_row K0.out.below (by omega) _⟩
  exact ret_p Try.results16 _ _ (w.heap.size + 1) ⟨s + 1, 0, q, false⟩ rfl (blk_row K0.out.hb _)
set_option maxRecDepth 100000 in
set_option maxHeartbeats 2000000 in
theorem waitQ (s f : Int) (q : Bool) (hq : decide (f + 1 = 5) = q) (f0 : 0 ≤ f) (f5 : f < 5) (w : World) : Calls Try.prog 17 #[.agg (ptA (go s f))] w fun e w' => e = .returned (.agg (ptA ⟨s, f + 1, false, q⟩)) ∧ Below w.heap.size w w' := by
  have K0 := Lib.hid (two_box w (go s f) z0)
  have HE := Lib.hid hq
  clear hq
  go_enter Try.func17, Try.ntmps17
  go_upto_region 1 with (fail)
  generalize World.alloc (World.alloc w _) _ = W at *
  have c0 := blk_cell K0.out.ha (o := 1) (v := .int .i64 f) rfl
  have z := blk_free K0.out.ha 1
  have K1 := Lib.hid (two_set (o := 1) (v := .int .i64 (f + 1)) (c := go s (f + 1)) K0.out rfl)
  go_upto_region 2 with (fail)
  generalize hW : World.setCell W _ _ = W1
  have K2 : Hid (TwoAt w (go s (f + 1)) z0 W1) := by rw [← hW]; exact K1.out
  clear hW K0 K1 c0 z
  have c0 := blk_cell K2.out.ha (o := 1) (v := .int .i64 (f + 1)) rfl
  have c3 := blk_cell K2.out.ha (o := 3) (v := .bool false) rfl
  have z := blk_free K2.out.ha 3
  go_wp2_with fail
  refine (longC _ _).mono ?_
  rintro e w1 ⟨rfl, rfl⟩
  rw [HE.out]
  have K3 := Lib.hid (two_set (o := 3) (v := .bool q) (c := ⟨s, f + 1, false, q⟩) K2.out rfl)
  go_upto_region 3 with (fail)
  generalize hW : World.setCell W1 _ _ = W2
  have K4 : Hid (TwoAt w ⟨s, f + 1, false, q⟩ z0 W2) := by rw [← hW]; exact K3.out
  clear hW K2 K3 c0 c3 z
  have l := ldP_blk K4.out.ha
  go_wp2_with ((with_reducible refine store_p rfl (.tmp 2) (.tmp 11) rfl (w.heap.size + 1) ⟨s, f + 1, false, q⟩ z0 K4.out.hb ?_ ?_ ?_); rfl; rfl)
  refine bodyPost_ret (v := .agg (ptA ⟨s, f + 1, false, q⟩)) ?_ rfl ⟨rfl, below_row K4.out.below (by omega) _⟩
  exact ret_p Try.results17 _ _ (w.heap.size + 1) ⟨s, f + 1, false, q⟩ rfl (blk_row K4.out.hb _)

theorem goOnC (s f : Int) (s0 : 0 ≤ s) (s4 : s < 4) (w : World) : Calls Try.prog 16 #[.agg (ptA (go s f))] w fun e w' => e = .returned (.agg (ptA ⟨s + 1, 0, decide (s = 3), false⟩)) ∧ Below w.heap.size w w' :=
  goOnQ s f _ (decide_eq_decide.2 (by omega)) s0 s4 w
theorem waitC (s f : Int) (f0 : 0 ≤ f) (f5 : f < 5) (w : World) : Calls Try.prog 17 #[.agg (ptA (go s f))] w fun e w' => e = .returned (.agg (ptA ⟨s, f + 1, false, decide (f = 4)⟩)) ∧ Below w.heap.size w w' :=
  waitQ s f _ (decide_eq_decide.2 (by omega)) f0 f5 w

set_option maxRecDepth 100000 in
set_option maxHeartbeats 2000000 in
theorem nextNo (t : Pt) (u c : Int) (r : Bool) (h : may t = false) (w : World) : Calls Try.prog 9 #[.agg (ptA t), .int .u8 u, .int .u8 c] w fun e w' => e = .returned (.agg (ptA (next t u r))) ∧ Below w.heap.size w w' := by
  have HM := Lib.hid h
  have HN := Lib.hid (next_no h u r)
  clear h
  have K0 := Lib.hid (two_box w t z0)
  go_enter Try.func9, Try.ntmps9
  go_upto_region 1 with (fail)
  generalize World.alloc (World.alloc w _) _ = W at *
  have q := ldP_blk K0.out.ha
  go_wp2_with fail
  clear q
  refine (mayIs t false HM.out _).mono ?_
  rintro e w1 ⟨rfl, bb⟩
  have K1 := Lib.hid (two_call K0.out bb)
  clear bb K0
  go_wp2_with ((with_reducible refine store_p rfl (.tmp 6) (.tmp 14) rfl (w.heap.size + 1) z0 z0 K1.out.hb ?_ ?_ ?_); rfl; rfl)
  refine bodyPost_ret (v := .agg (ptA z0)) ?_ rfl ⟨by rw [HN.out], below_row K1.out.below (by omega) _⟩
  exact ret_p Try.results9 _ _ (w.heap.size + 1) z0 rfl (blk_row K1.out.hb _)
set_option maxRecDepth 100000 in
set_option maxHeartbeats 2000000 in
theorem nextRs (t : Pt) (u c : Int) (h : may t = true) (hr : (bits .and .u8 c 8 != 0) = true) (w : World) : Calls Try.prog 9 #[.agg (ptA t), .int .u8 u, .int .u8 c] w fun e w' => e = .returned (.agg (ptA (next t u true))) ∧ Below w.heap.size w w' := by
  have HM := Lib.hid h
  have HN := Lib.hid (next_rs t u)
  clear h
  have K0 := Lib.hid (two_box w t z0)
  go_enter Try.func9, Try.ntmps9
  go_upto_region 1 with (fail)
  generalize World.alloc (World.alloc w _) _ = W at *
  have q := ldP_blk K0.out.ha
  go_wp2_with fail
  clear q
  refine (mayIs t true HM.out _).mono ?_
  rintro e w1 ⟨rfl, bb⟩
  have K1 := Lib.hid (two_call K0.out bb)
  clear bb K0
  go_wp2_with ((with_reducible refine store_p rfl (.tmp 6) (.tmp 14) rfl (w.heap.size + 1) z0 z0 K1.out.hb ?_ ?_ ?_); rfl; rfl)
  refine bodyPost_ret (v := .agg (ptA z0)) ?_ rfl ⟨by rw [HN.out], below_row K1.out.below (by omega) _⟩
  exact ret_p Try.results9 _ _ (w.heap.size + 1) z0 rfl (blk_row K1.out.hb _)
theorem nextOver (t : Pt) (u c : Int) (h : may t = true) (hr : (bits .and .u8 c 8 != 0) = false) (hp : t.p = true ∨ (t.p = false ∧ t.x = true)) (w : World) : Calls Try.prog 9 #[.agg (ptA t), .int .u8 u, .int .u8 c] w fun e w' => e = .returned (.agg (ptA t)) ∧ Below w.heap.size w w' := by
  have HM := Lib.hid h
  clear h
  have K0 := Lib.hid (two_box w t z0)
  go_enter Try.func9, Try.ntmps9
  go_upto_region 1 with (fail)
  generalize World.alloc (World.alloc w _) _ = W at *
  have q := ldP_blk K0.out.ha
  go_wp2_with fail
  clear q
  refine (mayIs t true HM.out _).mono ?_
  rintro e w1 ⟨rfl, bb⟩
  have K1 := Lib.hid (two_call K0.out bb)
  clear bb K0
  have q := ldP_blk K1.out.ha
  rcases hp with hp | ⟨hp, hx⟩
  · have c2 := blk_cell K1.out.ha (o := 2) (v := .bool true) (by rw [← hp]; rfl)
    clear hp
    go_wp2_with ((with_reducible refine store_p rfl (.tmp 6) (.tmp 20) rfl (w.heap.size + 1) t z0 K1.out.hb ?_ ?_ ?_); rfl; rfl)
    refine bodyPost_ret (v := .agg (ptA t)) ?_ rfl ⟨rfl, below_row K1.out.below (by omega) _⟩
    exact ret_p Try.results9 _ _ (w.heap.size + 1) t rfl (blk_row K1.out.hb _)
  · have c2 := blk_cell K1.out.ha (o := 2) (v := .bool false) (by rw [← hp]; rfl)
    have c3 := blk_cell K1.out.ha (o := 3) (v := .bool true) (by rw [← hx]; rfl)
    clear hp hx
    go_wp2_with ((with_reducible refine store_p rfl (.tmp 6) (.tmp 20) rfl (w.heap.size + 1) t z0 K1.out.hb ?_ ?_ ?_); rfl; rfl)
    refine bodyPost_ret (v := .agg (ptA t)) ?_ rfl ⟨rfl, below_row K1.out.below (by omega) _⟩
    exact ret_p Try.results9 _ _ (w.heap.size + 1) t rfl (blk_row K1.out.hb _)
set_option maxRecDepth 100000 in
set_option maxHeartbeats 2000000 in
theorem nextNot (s f u c : Int) (u0 : 0 ≤ u) (u1 : u < 256) (s0 : 0 ≤ s) (s4 : s < 4) (f0 : 0 ≤ f) (f5 : f < 5) (hw : wl u s = false) (hr : (bits .and .u8 c 8 != 0) = false) (w : World) : Calls Try.prog 9 #[.agg (ptA (go s f)), .int .u8 u, .int .u8 c] w fun e w' => e = .returned (.agg (ptA (next (go s f) u false))) ∧ Below w.heap.size w w' := by
  rw [next_not s0 s4 f0 f5 hw]
  have HC := Lib.hid (fun W => waitC s f f0 f5 W)
  generalize decide (f = 4) = q at *
  have HW := Lib.hid hw
  have HM := Lib.hid (may_go s0 s4 f0 f5)
  have K0 := Lib.hid (two_box w (go s f) z0)
  clear hw
  go_enter Try.func9, Try.ntmps9
  go_upto_region 1 with (fail)
  generalize World.alloc (World.alloc w _) _ = W at *
  have q1 := ldP_blk K0.out.ha
  go_wp2_with fail
  clear q1
  refine (mayIs (go s f) true HM.out _).mono ?_
  rintro e w1 ⟨rfl, bb⟩
  have K1 := Lib.hid (two_call K0.out bb)
  clear bb K0
  have q1 := ldP_blk K1.out.ha
  have c0 := blk_cell K1.out.ha (o := 0) (v := .int .i64 s) rfl
  have c2 := blk_cell K1.out.ha (o := 2) (v := .bool false) rfl
  have c3 := blk_cell K1.out.ha (o := 3) (v := .bool false) rfl
  go_wp2_with fail
  refine (isWellC u s u0 u1 s0 s4 _).mono ?_
  rintro e w' ⟨rfl, rfl⟩
  rw [HW.out]
  go_wp2_with fail
  clear q1 c0 c2 c3
  refine (HC.out _).mono ?_
  rintro e w2 ⟨rfl, bb⟩
  have K2 := Lib.hid (two_call K1.out bb)
  clear bb K1
  go_wp2_with ((with_reducible refine store_p rfl (.tmp 6) (.tmp 29) rfl (w.heap.size + 1) ⟨s, f + 1, false, q⟩ z0 K2.out.hb ?_ ?_ ?_); rfl; rfl)
  refine bodyPost_ret (v := .agg (ptA ⟨s, f + 1, false, q⟩)) ?_ rfl ⟨rfl, below_row K2.out.below (by omega) _⟩
  exact ret_p Try.results9 _ _ (w.heap.size + 1) ⟨s, f + 1, false, q⟩ rfl (blk_row K2.out.hb _)
set_option maxRecDepth 100000 in
set_option maxHeartbeats 2000000 in
theorem nextYes (s f u c : Int) (u0 : 0 ≤ u) (u1 : u < 256) (s0 : 0 ≤ s) (s4 : s < 4) (f0 : 0 ≤ f) (f5 : f < 5) (hw : wl u s = true) (hr : (bits .and .u8 c 8 != 0) = false) (w : World) : Calls Try.prog 9 #[.agg (ptA (go s f)), .int .u8 u, .int .u8 c] w fun e w' => e = .returned (.agg (ptA (next (go s f) u false))) ∧ Below w.heap.size w w' := by
  rw [next_yes s0 s4 f0 f5 hw]
  have HC := Lib.hid (fun W => goOnC s f s0 s4 W)
  generalize decide (s = 3) = q at *
  have HW := Lib.hid hw
  have HM := Lib.hid (may_go s0 s4 f0 f5)
  have K0 := Lib.hid (two_box w (go s f) z0)
  clear hw
  go_enter Try.func9, Try.ntmps9
  go_upto_region 1 with (fail)
  generalize World.alloc (World.alloc w _) _ = W at *
  have q1 := ldP_blk K0.out.ha
  go_wp2_with fail
  clear q1
  refine (mayIs (go s f) true HM.out _).mono ?_
  rintro e w1 ⟨rfl, bb⟩
  have K1 := Lib.hid (two_call K0.out bb)
  clear bb K0
  have q1 := ldP_blk K1.out.ha
  have c0 := blk_cell K1.out.ha (o := 0) (v := .int .i64 s) rfl
  have c2 := blk_cell K1.out.ha (o := 2) (v := .bool false) rfl
  have c3 := blk_cell K1.out.ha (o := 3) (v := .bool false) rfl
  go_wp2_with fail
  refine (isWellC u s u0 u1 s0 s4 _).mono ?_
  rintro e w' ⟨rfl, rfl⟩
  rw [HW.out]
  go_wp2_with fail
  clear q1 c0 c2 c3
  refine (HC.out _).mono ?_
  rintro e w2 ⟨rfl, bb⟩
  have K2 := Lib.hid (two_call K1.out bb)
  clear bb K1
  go_wp2_with ((with_reducible refine store_p rfl (.tmp 6) (.tmp 27) rfl (w.heap.size + 1) ⟨s + 1, 0, q, false⟩ z0 K2.out.hb ?_ ?_ ?_); rfl; rfl)
  refine bodyPost_ret (v := .agg (ptA ⟨s + 1, 0, q, false⟩)) ?_ rfl ⟨rfl, below_row K2.out.below (by omega) _⟩
  exact ret_p Try.results9 _ _ (w.heap.size + 1) ⟨s + 1, 0, q, false⟩ rfl (blk_row K2.out.hb _)
/-- Next: P16.1. -/
theorem nextC (t : Pt) (u c : Int) (r : Bool) (u0 : 0 ≤ u) (u1 : u < 256) (hr : (bits .and .u8 c 8 != 0) = r) (w : World) : Calls Try.prog 9 #[.agg (ptA t), .int .u8 u, .int .u8 c] w fun e w' => e = .returned (.agg (ptA (next t u r))) ∧ Below w.heap.size w w' := by
  cases hm : may t
  · exact nextNo t u c r hm w
  · cases r
    · rcases may_ways hm with rfl | ⟨s, a, b, rfl⟩ | ⟨s, f, a, b, d, e, rfl⟩
      · rw [next_done]; exact nextOver _ u c hm hr (.inl rfl) w
      · rw [next_bad a b]; exact nextOver _ u c hm hr (.inr ⟨rfl, rfl⟩) w
      · cases hw : wl u s
        · exact nextNot s f u c u0 u1 a b d e hw hr w
        · exact nextYes s f u c u0 u1 a b d e hw hr w
    · exact nextRs t u c hm hr w

end Go.Proofs.Ytkkjmepncceaoaa.Chk
