/- Contract of the document's own Next. Conditions: the units are a byte. -/
import Derived.Test.YtkkjmepncceaoaaChkRMay
namespace Go.Proofs.Ytkkjmepncceaoaa.Chk
open Go.ChangeShapes Go.WideShapes Go.ChangeAt Go.RowKit Num By

attribute [local go_sem ↓] ldP_eq
set_option maxRecDepth 100000 in
set_option maxHeartbeats 2000000 in
theorem rNextNo (t : Pt) (u c : Int) (h : may t = false) (w : World) : Calls Try.prog 10 #[.agg (ptA t), .int .u8 u, .int .u8 c] w fun e w' => e = .returned (.agg (ptA z0)) ∧ Below w.heap.size w w' := by
  have HM := Lib.hid h
  clear h
  have K0 := Lib.hid (two_box w t z0)
  go_enter Try.func10, Try.ntmps10
  go_upto_region 1 with (fail)
  generalize World.alloc (World.alloc w _) _ = W at *
  have q := ldP_blk K0.out.ha
  go_wp2_with fail
  clear q
  refine (rMayIs t false HM.out _).mono ?_
  rintro e w1 ⟨rfl, bb⟩
  have K1 := Lib.hid (two_call K0.out bb)
  clear bb K0
  go_wp2_with ((with_reducible refine store_p rfl (.tmp 6) (.tmp 15) rfl (w.heap.size + 1) z0 z0 K1.out.hb ?_ ?_ ?_); rfl; rfl)
  refine bodyPost_ret (v := .agg (ptA z0)) ?_ rfl ⟨rfl, below_row K1.out.below (by omega) _⟩
  exact ret_p Try.results10 _ _ (w.heap.size + 1) z0 rfl (blk_row K1.out.hb _)
set_option maxRecDepth 100000 in
set_option maxHeartbeats 2000000 in
theorem rNextRs (t : Pt) (u c : Int) (h : may t = true) (hr : (bits .and .u8 c 8 != 0) = true) (w : World) : Calls Try.prog 10 #[.agg (ptA t), .int .u8 u, .int .u8 c] w fun e w' => e = .returned (.agg (ptA z0)) ∧ Below w.heap.size w w' := by
  have HM := Lib.hid h
  clear h
  have K0 := Lib.hid (two_box w t z0)
  go_enter Try.func10, Try.ntmps10
  go_upto_region 1 with (fail)
  generalize World.alloc (World.alloc w _) _ = W at *
  have q := ldP_blk K0.out.ha
  go_wp2_with fail
  clear q
  refine (rMayIs t true HM.out _).mono ?_
  rintro e w1 ⟨rfl, bb⟩
  have K1 := Lib.hid (two_call K0.out bb)
  clear bb K0
  go_wp2_with ((with_reducible refine store_p rfl (.tmp 6) (.tmp 15) rfl (w.heap.size + 1) z0 z0 K1.out.hb ?_ ?_ ?_); rfl; rfl)
  refine bodyPost_ret (v := .agg (ptA z0)) ?_ rfl ⟨rfl, below_row K1.out.below (by omega) _⟩
  exact ret_p Try.results10 _ _ (w.heap.size + 1) z0 rfl (blk_row K1.out.hb _)
set_option maxRecDepth 100000 in
set_option maxHeartbeats 2000000 in
theorem rNextOver (t : Pt) (u c : Int) (h : may t = true) (hr : (bits .and .u8 c 8 != 0) = false) (hp : t.p = true ∨ (t.p = false ∧ t.x = true)) (w : World) : Calls Try.prog 10 #[.agg (ptA t), .int .u8 u, .int .u8 c] w fun e w' => e = .returned (.agg (ptA t)) ∧ Below w.heap.size w w' := by
  have HM := Lib.hid h
  clear h
  have K0 := Lib.hid (two_box w t z0)
  go_enter Try.func10, Try.ntmps10
  go_upto_region 1 with (fail)
  generalize World.alloc (World.alloc w _) _ = W at *
  have q := ldP_blk K0.out.ha
  go_wp2_with fail
  clear q
  refine (rMayIs t true HM.out _).mono ?_
  rintro e w1 ⟨rfl, bb⟩
  have K1 := Lib.hid (two_call K0.out bb)
  clear bb K0
  have q := ldP_blk K1.out.ha
  rcases hp with hp | ⟨hp, hx⟩
  · have c2 := blk_cell K1.out.ha (o := 2) (v := .bool true) (by rw [← hp]; rfl)
    clear hp
    go_wp2_with ((with_reducible refine store_p rfl (.tmp 6) (.tmp 22) rfl (w.heap.size + 1) t z0 K1.out.hb ?_ ?_ ?_); rfl; rfl)
    refine bodyPost_ret (v := .agg (ptA t)) ?_ rfl ⟨rfl, below_row K1.out.below (by omega) _⟩
    exact ret_p Try.results10 _ _ (w.heap.size + 1) t rfl (blk_row K1.out.hb _)
  · have c2 := blk_cell K1.out.ha (o := 2) (v := .bool false) (by rw [← hp]; rfl)
    have c3 := blk_cell K1.out.ha (o := 3) (v := .bool true) (by rw [← hx]; rfl)
    clear hp hx
    go_wp2_with ((with_reducible refine store_p rfl (.tmp 6) (.tmp 22) rfl (w.heap.size + 1) t z0 K1.out.hb ?_ ?_ ?_); rfl; rfl)
    refine bodyPost_ret (v := .agg (ptA t)) ?_ rfl ⟨rfl, below_row K1.out.below (by omega) _⟩
    exact ret_p Try.results10 _ _ (w.heap.size + 1) t rfl (blk_row K1.out.hb _)
set_option maxRecDepth 100000 in
set_option maxHeartbeats 2000000 in
theorem rNextYesQ (s f u c : Int) (u0 : 0 ≤ u) (u1 : u < 256) (s0 : 0 ≤ s) (s4 : s < 4) (f0 : 0 ≤ f) (f5 : f < 5) (hw : wl u s = true) (hr : (bits .and .u8 c 8 != 0) = false) (w : World) : Calls Try.prog 10 #[.agg (ptA (go s f)), .int .u8 u, .int .u8 c] w fun e w' => e = .returned (.agg (ptA ⟨s + 1, 0, s == 3, false⟩)) ∧ Below w.heap.size w w' := by
  have HM := Lib.hid (may_go s0 s4 f0 f5)
  have HW : Hid ((bits .and .u8 (u / 2 ^ s.toNat) 1 == 1) = true) := (wl_eq u s u0 u1).trans hw
  clear hw
  have K0 := Lib.hid (two_box w (go s f) z0)
  go_enter Try.func10, Try.ntmps10
  go_upto_region 1 with (fail)
  generalize World.alloc (World.alloc w _) _ = W at *
  have q := ldP_blk K0.out.ha
  go_wp2_with fail
  clear q
  refine (rMayIs (go s f) true HM.out _).mono ?_
  rintro e w1 ⟨rfl, bb⟩
  have K1 := Lib.hid (two_call K0.out bb)
  clear bb K0
  have c0 := blk_cell K1.out.ha (o := 0) (v := .int .i64 s) rfl
  have c2 := blk_cell K1.out.ha (o := 2) (v := .bool false) rfl
  have c3 := blk_cell K1.out.ha (o := 3) (v := .bool false) rfl
  have hw := HW.out
  go_wp2_with ((with_reducible refine store_p rfl (.tmp 6) (.tmp 36) rfl (w.heap.size + 1) ⟨s + 1, 0, s == 3, false⟩ z0 K1.out.hb ?_ ?_ ?_); rfl; rfl)
  refine bodyPost_ret (v := .agg (ptA ⟨s + 1, 0, s == 3, false⟩)) ?_ rfl ⟨rfl, below_row K1.out.below (by omega) _⟩
  exact ret_p Try.results10 _ _ (w.heap.size + 1) ⟨s + 1, 0, s == 3, false⟩ rfl (blk_row K1.out.hb _)
set_option maxRecDepth 100000 in
set_option maxHeartbeats 2000000 in
theorem rNextNotQ (s f u c : Int) (u0 : 0 ≤ u) (u1 : u < 256) (s0 : 0 ≤ s) (s4 : s < 4) (f0 : 0 ≤ f) (f5 : f < 5) (hw : wl u s = false) (hr : (bits .and .u8 c 8 != 0) = false) (q : Bool) (hq : (f + 1 == 5) = q) (w : World) : Calls Try.prog 10 #[.agg (ptA (go s f)), .int .u8 u, .int .u8 c] w fun e w' => e = .returned (.agg (ptA ⟨s, f + 1, false, q⟩)) ∧ Below w.heap.size w w' := by
  have HM := Lib.hid (may_go s0 s4 f0 f5)
  have HW : Hid ((bits .and .u8 (u / 2 ^ s.toNat) 1 == 1) = false) := (wl_eq u s u0 u1).trans hw
  clear hw
  have HQ := Lib.hid hq
  clear hq
  have K0 := Lib.hid (two_box w (go s f) z0)
  go_enter Try.func10, Try.ntmps10
  go_upto_region 1 with (fail)
  generalize World.alloc (World.alloc w _) _ = W at *
  have q := ldP_blk K0.out.ha
  go_wp2_with fail
  clear q
  refine (rMayIs (go s f) true HM.out _).mono ?_
  rintro e w1 ⟨rfl, bb⟩
  have K1 := Lib.hid (two_call K0.out bb)
  clear bb K0
  have c0 := blk_cell K1.out.ha (o := 0) (v := .int .i64 s) rfl
  have c2 := blk_cell K1.out.ha (o := 2) (v := .bool false) rfl
  have c3 := blk_cell K1.out.ha (o := 3) (v := .bool false) rfl
  have hw := HW.out
  have c1 := blk_cell K1.out.ha (o := 1) (v := .int .i64 f) rfl
  have z := blk_free K1.out.ha 1
  have K2 := Lib.hid (two_set (o := 1) (v := .int .i64 (f + 1)) (c := go s (f + 1)) K1.out rfl)
  go_upto_region 8 with (fail)
  generalize hW : World.setCell w1 _ _ = W1
  have K3 : Hid (TwoAt w (go s (f + 1)) z0 W1) := by rw [← hW]; exact K2.out
  clear hW K1 K2 c0 c1 c2 c3 z hw
  have c1 := blk_cell K3.out.ha (o := 1) (v := .int .i64 (f + 1)) rfl
  have c3 := blk_cell K3.out.ha (o := 3) (v := .bool false) rfl
  have z := blk_free K3.out.ha 3
  have K4 := Lib.hid (two_set (o := 3) (v := .bool q) (c := ⟨s, f + 1, false, q⟩) K3.out rfl)
  have hq := HQ.out
  go_upto_region 9 with (fail)
  generalize hW : World.setCell W1 _ _ = W2
  have K5 : Hid (TwoAt w ⟨s, f + 1, false, q⟩ z0 W2) := by rw [← hW]; exact K4.out
  clear hW K3 K4 c1 c3 z hq HQ
  have l := ldP_blk K5.out.ha
  go_wp2_with ((with_reducible refine store_p rfl (.tmp 6) (.tmp 45) rfl (w.heap.size + 1) ⟨s, f + 1, false, q⟩ z0 K5.out.hb ?_ ?_ ?_); rfl; rfl)
  refine bodyPost_ret (v := .agg (ptA ⟨s, f + 1, false, q⟩)) ?_ rfl ⟨rfl, below_row K5.out.below (by omega) _⟩
  exact ret_p Try.results10 _ _ (w.heap.size + 1) ⟨s, f + 1, false, q⟩ rfl (blk_row K5.out.hb _)
/-- Next: P16.1. -/
theorem rNextC (t : Pt) (u c : Int) (r : Bool) (u0 : 0 ≤ u) (u1 : u < 256) (hr : (bits .and .u8 c 8 != 0) = r) (w : World) : Calls Try.prog 10 #[.agg (ptA t), .int .u8 u, .int .u8 c] w fun e w' => e = .returned (.agg (ptA (next t u r))) ∧ Below w.heap.size w w' := by
  cases hm : may t
  · rw [next_no hm]; exact rNextNo t u c hm w
  · cases r
    · rcases may_ways hm with rfl | ⟨s, a, b, rfl⟩ | ⟨s, f, a, b, d, e, rfl⟩
      · rw [next_done]; exact rNextOver _ u c hm hr (.inl rfl) w
      · rw [next_bad a b]; exact rNextOver _ u c hm hr (.inr ⟨rfl, rfl⟩) w
      · cases hw : wl u s
        · rw [next_not a b d e hw]; exact rNextNotQ s f u c u0 u1 a b d e hw hr _ (by rw [Bool.beq_eq_decide_eq]; exact decide_eq_decide.2 (by omega)) w
        · rw [next_yes a b d e hw, ← Bool.beq_eq_decide_eq]; exact rNextYesQ s f u c u0 u1 a b d e hw hr w
    · rw [next_rs]; exact rNextRs t u c hm hr w

end Go.Proofs.Ytkkjmepncceaoaa.Chk
