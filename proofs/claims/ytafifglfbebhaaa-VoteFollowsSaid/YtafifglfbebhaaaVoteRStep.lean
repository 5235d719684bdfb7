/- Contract of the reference's Step. Conditions: the numbers are int64. -/
import Derived.Test.YtafifglfbebhaaaVoteStep
namespace Go.Proofs.Ytafifglfbebhaaa.Vote
open Go.ChangeShapes Go.WideShapes Go.ChangeAt Go.RowKit Num Bl Pers Mid

/-- What the reference's rounds leave. -/
structure RStepAt (w0 : World) (H F : Nat → Hl) (R : Nat → Rd) (V : Vt) (v o k : Nat) (w : World) : Prop where
  below : Below w0.heap.size w0 w
  hh : Blk w w0.heap.size (hsA H) 24
  hr : Blk w (w0.heap.size + 1) (rsA R) 27
  h8 : Blk w (w0.heap.size + 1 + 1) (hsA noH) 24
  h9 : Blk w (w0.heap.size + 1 + 1 + 1) (vc noV) 29
  hv : Blk w v (vc V) 29
  ho : Blk w o (hsA (mixH noH F k)) 24
  lv : w0.heap.size + 1 + 1 + 1 < v
  lo : v < o
theorem rstep_below {w0 w w1 : World} {H F : Nat → Hl} {R : Nat → Rd} {V : Vt} {v o k : Nat} (h : RStepAt w0 H F R V v o k w) (b : Below w.heap.size w w1) : RStepAt w0 H F R V v o k w1 :=
  ⟨bthen h.below b, blk_kept h.hh b, blk_kept h.hr b, blk_kept h.h8 b, blk_kept h.h9 b, blk_kept h.hv b, blk_kept h.ho b, h.lv, h.lo⟩
theorem rstep_put {w0 w : World} {H F : Nat → Hl} {R : Nat → Rd} {V : Vt} {v o k : Nat} {s : Hl} (h : RStepAt w0 H F R V v o k w) (hs : F k = s) (hk : k < 3) :
    RStepAt w0 H F R V v o (k + 1) (((w.setCell ⟨o, k * 3, none⟩ (.int .i64 s.b)).setCell ⟨o, k * 3 + 1, none⟩ (.bool s.o)).setCell ⟨o, k * 3 + 2, none⟩ (.int .i64 s.g)) := by
  have hlv := h.lv
  have hlo := h.lo
  exact ⟨((h.below.setCell (p := ⟨o, k * 3, none⟩) (by show w0.heap.size ≤ o; omega) _).setCell (p := ⟨o, k * 3 + 1, none⟩) (by show w0.heap.size ≤ o; omega) _).setCell (p := ⟨o, k * 3 + 2, none⟩) (by show w0.heap.size ≤ o; omega) _,
    blk_far (blk_far (blk_far h.hh _ _ (by omega)) _ _ (by omega)) _ _ (by omega), blk_far (blk_far (blk_far h.hr _ _ (by omega)) _ _ (by omega)) _ _ (by omega), blk_far (blk_far (blk_far h.h8 _ _ (by omega)) _ _ (by omega)) _ _ (by omega),
    blk_far (blk_far (blk_far h.h9 _ _ (by omega)) _ _ (by omega)) _ _ (by omega), blk_far (blk_far (blk_far h.hv _ _ (by omega)) _ _ (by omega)) _ _ (by omega), by
    rw [← mixH_set hs hk]; exact blk_set (blk_set (blk_set h.ho _ _) _ _) _ _, h.lv, h.lo⟩
theorem rstep_end {w0 w : World} {H F : Nat → Hl} {R : Nat → Rd} {V : Vt} {v o : Nat} (h : RStepAt w0 H F R V v o 3 w) :
    EndAt w0 o v (w0.heap.size + 1 + 1) (w0.heap.size + 1 + 1 + 1) 24 29 (hsA F) (vc V) (hsA noH) (vc noV) w.drew := by
  have hlv := h.lv
  have hlo := h.lo
  exact ⟨below_drewN h.below 1, by rw [← mixH_all noH F]; exact h.ho, h.hv, h.h8, h.h9, by omega, by omega, by omega, by omega, by omega, by omega, by omega⟩
theorem rstep_begin {w w1 w2 : World} {H F : Nat → Hl} {R : Nat → Rd} {V : Vt} (b1 : Below (four w H R).heap.size (four w H R) w1) (b2 : Below w1.heap.size w1 w2) :
    RStepAt w H F R V w2.heap.size (w2.heap.size + 1) 0 ((w2.alloc (.cells (vc V) 29)).alloc (.cells (hsA noH) 24)) := by
  obtain ⟨q0, q1, q2, q3, q4⟩ := four_at w H R
  have b3 : Below w2.heap.size w2 ((w2.alloc (.cells (vc V) 29)).alloc (.cells (hsA noH) 24)) := ((Below.refl _ w2).alloc (Nat.le_refl _) _).alloc (by simp) _
  have k2 := blk_lt (blk_kept (blk_kept q4 b1) b2)
  exact ⟨bthen (bthen (bthen q0 b1) b2) b3, blk_kept (blk_kept (blk_kept q1 b1) b2) b3, blk_kept (blk_kept (blk_kept q2 b1) b2) b3, blk_kept (blk_kept (blk_kept q3 b1) b2) b3, blk_kept (blk_kept (blk_kept q4 b1) b2) b3,
    blk_kept (blk_alloc w2 _ _) ((Below.refl _ _).alloc (Nat.le_refl _) _), blk_alloc2 w2 _ _ _, by omega, by omega⟩
theorem hl_eta {s : Hl} {o : Bool} (h : s.o = o) : (⟨s.b, o, s.g⟩ : Hl) = s := by subst h; rfl

set_option maxRecDepth 100000 in
set_option maxHeartbeats 20000000 in
theorem rStepC (H : Nat → Hl) (R : Nat → Rd) (d : Int) (q : Bool) (w : World) (hR : ∀ i, In (R i).v) (hd : In d) :
    Calls Try.prog 9 #[.agg (hsA H), .agg (rsA R), .int .i64 d, .bool q] w fun e w' => e = .returned (.tuple #[.agg (hsA (stH H R d q)), vv (stV H R d)]) ∧ Below w.heap.size w w' := by
  have HR := Lib.hid hR
  have HV := Lib.hid (stV_in H R d hR)
  have HD := Lib.hid hd
  have HF : Hid (∀ k, stH H R d q k = next (H k) (bd (R k) (pres H R k).i (stV H R d) d) q) := fun _ => rfl
  have hn := cn_le (pres H R) 3
  have HN : Hid ((stV H R d).n = (cn (pres H R) 3 : Int)) := vot_n _ _ _
  have cC : Hid (∀ A c W, Ints W W.heap.size A (cn (pres H R) 3) (vl (pres H R) 3) → Calls Try.prog 22 #[.slice A (cn (pres H R) 3) c, .int .i64 d] W fun e w' => e = .returned (vv (stV H R d)) ∧ Below W.heap.size W w') := fun A c W hP => rVoted A (cn (pres H R) 3) c (vl (pres H R) 3) d W (cn_le _ 3) (vl_in _ (pres_in H R hR) 3) hd hP
  have cP : Hid (∀ W, Calls Try.prog 21 #[.agg (hsA H), .agg (rsA R)] W fun e w' => ∃ A c, e = .returned (.slice A (cn (pres H R) 3) c) ∧ Ints w' w'.heap.size A (cn (pres H R) 3) (vl (pres H R) 3) ∧ Below W.heap.size W w') := fun W => rPresent H R W
  clear hR hd
  generalize stH H R d q = F at *
  generalize stV H R d = V at *
  generalize cn (pres H R) 3 = n at *
  generalize vl (pres H R) 3 = L at *
  obtain ⟨vi, vn, vk⟩ := V
  obtain rfl : vk = n := HN.out
  go_enter Try.func9, Try.ntmps9
  go_wp2_with fail
  refine (cP.out _).mono ?_
  rintro e w1 ⟨A, c, rfl, hP, b1⟩
  have HP := Lib.hid hP
  have B1 := Lib.hid (show Below (four w H R).heap.size (four w H R) w1 from b1)
  clear b1 cP hP
  go_wp2_with fail
  refine (cC.out A c _ HP.out).mono ?_
  rintro e w2 ⟨rfl, b2⟩
  have K0 := Lib.hid (rstep_begin (F := F) (V := ⟨vi, vn, n⟩) B1.out b2)
  clear b2 B1 cC HP
  go_wp2
  go_loopw [13] (fun v wr => ∃ k : Nat, v = .int .i64 k ∧ k ≤ 3 ∧ RStepAt w H F R ⟨vi, vn, n⟩ w2.heap.size (w2.heap.size + 1) k wr) (fun v _ => 3 - (intOf v).toNat)
  case atStart => exact ⟨0, rfl, by omega, K0.out⟩
  case round =>
    rename_i wr
    obtain ⟨k, rfl, hk, A⟩ := hrel
    have HA := Lib.hid A
    clear A K0
    by_cases hk3 : k < 3
    · have k0 : (0 : Int) ≤ (k : Int) := Int.natCast_nonneg _
      have k3 : (k : Int) < 3 := by omega
      have r0 := blk_cell HA.out.hr (o := k * 2) (v := .bool (R k).i) (rs_i R k hk3)
      have r1 := blk_cell HA.out.hr (o := k * 2 + 1) (v := .int .i64 (R k).v) (rs_v R k hk3)
      have v0 := blk_cell HA.out.hv (o := 0) (v := .bool vi) rfl
      have v1 := blk_cell HA.out.hv (o := 1) (v := .int .i64 vn) rfl
      have a0 := blk_cell HA.out.hh (o := k * 3) (v := .int .i64 (H k).b) (hs_b H k hk3)
      have a1 := blk_cell HA.out.hh (o := k * 3 + 1) (v := .bool (H k).o) (hs_o H k hk3)
      have a2 := blk_cell HA.out.hh (o := k * 3 + 2) (v := .int .i64 (H k).g) (hs_g H k hk3)
      by_cases h3 : (n : Int) < 3
      · cases vi
        · cases hr : (R k).i
          · skip
            have HB : Hid (bd (R k) (pres H R k).i ⟨false, vn, n⟩ d = true) := bd_said hr _ _ _
            rw [hr] at r0
            have HG := Lib.hid hr
            clear hr
            go_wp2_with fail
            go_quiet (fail)
            have H1 := Lib.hid (rstep_below HA.out (below_drewN (Below.refl _ _) nq))
            go_wp2_with fail
            refine (rNextC (H k) _ q _).mono ?_
            rintro e w6 ⟨rfl, b6⟩
            have HY : Hid (F k = next (H k) (true) q) := Lib.hid ((HF.out k).trans (by rw [HB.out]))
            have H6 := Lib.hid (rstep_below H1.out b6)
            clear b6 a0 a1 a2 r0 r1 v0 v1
            have o0 := blk_cell H6.out.ho (o := k * 3) (hs_b _ k hk3)
            have o1 := blk_cell H6.out.ho (o := k * 3 + 1) (hs_o _ k hk3)
            have o2 := blk_cell H6.out.ho (o := k * 3 + 2) (hs_g _ k hk3)
            have f0 := blk_free H6.out.ho (k * 3)
            have f1 := blk_free H6.out.ho (k * 3 + 1)
            have f2 := blk_free H6.out.ho (k * 3 + 2)
            generalize next (H k) (true) q = s at *
            go_wp2
            go_roundw
            case rel => exact ⟨k + 1, by go_num, by omega, rstep_put H6.out HY.out hk3⟩
            case measure => simp [intOf]; omega
          · skip
            have HB : Hid (bd (R k) (pres H R k).i ⟨false, vn, n⟩ d = true) := bd_none rfl _ _ _
            rw [hr] at r0
            have HG := Lib.hid hr
            clear hr
            go_wp2_with fail
            go_quiet (fail)
            have H1 := Lib.hid (rstep_below HA.out (below_drewN (Below.refl _ _) nq))
            go_wp2_with fail
            refine (rNextC (H k) _ q _).mono ?_
            rintro e w6 ⟨rfl, b6⟩
            have HY : Hid (F k = next (H k) (true) q) := Lib.hid ((HF.out k).trans (by rw [HB.out]))
            have H6 := Lib.hid (rstep_below H1.out b6)
            clear b6 a0 a1 a2 r0 r1 v0 v1
            have o0 := blk_cell H6.out.ho (o := k * 3) (hs_b _ k hk3)
            have o1 := blk_cell H6.out.ho (o := k * 3 + 1) (hs_o _ k hk3)
            have o2 := blk_cell H6.out.ho (o := k * 3 + 2) (hs_g _ k hk3)
            have f0 := blk_free H6.out.ho (k * 3)
            have f1 := blk_free H6.out.ho (k * 3 + 1)
            have f2 := blk_free H6.out.ho (k * 3 + 2)
            generalize next (H k) (true) q = s at *
            go_wp2
            go_roundw
            case rel => exact ⟨k + 1, by go_num, by omega, rstep_put H6.out HY.out hk3⟩
            case measure => simp [intOf]; omega
        · cases hr : (R k).i
          · skip
            have HB : Hid (bd (R k) (pres H R k).i ⟨true, vn, n⟩ d = true) := bd_said hr _ _ _
            rw [hr] at r0
            have HG := Lib.hid hr
            clear hr
            go_wp2_with fail
            go_quiet (fail)
            have H1 := Lib.hid (rstep_below HA.out (below_drewN (Below.refl _ _) nq))
            go_wp2_with fail
            refine (rNextC (H k) _ q _).mono ?_
            rintro e w6 ⟨rfl, b6⟩
            have HY : Hid (F k = next (H k) (true) q) := Lib.hid ((HF.out k).trans (by rw [HB.out]))
            have H6 := Lib.hid (rstep_below H1.out b6)
            clear b6 a0 a1 a2 r0 r1 v0 v1
            have o0 := blk_cell H6.out.ho (o := k * 3) (hs_b _ k hk3)
            have o1 := blk_cell H6.out.ho (o := k * 3 + 1) (hs_o _ k hk3)
            have o2 := blk_cell H6.out.ho (o := k * 3 + 2) (hs_g _ k hk3)
            have f0 := blk_free H6.out.ho (k * 3)
            have f1 := blk_free H6.out.ho (k * 3 + 1)
            have f2 := blk_free H6.out.ho (k * 3 + 2)
            generalize next (H k) (true) q = s at *
            go_wp2
            go_roundw
            case rel => exact ⟨k + 1, by go_num, by omega, rstep_put H6.out HY.out hk3⟩
            case measure => simp [intOf]; omega
          · cases hm : may (H k)
            · skip
              have HB : Hid (bd (R k) (pres H R k).i ⟨true, vn, n⟩ d = far (R k).v vn d) := by rw [pres_gone (.inr hm)]; exact bd_out hr rfl _
              rw [hr] at r0
              have HM := Lib.hid hm
              clear hm
              have HG := Lib.hid hr
              clear hr
              go_wp2_with fail
              go_quiet ((go_at_call 23; exact Calls.quiet_of_same ((rFar _ _ _ _ (HR.out k) HV.out HD.out).mono fun _ _ h => ⟨h.1, h.2.symm⟩)))
              have H1 := Lib.hid (rstep_below HA.out (below_drewN (Below.refl _ _) nq))
              go_wp2_with fail
              refine (rMay (H k) _).mono ?_
              rintro e w5 ⟨rfl, b5⟩
              rw [HM.out]
              have H5 := Lib.hid (rstep_below H1.out b5)
              clear b5 a0 a1 a2 r0 r1 v0 v1
              have a0 := blk_cell H5.out.hh (o := k * 3) (v := .int .i64 (H k).b) (hs_b H k hk3)
              have a1 := blk_cell H5.out.hh (o := k * 3 + 1) (v := .bool (H k).o) (hs_o H k hk3)
              have a2 := blk_cell H5.out.hh (o := k * 3 + 2) (v := .int .i64 (H k).g) (hs_g H k hk3)
              go_wp2_with fail
              refine (rNextC (H k) _ q _).mono ?_
              rintro e w6 ⟨rfl, b6⟩
              have HY : Hid (F k = next (H k) (far (R k).v vn d) q) := Lib.hid ((HF.out k).trans (by rw [HB.out]))
              have H6 := Lib.hid (rstep_below H5.out b6)
              clear b6 a0 a1 a2
              have o0 := blk_cell H6.out.ho (o := k * 3) (hs_b _ k hk3)
              have o1 := blk_cell H6.out.ho (o := k * 3 + 1) (hs_o _ k hk3)
              have o2 := blk_cell H6.out.ho (o := k * 3 + 2) (hs_g _ k hk3)
              have f0 := blk_free H6.out.ho (k * 3)
              have f1 := blk_free H6.out.ho (k * 3 + 1)
              have f2 := blk_free H6.out.ho (k * 3 + 2)
              generalize next (H k) (far (R k).v vn d) q = s at *
              go_wp2
              go_roundw
              case rel => exact ⟨k + 1, by go_num, by omega, rstep_put H6.out HY.out hk3⟩
              case measure => simp [intOf]; omega
            · cases ho : (H k).o
              · skip
                have HB : Hid (bd (R k) (pres H R k).i ⟨true, vn, n⟩ d = false) := by rw [(pres_said ho hm hr).1]; exact bd_few hr rfl (by show (n : Int) < 3; omega) _
                rw [hr] at r0
                have HM := Lib.hid hm
                clear hm
                have HO := Lib.hid ho
                clear ho
                have HG := Lib.hid hr
                clear hr
                go_wp2_with fail
                go_quiet ((go_at_call 23; exact Calls.quiet_of_same ((rFar _ _ _ _ (HR.out k) HV.out HD.out).mono fun _ _ h => ⟨h.1, h.2.symm⟩)))
                have H1 := Lib.hid (rstep_below HA.out (below_drewN (Below.refl _ _) nq))
                go_wp2_with fail
                refine (rMay (H k) _).mono ?_
                rintro e w5 ⟨rfl, b5⟩
                rw [HM.out]
                have H5 := Lib.hid (rstep_below H1.out b5)
                clear b5 a0 a1 a2 r0 r1 v0 v1
                have a0 := blk_cell H5.out.hh (o := k * 3) (v := .int .i64 (H k).b) (hs_b H k hk3)
                have a1 := blk_cell H5.out.hh (o := k * 3 + 1) (v := .bool false) ((hs_o H k hk3).trans (by rw [HO.out]))
                have a2 := blk_cell H5.out.hh (o := k * 3 + 2) (v := .int .i64 (H k).g) (hs_g H k hk3)
                go_wp2_with fail
                refine (rNextC ⟨(H k).b, false, (H k).g⟩ _ q _).mono ?_
                rintro e w6 ⟨rfl, b6⟩
                have HY : Hid (F k = next ⟨(H k).b, false, (H k).g⟩ (false) q) := Lib.hid ((HF.out k).trans (by rw [HB.out, hl_eta HO.out]))
                have H6 := Lib.hid (rstep_below H5.out b6)
                clear b6 a0 a1 a2
                have o0 := blk_cell H6.out.ho (o := k * 3) (hs_b _ k hk3)
                have o1 := blk_cell H6.out.ho (o := k * 3 + 1) (hs_o _ k hk3)
                have o2 := blk_cell H6.out.ho (o := k * 3 + 2) (hs_g _ k hk3)
                have f0 := blk_free H6.out.ho (k * 3)
                have f1 := blk_free H6.out.ho (k * 3 + 1)
                have f2 := blk_free H6.out.ho (k * 3 + 2)
                generalize next ⟨(H k).b, false, (H k).g⟩ (false) q = s at *
                go_wp2
                go_roundw
                case rel => exact ⟨k + 1, by go_num, by omega, rstep_put H6.out HY.out hk3⟩
                case measure => simp [intOf]; omega
              · skip
                have HB : Hid (bd (R k) (pres H R k).i ⟨true, vn, n⟩ d = far (R k).v vn d) := by rw [pres_gone (.inl ho)]; exact bd_out hr rfl _
                rw [hr] at r0
                have HM := Lib.hid hm
                clear hm
                have HO := Lib.hid ho
                clear ho
                have HG := Lib.hid hr
                clear hr
                go_wp2_with fail
                go_quiet ((go_at_call 23; exact Calls.quiet_of_same ((rFar _ _ _ _ (HR.out k) HV.out HD.out).mono fun _ _ h => ⟨h.1, h.2.symm⟩)))
                have H1 := Lib.hid (rstep_below HA.out (below_drewN (Below.refl _ _) nq))
                go_wp2_with fail
                refine (rMay (H k) _).mono ?_
                rintro e w5 ⟨rfl, b5⟩
                rw [HM.out]
                have H5 := Lib.hid (rstep_below H1.out b5)
                clear b5 a0 a1 a2 r0 r1 v0 v1
                have a0 := blk_cell H5.out.hh (o := k * 3) (v := .int .i64 (H k).b) (hs_b H k hk3)
                have a1 := blk_cell H5.out.hh (o := k * 3 + 1) (v := .bool true) ((hs_o H k hk3).trans (by rw [HO.out]))
                have a2 := blk_cell H5.out.hh (o := k * 3 + 2) (v := .int .i64 (H k).g) (hs_g H k hk3)
                go_wp2_with fail
                refine (rNextC ⟨(H k).b, true, (H k).g⟩ _ q _).mono ?_
                rintro e w6 ⟨rfl, b6⟩
                have HY : Hid (F k = next ⟨(H k).b, true, (H k).g⟩ (far (R k).v vn d) q) := Lib.hid ((HF.out k).trans (by rw [HB.out, hl_eta HO.out]))
                have H6 := Lib.hid (rstep_below H5.out b6)
                clear b6 a0 a1 a2
                have o0 := blk_cell H6.out.ho (o := k * 3) (hs_b _ k hk3)
                have o1 := blk_cell H6.out.ho (o := k * 3 + 1) (hs_o _ k hk3)
                have o2 := blk_cell H6.out.ho (o := k * 3 + 2) (hs_g _ k hk3)
                have f0 := blk_free H6.out.ho (k * 3)
                have f1 := blk_free H6.out.ho (k * 3 + 1)
                have f2 := blk_free H6.out.ho (k * 3 + 2)
                generalize next ⟨(H k).b, true, (H k).g⟩ (far (R k).v vn d) q = s at *
                go_wp2
                go_roundw
                case rel => exact ⟨k + 1, by go_num, by omega, rstep_put H6.out HY.out hk3⟩
                case measure => simp [intOf]; omega
      · cases hr : (R k).i
        · cases vi
          · skip
            have HB : Hid (bd (R k) (pres H R k).i ⟨false, vn, n⟩ d = true) := bd_said hr _ _ _
            rw [hr] at r0
            have HG := Lib.hid hr
            clear hr
            go_wp2_with fail
            go_quiet (fail)
            have H1 := Lib.hid (rstep_below HA.out (below_drewN (Below.refl _ _) nq))
            go_wp2_with fail
            refine (rNextC (H k) _ q _).mono ?_
            rintro e w6 ⟨rfl, b6⟩
            have HY : Hid (F k = next (H k) (true) q) := Lib.hid ((HF.out k).trans (by rw [HB.out]))
            have H6 := Lib.hid (rstep_below H1.out b6)
            clear b6 a0 a1 a2 r0 r1 v0 v1
            have o0 := blk_cell H6.out.ho (o := k * 3) (hs_b _ k hk3)
            have o1 := blk_cell H6.out.ho (o := k * 3 + 1) (hs_o _ k hk3)
            have o2 := blk_cell H6.out.ho (o := k * 3 + 2) (hs_g _ k hk3)
            have f0 := blk_free H6.out.ho (k * 3)
            have f1 := blk_free H6.out.ho (k * 3 + 1)
            have f2 := blk_free H6.out.ho (k * 3 + 2)
            generalize next (H k) (true) q = s at *
            go_wp2
            go_roundw
            case rel => exact ⟨k + 1, by go_num, by omega, rstep_put H6.out HY.out hk3⟩
            case measure => simp [intOf]; omega
          · skip
            have HB : Hid (bd (R k) (pres H R k).i ⟨true, vn, n⟩ d = true) := bd_said hr _ _ _
            rw [hr] at r0
            have HG := Lib.hid hr
            clear hr
            go_wp2_with fail
            go_quiet (fail)
            have H1 := Lib.hid (rstep_below HA.out (below_drewN (Below.refl _ _) nq))
            go_wp2_with fail
            refine (rNextC (H k) _ q _).mono ?_
            rintro e w6 ⟨rfl, b6⟩
            have HY : Hid (F k = next (H k) (true) q) := Lib.hid ((HF.out k).trans (by rw [HB.out]))
            have H6 := Lib.hid (rstep_below H1.out b6)
            clear b6 a0 a1 a2 r0 r1 v0 v1
            have o0 := blk_cell H6.out.ho (o := k * 3) (hs_b _ k hk3)
            have o1 := blk_cell H6.out.ho (o := k * 3 + 1) (hs_o _ k hk3)
            have o2 := blk_cell H6.out.ho (o := k * 3 + 2) (hs_g _ k hk3)
            have f0 := blk_free H6.out.ho (k * 3)
            have f1 := blk_free H6.out.ho (k * 3 + 1)
            have f2 := blk_free H6.out.ho (k * 3 + 2)
            generalize next (H k) (true) q = s at *
            go_wp2
            go_roundw
            case rel => exact ⟨k + 1, by go_num, by omega, rstep_put H6.out HY.out hk3⟩
            case measure => simp [intOf]; omega
        · cases vi
          · skip
            have HB : Hid (bd (R k) (pres H R k).i ⟨false, vn, n⟩ d = true) := bd_none rfl _ _ _
            rw [hr] at r0
            have HG := Lib.hid hr
            clear hr
            go_wp2_with fail
            go_quiet (fail)
            have H1 := Lib.hid (rstep_below HA.out (below_drewN (Below.refl _ _) nq))
            go_wp2_with fail
            refine (rNextC (H k) _ q _).mono ?_
            rintro e w6 ⟨rfl, b6⟩
            have HY : Hid (F k = next (H k) (true) q) := Lib.hid ((HF.out k).trans (by rw [HB.out]))
            have H6 := Lib.hid (rstep_below H1.out b6)
            clear b6 a0 a1 a2 r0 r1 v0 v1
            have o0 := blk_cell H6.out.ho (o := k * 3) (hs_b _ k hk3)
            have o1 := blk_cell H6.out.ho (o := k * 3 + 1) (hs_o _ k hk3)
            have o2 := blk_cell H6.out.ho (o := k * 3 + 2) (hs_g _ k hk3)
            have f0 := blk_free H6.out.ho (k * 3)
            have f1 := blk_free H6.out.ho (k * 3 + 1)
            have f2 := blk_free H6.out.ho (k * 3 + 2)
            generalize next (H k) (true) q = s at *
            go_wp2
            go_roundw
            case rel => exact ⟨k + 1, by go_num, by omega, rstep_put H6.out HY.out hk3⟩
            case measure => simp [intOf]; omega
          · skip
            have HB : Hid (bd (R k) (pres H R k).i ⟨true, vn, n⟩ d = far (R k).v vn d) := bd_all hr rfl (by show ¬ (n : Int) < 3; omega) _ _
            rw [hr] at r0
            have HG := Lib.hid hr
            clear hr
            go_wp2_with fail
            go_quiet ((go_at_call 23; exact Calls.quiet_of_same ((rFar _ _ _ _ (HR.out k) HV.out HD.out).mono fun _ _ h => ⟨h.1, h.2.symm⟩)))
            have H1 := Lib.hid (rstep_below HA.out (below_drewN (Below.refl _ _) nq))
            go_wp2_with fail
            refine (rNextC (H k) _ q _).mono ?_
            rintro e w6 ⟨rfl, b6⟩
            have HY : Hid (F k = next (H k) (far (R k).v vn d) q) := Lib.hid ((HF.out k).trans (by rw [HB.out]))
            have H6 := Lib.hid (rstep_below H1.out b6)
            clear b6 a0 a1 a2 r0 r1 v0 v1
            have o0 := blk_cell H6.out.ho (o := k * 3) (hs_b _ k hk3)
            have o1 := blk_cell H6.out.ho (o := k * 3 + 1) (hs_o _ k hk3)
            have o2 := blk_cell H6.out.ho (o := k * 3 + 2) (hs_g _ k hk3)
            have f0 := blk_free H6.out.ho (k * 3)
            have f1 := blk_free H6.out.ho (k * 3 + 1)
            have f2 := blk_free H6.out.ho (k * 3 + 2)
            generalize next (H k) (far (R k).v vn d) q = s at *
            go_wp2
            go_roundw
            case rel => exact ⟨k + 1, by go_num, by omega, rstep_put H6.out HY.out hk3⟩
            case measure => simp [intOf]; omega
    · obtain rfl : k = 3 := by omega
      have e3 : ((3 : Nat) : Int) = 3 := rfl
      have E := Lib.hid (rstep_end HA.out)
      go_upto_region 11 with (fail)
      refine wp_region_any (by kernel_rfl) ?_
      change wpAny _ _ _ _ _ _ _ (World.drew _)
      refine wpAny_ready (rs := [0, 1]) (by kernel_rfl) (by simp) ?_
      refine AllReady.cons rfl (fun K hK => ?_) (AllReady.cons rfl (fun K hK => ?_) AllReady.nil)
      · skip
        refine wp_load_row 24 (.tmp 12) rfl (w2.heap.size + 1) rfl 24 (hsA F) (0, 0) _ E.out.ha Try.underlying24 rfl infoHs ?_
        refine hK _ _ ?_
        clear hK K
        refine wpAny_ready (rs := [1, 2]) (by kernel_rfl) (by simp) ?_
        refine AllReady.cons rfl (fun K hK => ?_) (AllReady.cons rfl (fun K hK => ?_) AllReady.nil)
        · skip
          refine wp_load_row 29 (.tmp 11) rfl w2.heap.size rfl 29 (vc ⟨vi, vn, n⟩) (0, 0) _ E.out.hb Try.underlying29 rfl infoV ?_
          refine hK _ _ ?_
          clear hK K
          refine wpAny_ready (rs := [2]) (by kernel_rfl) (by simp) ?_
          refine AllReady.cons rfl (fun K hK => ?_) AllReady.nil
          refine wp_store_row 24 (.tmp 8) (.tmp 79) rfl (w.heap.size + 1 + 1) (hsA F) rfl rfl 24 _ E.out.hc infoHs rfl (by kernel_rfl) ?_
          have E1 := Lib.hid (end_c E.out)
          refine hK _ _ ?_
          clear hK K
          refine wpAny_ready (rs := [3]) (by kernel_rfl) (by simp) ?_
          refine AllReady.cons rfl (fun K hK => ?_) AllReady.nil
          refine wp_store_row 29 (.tmp 9) (.tmp 80) rfl (w.heap.size + 1 + 1 + 1) (vc ⟨vi, vn, n⟩) rfl rfl 29 _ E1.out.hd infoV rfl (by kernel_rfl) ?_
          have E2 := Lib.hid (end_d E1.out)
          refine hK _ _ ?_
          clear hK K
          refine wpAny_done (by kernel_rfl) ?_ _
          go_wp2
          refine bodyPost_ret (v := .tuple #[.agg (hsA F), vv ⟨vi, vn, n⟩]) ?_ rfl ⟨rfl, E2.out.below⟩
          exact ret_rows Try.results9 _ _ (w.heap.size + 1 + 1) (w.heap.size + 1 + 1 + 1) (hsA F) (vc ⟨vi, vn, n⟩) rfl rfl (row_hs E2.out.hc) (row_vt E2.out.hd)
        · skip
          refine wp_store_row 24 (.tmp 8) (.tmp 79) rfl (w.heap.size + 1 + 1) (hsA F) rfl rfl 24 _ E.out.hc infoHs rfl (by kernel_rfl) ?_
          have E3 := Lib.hid (end_c E.out)
          refine hK _ _ ?_
          clear hK K
          refine wpAny_ready (rs := [1]) (by kernel_rfl) (by simp) ?_
          refine AllReady.cons rfl (fun K hK => ?_) AllReady.nil
          refine wp_load_row 29 (.tmp 11) rfl w2.heap.size rfl 29 (vc ⟨vi, vn, n⟩) (0, 0) _ E3.out.hb Try.underlying29 rfl infoV ?_
          refine hK _ _ ?_
          clear hK K
          refine wpAny_ready (rs := [3]) (by kernel_rfl) (by simp) ?_
          refine AllReady.cons rfl (fun K hK => ?_) AllReady.nil
          refine wp_store_row 29 (.tmp 9) (.tmp 80) rfl (w.heap.size + 1 + 1 + 1) (vc ⟨vi, vn, n⟩) rfl rfl 29 _ E3.out.hd infoV rfl (by kernel_rfl) ?_
          have E4 := Lib.hid (end_d E3.out)
          refine hK _ _ ?_
          clear hK K
          refine wpAny_done (by kernel_rfl) ?_ _
          go_wp2
          refine bodyPost_ret (v := .tuple #[.agg (hsA F), vv ⟨vi, vn, n⟩]) ?_ rfl ⟨rfl, E4.out.below⟩
          exact ret_rows Try.results9 _ _ (w.heap.size + 1 + 1) (w.heap.size + 1 + 1 + 1) (hsA F) (vc ⟨vi, vn, n⟩) rfl rfl (row_hs E4.out.hc) (row_vt E4.out.hd)
      · skip
        refine wp_load_row 29 (.tmp 11) rfl w2.heap.size rfl 29 (vc ⟨vi, vn, n⟩) (0, 0) _ E.out.hb Try.underlying29 rfl infoV ?_
        refine hK _ _ ?_
        clear hK K
        refine wpAny_ready (rs := [0]) (by kernel_rfl) (by simp) ?_
        refine AllReady.cons rfl (fun K hK => ?_) AllReady.nil
        refine wp_load_row 24 (.tmp 12) rfl (w2.heap.size + 1) rfl 24 (hsA F) (0, 0) _ E.out.ha Try.underlying24 rfl infoHs ?_
        refine hK _ _ ?_
        clear hK K
        refine wpAny_ready (rs := [2]) (by kernel_rfl) (by simp) ?_
        refine AllReady.cons rfl (fun K hK => ?_) AllReady.nil
        refine wp_store_row 24 (.tmp 8) (.tmp 79) rfl (w.heap.size + 1 + 1) (hsA F) rfl rfl 24 _ E.out.hc infoHs rfl (by kernel_rfl) ?_
        have E5 := Lib.hid (end_c E.out)
        refine hK _ _ ?_
        clear hK K
        refine wpAny_ready (rs := [3]) (by kernel_rfl) (by simp) ?_
        refine AllReady.cons rfl (fun K hK => ?_) AllReady.nil
        refine wp_store_row 29 (.tmp 9) (.tmp 80) rfl (w.heap.size + 1 + 1 + 1) (vc ⟨vi, vn, n⟩) rfl rfl 29 _ E5.out.hd infoV rfl (by kernel_rfl) ?_
        have E6 := Lib.hid (end_d E5.out)
        refine hK _ _ ?_
        clear hK K
        refine wpAny_done (by kernel_rfl) ?_ _
        go_wp2
        refine bodyPost_ret (v := .tuple #[.agg (hsA F), vv ⟨vi, vn, n⟩]) ?_ rfl ⟨rfl, E6.out.below⟩
        exact ret_rows Try.results9 _ _ (w.heap.size + 1 + 1) (w.heap.size + 1 + 1 + 1) (hsA F) (vc ⟨vi, vn, n⟩) rfl rfl (row_hs E6.out.hc) (row_vt E6.out.hd)

end Go.Proofs.Ytafifglfbebhaaa.Vote
