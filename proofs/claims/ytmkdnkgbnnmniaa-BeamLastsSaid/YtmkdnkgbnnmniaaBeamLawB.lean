/- BeamLasts: it is off the beam just if one of the two was wide in each of the last Persist frames. Conditions: the frames are a slice. -/
import Derived.Test.YtmkdnkgbnnmniaaBeamLives
namespace Go.Proofs.Ytmkdnkgbnnmniaa.Beam
open Go.ChangeShapes Go.WideShapes Go.ChangeAt Go.RowKit Num Mem Band
attribute [local go_sem ↓] ldX_eq ldN_eq stN_eq ldV_eq

/-- What the law lays: the counts. -/
structure LsAt (w0 : World) (M : Nat → Int) (w : World) : Prop where
  below : Below w0.heap.size w0 w
  hn : Blk w w0.heap.size (n2 M) 22
theorem ls_box (w : World) : LsAt w (fun _ => 0) (w.alloc (.cells (n2 (fun _ => 0)) 22)) := ⟨allocs w _, blk_alloc w _ _⟩
section
variable {w0 w w1 : World} {M : Nat → Int}
theorem ls_call (h : LsAt w0 M w) (b : Below w.heap.size w w1) : LsAt w0 M w1 := ⟨bthen h.below b, blk_kept h.hn b⟩
theorem ls_drew (h : LsAt w0 M w) : LsAt w0 M w.drew := ⟨below_drewN h.below 1, h.hn⟩
theorem ls_set (h : LsAt w0 M w) (N : Nat → Int) : LsAt w0 N (w.setRow w0.heap.size (n2 N)) := ⟨below_row h.below (Nat.le_refl _) _, blk_row h.hn _⟩
end

set_option maxRecDepth 100000 in
set_option maxHeartbeats 16000000 in
theorem lastsLaw (A : Option Addr) (n c : Nat) (F : Nat → Nat → Vt) (w : World) (hn : n ≤ 140737488355328) (hP : Frs w w.heap.size A n F) :
    Calls Try.prog 4 #[.slice A n c] w fun e w' => e = .returned (.bool true) ∧ Below w.heap.size w w' := by
  have K0 := Lib.hid (ls_box w)
  have HP := Lib.hid hP
  clear hP
  have n0 : (0 : Int) ≤ (n : Int) := Int.natCast_nonneg _
  have n1 : (n : Int) ≤ 140737488355328 := by omega
  go_enter Try.func4, Try.ntmps4
  go_upto_region 2 with (fail)
  generalize World.alloc _ _ = W at *
  go_wp2_with fail
  go_loopw [4] (fun v wr => ∃ j : Nat, v = .int .i64 j ∧ j ≤ n ∧ j ≤ 200 ∧ LsAt w (run (fun _ => 0) F j) wr) (fun v _ => 200 - (intOf v).toNat)
  case atStart => exact ⟨0, rfl, by omega, by omega, K0.out⟩
  case round =>
    rename_i wr
    obtain ⟨j, rfl, hj, hj2, H⟩ := hrel
    have HA := Lib.hid H
    clear H K0
    have j0 : (0 : Int) ≤ (j : Int) := Int.natCast_nonneg _
    by_cases hjn : j < n
    · by_cases hj200 : j < 200
      · have j1 : (j : Int) < (n : Int) := by omega
        have j2 : (j : Int) < 200 := by omega
        go_upto_region 5 with (fail)
        obtain ⟨b, off, rfl, hlt, hr⟩ := HP.out (by omega)
        have HR := Lib.hid hr
        have HL := Lib.hid hlt
        have HJ := Lib.hid hjn
        clear hr hlt hj
        have TA := Lib.hid (ls_drew HA.out)
        clear HA
        have q1 := ldN_blk TA.out.hn
        have q2 := ldX_part (range_below (HR.out j HJ.out) TA.out.below HL.out)
        have NC := Lib.hid (fun V => nextC (run (fun _ => 0) F j) (F j) V)
        have RS := Lib.hid (show next (run (fun _ => 0) F j) (F j) = run (fun _ => 0) F (j + 1) from rfl)
        have OF := Lib.hid (off_is F j (by omega))
        rw [RS.out] at NC
        clear RS
        have OC := Lib.hid (fun V => offC (run (fun _ => 0) F (j + 1)) V)
        rw [OF.out] at OC
        clear OF
        go_region_with (go_at_call 5; refine (NC.out _).mono ?_; rintro e v ⟨rfl, bb⟩; replace TA := Lib.hid (ls_call TA.out bb); clear bb q1 q2; have s1 := stN_blk (run (fun _ => 0) F (j + 1)) TA.out.hn)
        all_goals
          replace TA := Lib.hid (ls_set TA.out (run (fun _ => 0) F (j + 1)))
          clear s1
          generalize World.setRow _ _ _ = V at *
          go_wp2_with fail
          go_loopw [5, 6] (fun o v ws => ∃ s : Nat, o = .bool (offK F j s) ∧ v = .int .i64 s ∧ s ≤ 2 ∧ LsAt w (run (fun _ => 0) F (j + 1)) ws) (fun _ v _ => 2 - (intOf v).toNat)
          case atStart => exact ⟨0, rfl, rfl, by omega, TA.out⟩
          case round =>
            rename_i ws
            obtain ⟨s, rfl, rfl, hs, H⟩ := hrel
            have TB := Lib.hid H
            clear H TA
            have s0 : (0 : Int) ≤ (s : Int) := Int.natCast_nonneg _
            by_cases hs2 : s < 2
            · have s1 : (s : Int) < 2 := by omega
              obtain ⟨p, hp⟩ : ∃ p, decide ((4 : Int) ≤ (j : Int) + 1) = p := ⟨_, rfl⟩
              have hp0 : Hid (allK F s j 0 = p) := (all_0 F s j).trans ((decide_eq_decide.2 (by omega)).trans hp)
              have hp2 : decide ((3 : Int) ≤ (j : Int)) = p := (decide_eq_decide.2 (by omega)).trans hp
              have HS := Lib.hid hs2
              clear hs hs2
              cases ho : offK F j s
              all_goals
                have HO := Lib.hid ho
                clear ho
                go_wp2_with fail
                clear hp hp2
                go_loopw [7, 8] (fun u v wt => ∃ (k : Nat) (q : Bool), u = .bool q ∧ v = .int .i64 k ∧ k ≤ 4 ∧ Hid (allK F s j k = q) ∧ LsAt w (run (fun _ => 0) F (j + 1)) wt) (fun _ v _ => 4 - (intOf v).toNat)
                case atStart => exact ⟨0, p, rfl, rfl, by omega, hp0, TB.out⟩
                case round =>
                  rename_i wt
                  obtain ⟨k, q, rfl, rfl, hk, HQ, H⟩ := hrel
                  have TC := Lib.hid H
                  clear H TB
                  have k0 : (0 : Int) ≤ (k : Int) := Int.natCast_nonneg _
                  by_cases hk4 : k < 4
                  · have k4 : (k : Int) < 4 := by omega
                    cases q
                    · have HX := Lib.hid (all_no hk HQ.out)
                      go_wp2
                      go_roundw
                      case rel => exact ⟨s + 1, congrArg Value.bool (off_next HO.out HX.out).symm, by go_num, by have := HS.out; omega, TC.out⟩
                      case measure => simp [intOf]; omega
                    · have l3 := all_long HQ.out
                      have HX := Lib.hid (all_next HQ.out)
                      have d0 : (0 : Int) ≤ (j : Int) - (k : Int) := by omega
                      have d1 : (j : Int) - (k : Int) < (n : Int) := by omega
                      have d2 : ((j : Int) - (k : Int)).toNat = j - k := by omega
                      have q1 := ldV_part (part_of (range_below (HR.out (j - k) (by omega)) TC.out.below HL.out) s (by omega))
                      go_wp2_with fail
                      refine (rWideC (F (j - k) s) _).mono ?_
                      rintro e v1 ⟨rfl, bb⟩
                      have TD := Lib.hid (ls_call TC.out bb)
                      clear bb TC q1 d0 d1 d2 HQ
                      generalize wideB (F (j - k) s) = x at *
                      go_wp2
                      go_roundw
                      case rel => exact ⟨k + 1, x, rfl, by go_num, by omega, HX.out, TD.out⟩
                      case measure => simp [intOf]; omega
                  · obtain rfl : k = 4 := by omega
                    have HX := Lib.hid ((all_4 F s j).symm.trans HQ.out)
                    go_wp2
                    go_roundw
                    case rel => exact ⟨s + 1, congrArg Value.bool (off_next HO.out HX.out).symm, by go_num, by have := HS.out; omega, TC.out⟩
                    case measure => simp [intOf]; omega
            · obtain rfl : s = 2 := by omega
              have q1 := ldN_blk TB.out.hn
              go_wp2_with fail
              refine (OC.out _).mono ?_
              rintro e v1 ⟨rfl, bb⟩
              have TD := Lib.hid (ls_call TB.out bb)
              clear bb TB q1
              generalize offK F j 2 = o at *
              go_wp2
              go_roundw
              case rel => exact ⟨j + 1, by go_num, by omega, by omega, TD.out⟩
              case measure => simp [intOf]; omega
      · obtain rfl : j = 200 := by omega
        have j3 : (200 : Int) < (n : Int) := by omega
        go_wp2_with fail
        refine (lives _).mono ?_
        rintro e v1 ⟨rfl, bb⟩
        have TD := Lib.hid (ls_call HA.out bb)
        clear bb HA
        go_wp2
        go_ret
        exact ⟨rfl, TD.out.below⟩
    · obtain rfl : j = n := by omega
      go_wp2_with fail
      refine (lives _).mono ?_
      rintro e v1 ⟨rfl, bb⟩
      have TD := Lib.hid (ls_call HA.out bb)
      clear bb HA
      go_wp2
      go_ret
      exact ⟨rfl, TD.out.below⟩

end Go.Proofs.Ytmkdnkgbnnmniaa.Beam
