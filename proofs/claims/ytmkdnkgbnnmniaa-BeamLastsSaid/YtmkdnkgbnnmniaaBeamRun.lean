/- Contracts of beam's Run and of the document's own. Conditions: the frames are a slice of at most 2^47 of them. -/
import Derived.Test.YtmkdnkgbnnmniaaBeamNext
namespace Go.Proofs.Ytmkdnkgbnnmniaa.Beam
open Go.ChangeShapes Go.WideShapes Go.ChangeAt Go.RowKit Num Mem Band
attribute [local go_sem ↓] ldX_eq stX_eq ldN_eq stN_eq

/-- What Run lays: the counts, its result. -/
structure RnAt (w0 : World) (M R : Nat → Int) (w : World) : Prop where
  below : Below w0.heap.size w0 w
  hn : Blk w w0.heap.size (n2 M) 22
  hr : Blk w (w0.heap.size + 1) (n2 R) 22
theorem rn_box (w : World) (N : Nat → Int) : RnAt w N (fun _ => 0) ((w.alloc (.cells (n2 N) 22)).alloc (.cells (n2 (fun _ => 0)) 22)) :=
  ⟨below_new (allocs w _) _, blk_kept (blk_alloc w _ _) (allocs _ _), blk_alloc2 w _ _ _⟩
section
variable {w0 w w1 : World} {N M R : Nat → Int}
theorem rn_call (h : RnAt w0 M R w) (b : Below w.heap.size w w1) : RnAt w0 M R w1 := ⟨bthen h.below b, blk_kept h.hn b, blk_kept h.hr b⟩
theorem rn_drew (h : RnAt w0 M R w) : RnAt w0 M R w.drew := ⟨below_drewN h.below 1, h.hn, h.hr⟩
theorem rn_set (h : RnAt w0 M R w) (N : Nat → Int) : RnAt w0 N R (w.setRow w0.heap.size (n2 N)) :=
  ⟨below_row h.below (Nat.le_refl _) _, blk_row h.hn _, blk_row_far h.hr (by omega) _⟩
theorem rn_one (h : RnAt w0 M R w) (o : Obj) (cs : Array Value) : RnAt w0 M R ((w.alloc o).setRow w.heap.size cs) :=
  rn_call h (below_row (allocs w o) (Nat.le_refl _) cs)
end

set_option maxHeartbeats 4000000 in
theorem runC (N : Nat → Int) (A : Option Addr) (n c : Nat) (F : Nat → Nat → Vt) (w : World) (hm : Frs w w.heap.size A n F) (hn : n ≤ 140737488355328) :
    Calls Try.prog 9 #[.agg (n2 N), .slice A n c] w fun e w' => e = .returned (.agg (n2 (run N F n))) ∧ Below w.heap.size w w' := by
  have K0 := Lib.hid (rn_box w N)
  have HM := Lib.hid hm
  have n0 : (0 : Int) ≤ (n : Int) := Int.natCast_nonneg _
  have n1 : (n : Int) ≤ 140737488355328 := by omega
  clear hm
  go_enter Try.func9, Try.ntmps9
  go_upto_region 1 with (fail)
  generalize World.alloc _ _ = W at *
  go_wp2_with fail
  go_loopw [9] (fun v wr => ∃ i : Nat, v = .int .i64 i ∧ i ≤ n ∧ RnAt w (run N F i) (fun _ => 0) wr) (fun v _ => n - (intOf v).toNat)
  case atStart => exact ⟨0, rfl, by omega, K0.out⟩
  case round =>
    rename_i wr
    obtain ⟨i, rfl, hi, H⟩ := hrel
    have HA := Lib.hid H
    clear H K0
    by_cases hin : i < n
    · have i0 : (0 : Int) ≤ (i : Int) := Int.natCast_nonneg _
      have i1 : (i : Int) < (n : Int) := by omega
      obtain ⟨b, off, rfl, hlt, hr⟩ := (HM.out.next HA.out.below) (by omega)
      have q0 := ldX_part (hr i hin)
      have s0 := stX_blk (F i) (blk_alloc wr (v12 zX) 25)
      have HB := Lib.hid (rn_one HA.out (.cells (v12 zX) 25) (v12 (F i)))
      have KX := Lib.hid (blk_row (blk_alloc wr (v12 zX) 25) (v12 (F i)))
      clear hr HA
      go_upto_region 4 with (fail)
      clear q0 s0
      generalize World.setRow _ _ _ = V at *
      have q1 := ldN_blk HB.out.hn
      have q2 := ldX_blk KX.out
      go_wp2_with fail
      refine (nextC (run N F i) (F i) _).mono ?_
      rintro e w1 ⟨rfl, bb⟩
      have HC := Lib.hid (rn_call HB.out bb)
      clear bb HB KX q1 q2
      have s1 := stN_blk (next (run N F i) (F i)) HC.out.hn
      go_wp2
      go_roundw
      case rel => exact ⟨i + 1, by go_num, by omega, rn_set HC.out _⟩
      case measure => simp [intOf]; omega
    · obtain rfl : i = n := by omega
      have q1 := ldN_blk HA.out.hn
      have s1 := stN_blk (run N F i) HA.out.hr
      go_wp2
      refine bodyPost_ret (v := .agg (n2 (run N F i))) ?_ rfl ⟨rfl, below_row HA.out.below (by omega) _⟩
      exact ret_n2 Try.results9 _ _ (w.heap.size + 1) (run N F i) rfl (blk_row HA.out.hr _)

set_option maxHeartbeats 4000000 in
theorem rRunC (N : Nat → Int) (A : Option Addr) (n c : Nat) (F : Nat → Nat → Vt) (w : World) (hm : Frs w w.heap.size A n F) (hn : n ≤ 140737488355328) :
    Calls Try.prog 10 #[.agg (n2 N), .slice A n c] w fun e w' => e = .returned (.agg (n2 (run N F n))) ∧ Below w.heap.size w w' := by
  have K0 := Lib.hid (rn_box w N)
  have HM := Lib.hid hm
  have n0 : (0 : Int) ≤ (n : Int) := Int.natCast_nonneg _
  have n1 : (n : Int) ≤ 140737488355328 := by omega
  clear hm
  go_enter Try.func10, Try.ntmps10
  go_upto_region 1 with (fail)
  generalize World.alloc _ _ = W at *
  go_wp2_with fail
  go_loopw [5] (fun v wr => ∃ i : Nat, v = .int .i64 i ∧ i ≤ n ∧ RnAt w (run N F i) (fun _ => 0) wr) (fun v _ => n - (intOf v).toNat)
  case atStart => exact ⟨0, rfl, by omega, K0.out⟩
  case round =>
    rename_i wr
    obtain ⟨i, rfl, hi, H⟩ := hrel
    have HA := Lib.hid H
    clear H K0
    by_cases hin : i < n
    · have i0 : (0 : Int) ≤ (i : Int) := Int.natCast_nonneg _
      have i1 : (i : Int) < (n : Int) := by omega
      obtain ⟨b, off, rfl, hlt, hr⟩ := HM.out (by omega)
      have HR := Lib.hid hr
      have HL := Lib.hid hlt
      have HI := Lib.hid hin
      clear hr hlt
      go_upto_region 4 with (fail)
      have TA := Lib.hid (rn_drew HA.out)
      clear HA
      have q1 := ldN_blk TA.out.hn
      have q2 := ldX_part (range_below (HR.out i HI.out) TA.out.below HL.out)
      have NC := Lib.hid (fun V => rNextC (run N F i) (F i) V)
      have RS := Lib.hid (show next (run N F i) (F i) = run N F (i + 1) from rfl)
      rw [RS.out] at NC
      generalize run N F (i + 1) = P at *
      go_region_with (go_at_call 6; refine (NC.out _).mono ?_; rintro e v ⟨rfl, bb⟩; replace TA := Lib.hid (rn_call TA.out bb); clear bb q1 q2; have s1 := stN_blk P TA.out.hn)
      all_goals
        go_wp2
        go_roundw
        case rel => exact ⟨i + 1, by go_num, by omega, by rw [← RS.out]; exact rn_set TA.out _⟩
        case measure => simp [intOf]; omega
    · obtain rfl : i = n := by omega
      have q1 := ldN_blk HA.out.hn
      have s1 := stN_blk (run N F i) HA.out.hr
      go_wp2
      refine bodyPost_ret (v := .agg (n2 (run N F i))) ?_ rfl ⟨rfl, below_row HA.out.below (by omega) _⟩
      exact ret_n2 Try.results10 _ _ (w.heap.size + 1) (run N F i) rfl (blk_row HA.out.hr _)

end Go.Proofs.Ytmkdnkgbnnmniaa.Beam
