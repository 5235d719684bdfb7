/- Contract of check's Run. Conditions: all units are bytes. -/
import Derived.Test.YtkkjmepncceaoaaChkNext
namespace Go.Proofs.Ytkkjmepncceaoaa.Chk
open Go.ChangeShapes Go.WideShapes Go.ChangeAt Go.RowKit Num By

theorem two_kept {w0 w w1 : World} {a b c : Pt} (h : TwoAt w0 a b w) (k : Below w.heap.size w w1) : TwoAt w0 c b (w1.setRow w0.heap.size (ptA c)) := two_put (two_call h k) c
theorem crew0 : (bits .and .u8 0 8 != 0) = false := by decide

attribute [local go_sem ↓] ldP_eq
set_option maxRecDepth 100000 in
set_option maxHeartbeats 2000000 in
/-- Run: P16.1. -/
theorem runC (t : Pt) (A : Option Addr) (n c : Nat) (L : Nat → Int) (w : World) (hn : n ≤ maxLen) (hL : Byte L) (hP : Bys w w.heap.size A n L) :
    Calls Try.prog 11 #[.agg (ptA t), .slice A n c] w fun e w' => e = .returned (.agg (ptA (run t L n))) ∧ Below w.heap.size w w' := by
  unfold maxLen at hn
  have HP := Lib.hid hP
  have HL := Lib.hid hL
  have K0 := Lib.hid (two_box w t z0)
  clear hP hL
  go_enter Try.func11, Try.ntmps11
  go_upto_region 1 with (fail)
  generalize World.alloc (World.alloc w _) _ = W at *
  go_wp2_with fail
  go_loopw [9] (fun i wr => ∃ j : Nat, j ≤ n ∧ i = .int .i64 j ∧ TwoAt w (run t L j) z0 wr) (fun i _ => n - (intOf i).toNat)
  case atStart => exact ⟨0, Nat.zero_le _, rfl, K0.out⟩
  case round =>
    rename_i wr
    obtain ⟨j, hj, rfl, S⟩ := hrel
    have HS := Lib.hid S
    clear S K0
    by_cases hlt : j < n
    · obtain ⟨b, off, rfl, hb, hc0⟩ := HP.out (by omega)
      have hcl := (HS.out.below.cell (p := ⟨b, off + j, none⟩) hb).trans (hc0 j hlt)
      have u0 := (HL.out j).1
      have u1 := (HL.out j).2
      have HE : Hid (run t L (j + 1) = next (run t L j) (L j) false) := show run t L (j + 1) = _ from rfl
      clear hc0
      have q := ldP_blk HS.out.ha
      generalize run t L j = x at *
      generalize L j = u at *
      go_wp2_with fail
      clear q hcl
      refine (nextC x u 0 false u0 u1 crew0 _).mono ?_
      rintro e w1 ⟨rfl, bb⟩
      have KS := Lib.hid (two_call HS.out bb)
      clear bb
      go_wp2_with ((with_reducible refine store_p rfl (.tmp 2) (.tmp 15) rfl w.heap.size (next x u false) x KS.out.ha ?_ ?_ ?_); rfl; rfl)
      go_roundw
      case rel => exact ⟨j + 1, by omega, by go_num, by rw [HE.out]; exact two_put KS.out _⟩
      case measure => simp [intOf]; omega
    · obtain rfl : j = n := by omega
      generalize hE : run t L j = y at *
      have HE := Lib.hid hE
      clear hE
      have q := ldP_blk HS.out.ha
      go_wp2_with ((with_reducible refine store_p rfl (.tmp 4) (.tmp 17) rfl (w.heap.size + 1) y z0 HS.out.hb ?_ ?_ ?_); rfl; rfl)
      refine bodyPost_ret (v := .agg (ptA y)) ?_ rfl ⟨by rw [HE.out], below_row HS.out.below (by omega) _⟩
      exact ret_p Try.results11 _ _ (w.heap.size + 1) y rfl (blk_row HS.out.hb _)

end Go.Proofs.Ytkkjmepncceaoaa.Chk
