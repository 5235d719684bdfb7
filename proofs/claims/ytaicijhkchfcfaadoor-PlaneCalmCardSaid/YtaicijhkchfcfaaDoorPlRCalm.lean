/- Contract of the document's Calm: each number brought within its bounds. Conditions: the numbers are int64 numbers. -/
import Derived.Test.YtaicijhkchfcfaaDoorPlCalm
namespace Go.Proofs.YtaicijhkchfcfaaDoor.Pl
open Go.ChangeShapes Go.WideShapes Go.ChangeAt Go.RowKit Num Mem

theorem rclampW {q : Nat → Int} (n : Nat) {k : Nat} (hk : k < 3) (h : In (q (4 + n * 3 + k))) (V : World) : Calls Tryd.prog 27 #[.int .i64 (q (4 + n * 3 + k)), .int .i64 (mst n)] V fun e w' => e = .returned (.int .i64 (calq q (4 + n * 3 + k))) ∧ V = w' := by
  rw [← bdq_w n hk]
  exact rclamp _ _ V h (bdq_In _)
theorem mst_ways (n : Nat) : (mst n = 500 ∧ ((n : Int) == 3) = true) ∨ (mst n = 30 ∧ ((n : Int) == 3) = false) := by
  by_cases h : n = 3
  · subst h; exact .inl ⟨rfl, rfl⟩
  · exact .inr ⟨mst_not h, by simpa using (by omega : ¬ (n : Int) = 3)⟩

section
attribute [local go_sem ↓] ldG_eq stG_eq
set_option maxRecDepth 100000 in
set_option maxHeartbeats 8000000 in
theorem rCalmC (q : Nat → Int) (hq : ∀ j, j < 16 → In (q j)) (w : World) : Calls Tryd.prog 14 #[.agg (gA q)] w fun e w' => e = .returned (.agg (gA (calq q))) ∧ Below w.heap.size w w' := by
  have HQ := Lib.hid hq
  have C0 := Lib.hid (fun V => rclamp (q 0) 20 V (hq 0 (by decide)) ⟨by decide, by decide⟩)
  have C1 := Lib.hid (fun V => rclamp (q 1) 2 V (hq 1 (by decide)) ⟨by decide, by decide⟩)
  have C2 := Lib.hid (fun V => rclamp (q 2) 1 V (hq 2 (by decide)) ⟨by decide, by decide⟩)
  have C3 := Lib.hid (fun V => rclamp (q 3) 50 V (hq 3 (by decide)) ⟨by decide, by decide⟩)
  clear hq
  have K0 := Lib.hid (cm_box w q)
  go_enter Tryd.func14, Tryd.ntmps14
  go_upto_region 1 with (fail)
  generalize World.alloc (World.alloc w _) _ = W at *
  have c0 := cm_cell K0.out (n := 0) (by decide)
  have f0 := cm_free K0.out 0
  go_wp2_with fail
  refine (C0.out _).mono ?_
  rintro e w' ⟨rfl, rfl⟩
  have K1 := Lib.hid (cm_next K0.out (by decide))
  go_upto_region 2 with (fail)
  clear c0 f0 K0
  change Code.wp _ _ _ _ (World.setCell _ _ (.int .i64 (calq q 0)))
  generalize World.setCell _ _ _ = W1 at *
  have c0 := cm_cell K1.out (n := 1) (by decide)
  have f0 := cm_free K1.out 1
  go_wp2_with fail
  refine (C1.out _).mono ?_
  rintro e w' ⟨rfl, rfl⟩
  have K2 := Lib.hid (cm_next K1.out (by decide))
  go_upto_region 3 with (fail)
  clear c0 f0 K1
  change Code.wp _ _ _ _ (World.setCell _ _ (.int .i64 (calq q 1)))
  generalize World.setCell _ _ _ = W2 at *
  have c0 := cm_cell K2.out (n := 2) (by decide)
  have f0 := cm_free K2.out 2
  go_wp2_with fail
  refine (C2.out _).mono ?_
  rintro e w' ⟨rfl, rfl⟩
  have K3 := Lib.hid (cm_next K2.out (by decide))
  go_upto_region 4 with (fail)
  clear c0 f0 K2
  change Code.wp _ _ _ _ (World.setCell _ _ (.int .i64 (calq q 2)))
  generalize World.setCell _ _ _ = W3 at *
  have c0 := cm_cell K3.out (n := 3) (by decide)
  have f0 := cm_free K3.out 3
  go_wp2_with fail
  refine (C3.out _).mono ?_
  rintro e w' ⟨rfl, rfl⟩
  have K4 := Lib.hid (cm_next K3.out (by decide))
  go_upto_region 5 with (fail)
  clear c0 f0 K3
  change Code.wp _ _ _ _ (World.setCell _ _ (.int .i64 (calq q 3)))
  generalize World.setCell _ _ _ = W4 at *
  clear C0 C1 C2 C3
  go_upto_region 6 with (fail)
  go_loopw [3] (fun i wr => ∃ n : Nat, i = .int .i64 n ∧ n ≤ 4 ∧ CmAt w q (4 + n * 3) wr) (fun i _ => 4 - (intOf i).toNat)
  case atStart => exact ⟨0, rfl, by omega, K4.out⟩
  case round =>
    rename_i wr
    obtain ⟨n, rfl, hn, H⟩ := hrel
    have HC := Lib.hid H
    clear H K4
    by_cases hn4 : n < 4
    · have n0 : (0 : Int) ≤ (n : Int) := Int.natCast_nonneg _
      have n4 : (n : Int) < 4 := by omega
      go_upto_region 9 with (fail)
      go_loopw [4] (fun i wr => ∃ k : Nat, i = .int .i64 k ∧ k ≤ 3 ∧ CmAt w q (4 + n * 3 + k) wr) (fun i _ => 3 - (intOf i).toNat)
      case atStart => exact ⟨0, rfl, by omega, HC.out⟩
      case round =>
        obtain ⟨k, rfl, hk, H⟩ := hrel
        have HD := Lib.hid H
        clear H HC
        by_cases hk3 : k < 3
        · have k0 : (0 : Int) ≤ (k : Int) := Int.natCast_nonneg _
          have k3 : (k : Int) < 3 := by omega
          have hk16 : 4 + n * 3 + k < 16 := by omega
          have HN := Lib.hid hk16
          have CC := Lib.hid (rclampW n hk3 (HQ.out _ hk16))
          have c0 := cm_cell HD.out HN.out
          have hm := mst_ways n
          generalize mst n = m at *
          clear hk16
          rcases hm with ⟨rfl, hm⟩ | ⟨rfl, hm⟩
          all_goals
            go_upto_region 14 with (fail)
            go_still_tail 13, (by kernel_rfl)
            still_call ((CC.out _).mono fun _ _ h => ⟨h.1, h.2.symm⟩)
            repeat still_step
            refine wpStill_nil ?_
            change wpList _ _ _ _ _ wr.drew
            have HE := Lib.hid (cm_drew HD.out)
            clear HD c0
            generalize World.drew wr = V at *
            have c0 := cm_cell HE.out HN.out
            have f0 := cm_free HE.out (4 + n * 3 + k)
            go_wp2
            go_roundw
            case rel => exact ⟨k + 1, by go_num, by omega, cm_next HE.out HN.out⟩
            case measure => simp [intOf]; omega
        · obtain rfl : k = 3 := by omega
          have e3 : ((3 : Nat) : Int) = 3 := rfl
          go_wp2
          go_roundw
          case rel => exact ⟨n + 1, by go_num, by omega, cm_as HD.out (by omega)⟩
          case measure => simp [intOf]; omega
    · obtain rfl : n = 4 := by omega
      have HF := Lib.hid (cm_all (cm_as HC.out (by omega)))
      have HG := Lib.hid HC.out.below
      have HR := Lib.hid HC.out.hr
      clear HC
      have l3 := ldG_blk HF.out
      have s3 := stG_blk (us := gA zG) rfl (calq q) HR.out
      go_wp2
      refine bodyPost_ret (v := .agg (gA (calq q))) ?_ rfl ⟨rfl, below_row HG.out (Nat.le_succ _) _⟩
      exact retG Tryd.results14 _ _ (w.heap.size + 1) (calq q) rfl (blk_row HR.out _)
end

end Go.Proofs.YtaicijhkchfcfaaDoor.Pl
