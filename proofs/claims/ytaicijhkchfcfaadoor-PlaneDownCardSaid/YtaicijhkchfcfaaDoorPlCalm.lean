/- Contracts of plane's Calm and of the document's: each number brought within its bounds. Conditions: the tables of bounds lie there; the numbers are int64 numbers. -/
import Derived.Test.YtaicijhkchfcfaaDoorPlRow
import Derived.Test.YtaicijhkchfcfaaDoorNum
namespace Go.Proofs.YtaicijhkchfcfaaDoor.Pl
open Go.ChangeShapes Go.WideShapes Go.ChangeAt Go.RowKit Num Mem

abbrev zG : Nat → Int := fun _ => 0
/-- What is brought within its bounds, so far; where it goes. -/
structure CmAt (w0 : World) (q : Nat → Int) (n : Nat) (w : World) : Prop where
  below : Below w0.heap.size w0 w
  hg : Blk w w0.heap.size (gA (mixN q (calq q) n)) 29
  hr : Blk w (w0.heap.size + 1) (gA zG) 29
theorem cm_box (w : World) (q : Nat → Int) : CmAt w q 0 ((w.alloc (.cells (gA q) 29)).alloc (.cells (gA zG) 29)) :=
  ⟨below_new (allocs w _) _, by rw [mixN_zero]; exact blk_kept (blk_alloc w _ _) (allocs _ _), blk_alloc2 w _ _ _⟩
section
variable {w0 w w1 : World} {q : Nat → Int} {n : Nat}
theorem cm_call (h : CmAt w0 q n w) (b : Below w.heap.size w w1) : CmAt w0 q n w1 := ⟨bthen h.below b, blk_kept h.hg b, blk_kept h.hr b⟩
theorem cm_drew (h : CmAt w0 q n w) : CmAt w0 q n w.drew := ⟨below_drewN h.below 1, h.hg, h.hr⟩
theorem cm_row (h : CmAt w0 q n w) {g : Nat} (hg : w0.heap.size + 2 ≤ g) (cs : Array Value) : CmAt w0 q n (w.setRow g cs) :=
  ⟨below_row h.below (by omega) _, blk_row_far h.hg (by omega) _, blk_row_far h.hr (by omega) _⟩
theorem cm_size (h : CmAt w0 q n w) : w0.heap.size + 2 ≤ w.heap.size := blk_lt h.hr
theorem cm_next (h : CmAt w0 q n w) (hn : n < 16) : CmAt w0 q (n + 1) (w.setCell ⟨w0.heap.size, n, none⟩ (.int .i64 (calq q n))) :=
  ⟨h.below.setCell (Nat.le_refl _) _, blk_eq (by rw [gA_set _ _ n hn, mixN_next]) (blk_set h.hg n _), blk_far h.hr n _ (by omega)⟩
theorem cm_as (h : CmAt w0 q n w) {m : Nat} (e : n = m) : CmAt w0 q m w := e ▸ h
theorem cm_cell (h : CmAt w0 q n w) (hn : n < 16) : w.cell? ⟨w0.heap.size, n, none⟩ = some (.int .i64 (q n)) := by
  have e := blk_cell h.hg (gA_at _ n hn)
  rwa [mixN_at] at e
theorem cm_free (h : CmAt w0 q n w) (o : Nat) : w.frozen? ⟨w0.heap.size, o, none⟩ = false := blk_free h.hg o
/-- The same, all of them. -/
theorem cm_all (h : CmAt w0 q 16 w) : Blk w w0.heap.size (gA (calq q)) 29 := blk_eq (gA_as (mixN_all _ _)) h.hg
/-- A row of three laid into a block of its own. -/
theorem cm_three (h : CmAt w0 q n w) (c : Nat → Int) : CmAt w0 q n ((w.alloc (.cells (cA zC) 26)).setRow w.heap.size (cA c)) ∧ Blk ((w.alloc (.cells (cA zC) 26)).setRow w.heap.size (cA c)) w.heap.size (cA c) 26 :=
  ⟨cm_row (cm_call h (allocs _ _)) (cm_size h) _, blk_row (blk_alloc _ _ _) _⟩
end

theorem gw_mix (q r : Nat → Int) : gw (mixN q r 4) = gw q := funext fun i => funext fun k => if_neg (by omega)
theorem clampW {q : Nat → Int} (n : Nat) {k : Nat} (hk : k < 3) (h : In (q (4 + n * 3 + k))) (V : World) : Calls Tryd.prog 26 #[.int .i64 (q (4 + n * 3 + k)), .int .i64 (mst n)] V fun e w' => e = .returned (.int .i64 (calq q (4 + n * 3 + k))) ∧ V = w' := by
  rw [← bdq_w n hk]
  exact clampC _ _ V h (bdq_In _)

section
attribute [local go_sem ↓] ldG_eq stG_eq ldW_eq ldT_eq stT_eq ldQ_eq stQ_eq
set_option maxRecDepth 100000 in
set_option maxHeartbeats 8000000 in
theorem calmC (q : Nat → Int) (hq : ∀ j, j < 16 → In (q j)) (w : World) (T : TbAt w) : Calls Tryd.prog 13 #[.agg (gA q)] w fun e w' => e = .returned (.agg (gA (calq q))) ∧ Below w.heap.size w w' := by
  have HT := Lib.hid T
  have HQ := Lib.hid hq
  clear T hq
  have K0 := Lib.hid (cm_box w q)
  go_enter Tryd.func13, Tryd.ntmps13
  go_upto_region 1 with (fail)
  generalize World.alloc (World.alloc w _) _ = W at *
  have hz := cm_size K0.out
  have s1 := stQ_blk (us := zQ) rfl w.heap.size (blk_alloc W zQ _)
  have q1 := ldQ_blk (blk_row (blk_alloc W zQ 54) (pA w.heap.size))
  have K1 := Lib.hid (cm_row (cm_call K0.out (allocs W (.cells zQ 54))) hz (pA w.heap.size))
  go_upto_region 3 with (fail)
  clear s1 q1 hz K0
  generalize World.setRow _ _ _ = W1 at *
  go_loopw [16] (fun i wr => ∃ k : Nat, i = .int .i64 k ∧ k ≤ 4 ∧ CmAt w q k wr) (fun i _ => 4 - (intOf i).toNat)
  case atStart => exact ⟨0, rfl, by omega, K1.out⟩
  case round =>
    rename_i wr
    obtain ⟨k, rfl, hk, H⟩ := hrel
    have HA := Lib.hid H
    clear H K1
    by_cases hk4 : k < 4
    · have k0 : (0 : Int) ≤ (k : Int) := Int.natCast_nonneg _
      have k4 : (k : Int) < 4 := by omega
      have hk16 : k < 16 := by omega
      have HN := Lib.hid hk16
      have ip := fun V => ix_p w.heap.size V k hk4
      have CC := Lib.hid (fun V => clampC (q k) (bdq k) V (HQ.out k hk16) (bdq_In k))
      have c0 := cm_cell HA.out hk16
      have t0 := tb_air (tb_kept HT.out HA.out.below) hk4
      clear hk4 hk16
      go_upto_region 5 with (fail)
      clear ip
      go_still_tail 9, (by kernel_rfl)
      still_call ((CC.out _).mono fun _ _ h => ⟨h.1, h.2.symm⟩)
      repeat still_step
      refine wpStill_nil ?_
      change wpList _ _ _ _ _ wr.drew
      have HB := Lib.hid (cm_drew HA.out)
      clear HA c0 t0
      generalize World.drew wr = V at *
      have c0 := cm_cell HB.out HN.out
      have f0 := cm_free HB.out k
      go_wp2
      go_roundw
      case rel => exact ⟨k + 1, by go_num, by omega, cm_next HB.out HN.out⟩
      case measure => simp [intOf]; omega
    · obtain rfl : k = 4 := by omega
      have HB := Lib.hid HA.out
      clear HA hk4
      have l1 := ldW_part HB.out.hg
      rw [gw_mix] at l1
      have e4 : ((4 : Nat) : Int) = 4 := rfl
      rw [e4]
      clear e4
      go_upto_region 8 with (fail)
      clear l1
      go_loopw [32] (fun i wy => ∃ n : Nat, i = .int .i64 n ∧ n ≤ 4 ∧ CmAt w q (4 + n * 3) wy) (fun i _ => 4 - (intOf i).toNat)
      case atStart => exact ⟨0, rfl, by omega, HB.out⟩
      case round =>
        obtain ⟨n, rfl, hn, H⟩ := hrel
        have HC := Lib.hid H
        clear H HB
        by_cases hn4 : n < 4
        · have n0 : (0 : Int) ≤ (n : Int) := Int.natCast_nonneg _
          have n4 : (n : Int) < 4 := by omega
          have ip := fun V => ix_w (gw q) V n hn4
          have s1 := stT_blk (us := cA zC) rfl (gw q n) (blk_alloc wr _ 26)
          obtain ⟨K2, B2⟩ := cm_three HC.out (gw q n)
          replace K2 := Lib.hid K2
          have l2 := ldT_blk B2
          clear B2
          go_upto_region 11 with (fail)
          clear s1 l2 ip HC
          generalize World.setRow _ _ _ = W2 at *
          go_loopw [37] (fun i wz => ∃ k : Nat, i = .int .i64 k ∧ k ≤ 3 ∧ CmAt w q (4 + n * 3 + k) wz) (fun i _ => 3 - (intOf i).toNat)
          case atStart => exact ⟨0, rfl, by omega, K2.out⟩
          case round =>
            obtain ⟨k, rfl, hk, H⟩ := hrel
            have HD := Lib.hid H
            clear H K2
            by_cases hk3 : k < 3
            · have k0 : (0 : Int) ≤ (k : Int) := Int.natCast_nonneg _
              have k3 : (k : Int) < 3 := by omega
              have hk16 : 4 + n * 3 + k < 16 := by omega
              have HN := Lib.hid hk16
              have ip : ∀ V, (Instr.index 26 (.agg (cA (gw q n))) (.int .i64 (k : Int))).run Tryd.prog V = .ok (.int .i64 (q (4 + n * 3 + k))) V := fun V => ix_3 (gw q n) V k hk3
              have CC := Lib.hid (clampW n hk3 (HQ.out _ hk16))
              have t0 := tb_wrong (tb_kept HT.out HD.out.below) hn4
              clear hk16
              go_upto_region 13 with (fail)
              clear ip
              go_still_tail 10, (by kernel_rfl)
              still_call ((CC.out _).mono fun _ _ h => ⟨h.1, h.2.symm⟩)
              repeat still_step
              refine wpStill_nil ?_
              change wpList _ _ _ _ _ wr.drew
              have HE := Lib.hid (cm_drew HD.out)
              clear HD t0
              generalize World.drew wr = V at *
              have c0 := cm_cell HE.out HN.out
              have f0 := cm_free HE.out (4 + n * 3 + k)
              go_wp2
              go_roundw
              case rel => exact ⟨k + 1, by go_num, by omega, cm_next HE.out HN.out⟩
              case measure => simp [intOf]; omega
            · obtain rfl : k = 3 := by omega
              have e3 : ((3 : Nat) : Int) = 3 := rfl
              go_wp2
              go_roundw
              case rel => exact ⟨n + 1, by go_num, by omega, cm_as HD.out (by omega)⟩
              case measure => simp [intOf]; omega
        · obtain rfl : n = 4 := by omega
          have HF := Lib.hid (cm_all (cm_as HC.out (by omega)))
          have HG := Lib.hid HC.out.below
          have HR := Lib.hid HC.out.hr
          clear HC
          have l3 := ldG_blk HF.out
          have s3 := stG_blk (us := gA zG) rfl (calq q) HR.out
          go_wp2
          refine bodyPost_ret (v := .agg (gA (calq q))) ?_ rfl ⟨rfl, below_row HG.out (Nat.le_succ _) _⟩
          exact retG Tryd.results13 _ _ (w.heap.size + 1) (calq q) rfl (blk_row HR.out _)
end

end Go.Proofs.YtaicijhkchfcfaaDoor.Pl
