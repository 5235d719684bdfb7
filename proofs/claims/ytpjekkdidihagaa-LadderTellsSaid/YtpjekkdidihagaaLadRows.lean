/- Contracts of ladder.Rows and of the document's own: both rows, in memory of their own. Conditions: none. -/
import Derived.Test.YtpjekkdidihagaaLadRow
import Derived.Test.YtpjekkdidihagaaEquipSmall
namespace Go.Proofs.Ytpjekkdidihagaa.Lad
open Go.ChangeShapes Go.WideShapes Go.ChangeAt Go.RowKit Num Pers Vote Equip
open Lanes hiding Blk
attribute [local go_sem ↓] ldR_eq ldS_eq

set_option maxRecDepth 100000 in
set_option maxHeartbeats 4000000 in
theorem rowsC (w : World) : Calls Try.prog 5 #[] w (RowsIs w) := by
  have K0 : Hid (Below w.heap.size w (w.alloc (.cells r18 28)) ∧ Blk (w.alloc (.cells r18 28)) w.heap.size r18 28) := ⟨allocs _ _, blk_alloc _ _ _⟩
  go_enter Try.func5, Try.ntmps5
  go_wp2
  go_ret
  exact ⟨w.heap.size, rfl, Nat.le_refl _, K0.out.2, K0.out.1⟩

/-- An inventory of which the first k signals are n. -/
def fil (n : Int) (k : Nat) (i : Nat) : Int := if i < k then n else 0
theorem fil_set (n : Int) (k : Nat) (a : Nat) : (if a = k then n else fil n k a) = fil n (k + 1) a := by
  unfold fil
  by_cases h : a = k
  · rw [if_pos h, if_pos (by omega)]
  · rw [if_neg h]
    by_cases g : a < k
    · rw [if_pos g, if_pos (by omega)]
    · rw [if_neg g, if_neg (by omega)]
abbrev F3 (k : Nat) : St := ⟨fil 3 k, 3, 2, true, true⟩
abbrev F2 (k : Nat) : St := ⟨fil 2 k, 2, 1, true, false⟩
theorem f3_4 : stA (F3 4) = stA S3 := st_as (S := F3 4) (f := fun _ => 3) fun _ ha => if_pos ha
theorem f2_4 : stA (F2 4) = stA S2 := st_as (S := F2 4) (f := fun _ => 2) fun _ ha => if_pos ha
theorem two_set {w0 w : World} {k : Nat} (h : TwoAt w0 (F3 k) (F2 k) w) (hk : k < 4) : TwoAt w0 (F3 (k + 1)) (F2 (k + 1)) ((w.setCell ⟨w0.heap.size, k, none⟩ (.int .i64 3)).setCell ⟨w0.heap.size + 1, k, none⟩ (.int .i64 2)) :=
  ⟨(h.below.setCell (p := ⟨w0.heap.size, k, none⟩) (Nat.le_refl _) _).setCell (p := ⟨w0.heap.size + 1, k, none⟩) (Nat.le_succ _) _,
   blk_far (by rw [← st_set (F3 k) 3 k hk (fil 3 (k + 1)) fun a _ => fil_set 3 k a]; exact blk_set h.ha _ _) _ _ (by omega),
   by rw [← st_set (F2 k) 2 k hk (fil 2 (k + 1)) fun a _ => fil_set 2 k a]; exact blk_set (blk_far h.hb _ _ (by omega)) _ _⟩

set_option maxRecDepth 100000 in
set_option maxHeartbeats 4000000 in
theorem rRowsC (w : World) : Calls Try.prog 6 #[] w (RowsIs w) := by
  have K0 := Lib.hid (two_box w (F3 0) (F2 0))
  go_enter Try.func6, Try.ntmps6
  go_upto_region 3 with (fail)
  generalize hW : World.alloc (World.alloc w _) _ = W
  have K1 : Hid (TwoAt w (F3 0) (F2 0) W) := by rw [← hW]; exact K0.out
  clear hW K0
  go_wp2_with fail
  go_loopw [3] (fun i wr => ∃ k : Nat, i = .int .i64 k ∧ k ≤ 4 ∧ TwoAt w (F3 k) (F2 k) wr) (fun i _ => 4 - (intOf i).toNat)
  case atStart => exact ⟨0, rfl, by omega, K1.out⟩
  case round =>
    rename_i wr
    obtain ⟨k, rfl, hk, T⟩ := hrel
    have HA := Lib.hid T
    clear T K1
    by_cases hk4 : k < 4
    · have k0 : (0 : Int) ≤ (k : Int) := Int.natCast_nonneg _
      have k4 : (k : Int) < 4 := by omega
      have c0 := blk_cell HA.out.ha (st_at (F3 k) k hk4)
      have c1 := blk_cell HA.out.hb (st_at (F2 k) k hk4)
      have f0 := blk_free HA.out.ha k
      have f1 := blk_free HA.out.hb k
      have HB := Lib.hid (two_set HA.out hk4)
      go_wp2
      go_roundw
      case rel => exact ⟨k + 1, by go_num, by omega, HB.out⟩
      case measure => simp [intOf]; omega
    · obtain rfl : k = 4 := by omega
      have e4 : ((4 : Nat) : Int) = 4 := rfl
      have hA : Blk wr w.heap.size (stA S3) 24 := by rw [← f3_4]; exact HA.out.ha
      have hB : Blk wr (w.heap.size + 1) (stA S2) 24 := by rw [← f2_4]; exact HA.out.hb
      have q0 := ldS_blk hA
      have q1 := ldS_blk hB
      have KB : Hid (Below w.heap.size w (wr.alloc (.cells r18 28)) ∧ Blk (wr.alloc (.cells r18 28)) wr.heap.size r18 28 ∧ w.heap.size ≤ wr.heap.size) := ⟨below_new HA.out.below _, blk_alloc _ _ _, HA.out.below.size⟩
      clear hA hB HA
      go_wp2
      go_ret
      exact ⟨wr.heap.size, rfl, KB.out.2.2, KB.out.2.1, KB.out.1⟩

end Go.Proofs.Ytpjekkdidihagaa.Lad
