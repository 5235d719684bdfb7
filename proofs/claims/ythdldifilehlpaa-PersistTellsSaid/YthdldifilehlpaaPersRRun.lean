/- Contract of the reference's Run. Conditions: none. -/
import Derived.Test.YthdldifilehlpaaPersRNext
import Derived.IntWalk
namespace Go.Proofs.Ythdldifilehlpaa.Pers
open Go.ChangeShapes Go.WideShapes Go.ChangeAt Go.RowKit Num Bl

set_option maxRecDepth 100000 in
set_option maxHeartbeats 2000000 in
/-- The reference's Run: P10.2. -/
theorem rRunC (s : Hl) (A : Option Addr) (n c : Nat) (k : Bool) (L : Nat → Bool) (w : World) (hn : n ≤ maxLen) (hP : Bls w w.heap.size A n L) :
    Calls Try.prog 12 #[hv s, .slice A n c, .bool k] w fun e w' => e = .returned (hv (run s L k n)) ∧ Below w.heap.size w w' := by
  unfold maxLen at hn
  have HP := Lib.hid hP
  clear hP
  go_enter Try.func12, Try.ntmps12
  go_wp2
  go_loopw [7] (fun i wr => ∃ j : Nat, j ≤ n ∧ i = .int .i64 j ∧ Below w.heap.size w wr ∧ Blk wr w.heap.size (hc (run s L k j)) 23 ∧ Blk wr (w.heap.size + 1) #[.int .i64 0, .bool false, .int .i64 0] 23)
    (fun i _ => n - (intOf i).toNat)
  case atStart => exact ⟨0, Nat.zero_le _, rfl, ((Below.refl _ w).alloc (Nat.le_refl _) _).alloc (by simp) _, blk_kept (blk_alloc w _ _) ((Below.refl _ _).alloc (Nat.le_refl _) _), blk_alloc2 w _ _ _⟩
  case round =>
    obtain ⟨j, hj, rfl, hB, hX, hR⟩ := hrel
    have HB := Lib.hid hB
    have HX := Lib.hid hX
    have HR := Lib.hid hR
    by_cases hlt : j < n
    · obtain ⟨b, off, rfl, hb, hc0⟩ := HP.out (by omega)
      have hcl := (hB.cell (p := ⟨b, off + j, none⟩) hb).trans (hc0 j hlt)
      have ltx := blk_lt hX
      clear hc0 hB hX hR
      have HE : Hid (run s L k (j + 1) = next (run s L k j) (L j) k) := show run s L k (j + 1) = _ from rfl
      have cN : ∀ W, Calls Try.prog 10 #[hv (run s L k j), .bool (L j), .bool k] W _ := fun W => rNextC (run s L k j) (L j) k W
      generalize run s L k j = x at *
      generalize next x (L j) k = y at *
      generalize L j = z at *
      have x0 := blk_cell HX.out (o := 0) (v := .int .i64 x.b) rfl
      have x1 := blk_cell HX.out (o := 1) (v := .bool x.o) rfl
      have x2 := blk_cell HX.out (o := 2) (v := .int .i64 x.g) rfl
      go_upto_region 4 with fail
      go_region_with (go_at_call 10; refine (cN _).mono ?_; rintro e w1 ⟨rfl, b1⟩; have BN := Lib.hid (below_at (w := wr) b1); have K1 := Lib.hid (blk_kept HX.out (below_at b1)); have KR := Lib.hid (blk_kept HR.out (below_at b1)); have n0 := blk_cell K1.out (o := 0) (v := .int .i64 x.b) rfl; have n1 := blk_cell K1.out (o := 1) (v := .bool x.o) rfl; have n2 := blk_cell K1.out (o := 2) (v := .int .i64 x.g) rfl; have f0 := blk_free K1.out 0; have f1 := blk_free K1.out 1; have f2 := blk_free K1.out 2; clear b1)
      all_goals
        go_wp2
        go_roundw
        case rel => exact ⟨j + 1, by omega, by go_num, below_put (HB.out.trans (BN.out.mono HB.out.size)) (Nat.le_refl _) _ _ _, by rw [HE.out]; exact blk_put K1.out _ _ _, blk_far (blk_far (blk_far KR.out _ _ (by omega)) _ _ (by omega)) _ _ (by omega)⟩
        case measure => simp [intOf]; omega
    · obtain rfl : j = n := by omega
      clear hB hX hR
      generalize hE : run s L k j = y at *
      have HE := Lib.hid hE
      clear hE
      have x0 := blk_cell HX.out (o := 0) (v := .int .i64 y.b) rfl
      have x1 := blk_cell HX.out (o := 1) (v := .bool y.o) rfl
      have x2 := blk_cell HX.out (o := 2) (v := .int .i64 y.g) rfl
      have r0 := blk_cell HR.out (o := 0) (v := .int .i64 0) rfl
      have r1 := blk_cell HR.out (o := 1) (v := .bool false) rfl
      have r2 := blk_cell HR.out (o := 2) (v := .int .i64 0) rfl
      have f0 := blk_free HR.out 0
      have f1 := blk_free HR.out 1
      have f2 := blk_free HR.out 2
      go_wp2
      refine bodyPost_ret (v := hv y) ?_ rfl ⟨by rw [HE.out], below_put HB.out (Nat.le_succ _) _ _ _⟩
      exact ret_hl Try.results12 _ _ (w.heap.size + 1) y rfl (blk_put HR.out _ _ _)

end Go.Proofs.Ythdldifilehlpaa.Pers
