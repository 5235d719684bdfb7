/- Contracts of vote.comesTo and of the reference's present and voted. Conditions: the numbers are int64. -/
import Derived.Test.YtafifglfbebhaaaVotePres
namespace Go.Proofs.Ytafifglfbebhaaa.Vote
open Go.ChangeShapes Go.WideShapes Go.ChangeAt Go.RowKit Num Bl Pers Mid

theorem vot_far {L : Nat → Int} {d : Int} (h : far (L 0) (L 1) d = true) : vot 2 L d = ⟨false, 0, 2⟩ := by unfold vot; rw [if_pos ⟨rfl, h⟩]
theorem vot_near {L : Nat → Int} {d : Int} (h : far (L 0) (L 1) d = false) : vot 2 L d = ⟨true, avg (L 0) (L 1), 2⟩ := by unfold vot; rw [if_neg (by simp [h])]; rfl
theorem vot_not {n : Nat} {L : Nat → Int} {d : Int} (h : ¬ n = 2) : vot n L d = ⟨ofB n, ofN n L, n⟩ := by unfold vot; rw [if_neg (fun x => h x.1)]

theorem below_pa {b : Nat} {a w : World} {v0 v1 v2 : Value} {x : Obj} (h : Below a.heap.size a w) (hb : a.heap.size ≤ b) : Below a.heap.size a ((((w.setCell ⟨b, 0, none⟩ v0).setCell ⟨b, 1, none⟩ v1).setCell ⟨b, 2, none⟩ v2).alloc x) :=
  have k := below_put h hb v0 v1 v2
  k.alloc k.size x

set_option maxRecDepth 100000 in
set_option maxHeartbeats 4000000 in
theorem comesToC (P : Nat → Rd) (d : Int) (w : World) (hP : ∀ i, In (P i).v) (hd : In d) :
    Calls Try.prog 18 #[.agg (rsA P), .int .i64 d] w fun e w' => e = .returned (vv (vot (cn P 3) (vl P 3) d)) ∧ Below w.heap.size w w' := by
  have hL := vl_in P hP 3
  have HI := Lib.hid hL
  have HD := Lib.hid hd
  have hn := cn_le P 3
  have b0 : Below w.heap.size w ((w.alloc (.cells (rsA P) 27)).alloc (.cells #[.bool false, .int .i64 0, .int .i64 0] 29)) := ((Below.refl _ w).alloc (Nat.le_refl _) _).alloc (by simp) _
  have B0 := Lib.hid b0
  have K0 := Lib.hid (blk_alloc w (rsA P) 27)
  have K1 := Lib.hid (blk_alloc2 w (.cells (rsA P) 27) #[.bool false, .int .i64 0, .int .i64 0] 29)
  have cV : ∀ W, Calls Try.prog 28 #[.agg (rsA P)] W fun e w' => e = .returned (.tuple #[.agg #[.int .i64 (vl P 3 0), .int .i64 (vl P 3 1), .int .i64 (vl P 3 2)], .int .i64 (cn P 3)]) ∧ Below W.heap.size W w' := fun W => valuesC P W
  clear hP hd hL b0
  generalize hX : vot (cn P 3) (vl P 3) d = X
  have HX := Lib.hid hX
  clear hX
  generalize cn P 3 = n at *
  generalize vl P 3 = L at *
  go_enter Try.func18, Try.ntmps18
  go_wp2_with fail
  refine (cV _).mono ?_
  rintro e w1 ⟨rfl, b1⟩
  have B1 := Lib.hid (bthen B0.out (by have h := b1; simpa using h))
  have R1 := Lib.hid (blk_kept K1.out b1)
  have z0 := blk_cell R1.out (o := 0) (v := .bool false) rfl
  have z1 := blk_cell R1.out (o := 1) (v := .int .i64 0) rfl
  have z2 := blk_cell R1.out (o := 2) (v := .int .i64 0) rfl
  have f0 := blk_free R1.out 0
  have f1 := blk_free R1.out 1
  have f2 := blk_free R1.out 2
  have lt := blk_lt R1.out
  clear b1 B0 K0 K1 cV
  have hn4 : n = 3 ∨ n = 2 ∨ n = 1 ∨ n = 0 := by omega
  rcases hn4 with rfl | rfl | rfl | rfl
  · have HE : Hid (X = ⟨true, middle (L 0) (L 1) (L 2), 3⟩) := HX.out.symm.trans (vot_not (by omega))
    go_wp2_with fail
    refine (middleC _ _ _ _).mono ?_
    rintro e w' ⟨rfl, rfl⟩
    go_wp2
    refine bodyPost_ret (v := vv ⟨true, middle (L 0) (L 1) (L 2), 3⟩) ?_ rfl ⟨by rw [HE.out], ?_⟩
    · exact ret_vt Try.results18 _ _ (w.heap.size + 1) ⟨true, middle (L 0) (L 1) (L 2), 3⟩ rfl (blk_kept (blk_put R1.out _ _ _) ((Below.refl _ _).alloc (Nat.le_refl _) _))
    · exact below_pa B1.out (Nat.le_succ _)
  · cases hf : far (L 0) (L 1) d
    · have HE : Hid (X = ⟨true, avg (L 0) (L 1), 2⟩) := HX.out.symm.trans (vot_near hf)
      have HF := Lib.hid hf
      clear hf
      go_wp2_with fail
      refine (farC _ _ _ _ (HI.out 0) (HI.out 1) HD.out).mono ?_
      rintro e w' ⟨rfl, rfl⟩
      rw [HF.out]
      go_wp2_with fail
      refine (averageC _ _ _ (HI.out 0) (HI.out 1)).mono ?_
      rintro e w' ⟨rfl, rfl⟩
      go_wp2
      refine bodyPost_ret (v := vv ⟨true, avg (L 0) (L 1), 2⟩) ?_ rfl ⟨by rw [HE.out], ?_⟩
      · exact ret_vt Try.results18 _ _ (w.heap.size + 1) ⟨true, avg (L 0) (L 1), 2⟩ rfl (blk_kept (blk_put R1.out _ _ _) ((Below.refl _ _).alloc (Nat.le_refl _) _))
      · exact below_pa B1.out (Nat.le_succ _)
    · have HE : Hid (X = ⟨false, 0, 2⟩) := HX.out.symm.trans (vot_far hf)
      have HF := Lib.hid hf
      clear hf
      go_wp2_with fail
      refine (farC _ _ _ _ (HI.out 0) (HI.out 1) HD.out).mono ?_
      rintro e w' ⟨rfl, rfl⟩
      rw [HF.out]
      go_wp2
      refine bodyPost_ret (v := vv ⟨false, 0, 2⟩) ?_ rfl ⟨by rw [HE.out], ?_⟩
      · exact ret_vt Try.results18 _ _ (w.heap.size + 1) ⟨false, 0, 2⟩ rfl (blk_kept (blk_put R1.out _ _ _) ((Below.refl _ _).alloc (Nat.le_refl _) _))
      · exact below_pa B1.out (Nat.le_succ _)
  · have HE : Hid (X = ⟨true, L 0, 1⟩) := HX.out.symm.trans (vot_not (by omega))
    go_wp2
    refine bodyPost_ret (v := vv ⟨true, L 0, 1⟩) ?_ rfl ⟨by rw [HE.out], ?_⟩
    · exact ret_vt Try.results18 _ _ (w.heap.size + 1) ⟨true, L 0, 1⟩ rfl (blk_kept (blk_put R1.out _ _ _) ((Below.refl _ _).alloc (Nat.le_refl _) _))
    · exact below_pa B1.out (Nat.le_succ _)
  · have HE : Hid (X = ⟨false, 0, 0⟩) := HX.out.symm.trans (vot_not (by omega))
    go_wp2
    refine bodyPost_ret (v := vv ⟨false, 0, 0⟩) ?_ rfl ⟨by rw [HE.out], ?_⟩
    · exact ret_vt Try.results18 _ _ (w.heap.size + 1) ⟨false, 0, 0⟩ rfl (blk_kept (blk_put R1.out _ _ _) ((Below.refl _ _).alloc (Nat.le_refl _) _))
    · exact below_pa B1.out (Nat.le_succ _)

end Go.Proofs.Ytafifglfbebhaaa.Vote
