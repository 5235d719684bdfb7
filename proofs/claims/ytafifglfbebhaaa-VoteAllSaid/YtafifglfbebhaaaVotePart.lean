/- Contracts of vote.isBad, vote.values and vote.present. Conditions: the numbers are int64. -/
import Derived.Test.YtafifglfbebhaaaVote
namespace Go.Proofs.Ytafifglfbebhaaa.Vote
open Go.ChangeShapes Go.WideShapes Go.ChangeAt Go.RowKit Num Bl Pers Mid

theorem bd_said {r : Rd} (h : r.i = false) (p : Bool) (v : Vt) (d : Int) : bd r p v d = true := by simp [bd, h]
theorem bd_none {v : Vt} (h : v.i = false) (r : Rd) (p : Bool) (d : Int) : bd r p v d = true := by simp [bd, h]
theorem bd_few {r : Rd} {v : Vt} (h1 : r.i = true) (h2 : v.i = true) (h3 : v.n < 3) (d : Int) : bd r true v d = false := by simp [bd, h1, h2, h3]
theorem bd_out {r : Rd} {v : Vt} (h1 : r.i = true) (h2 : v.i = true) (d : Int) : bd r false v d = far r.v v.v d := by simp [bd, h1, h2]
theorem bd_all {r : Rd} {v : Vt} (h1 : r.i = true) (h2 : v.i = true) (h3 : ¬ v.n < 3) (p : Bool) (d : Int) : bd r p v d = far r.v v.v d := by simp [bd, h1, h2, h3]

set_option maxRecDepth 100000 in
set_option maxHeartbeats 2000000 in
theorem isBadC (r : Rd) (p : Bool) (v : Vt) (d : Int) (w : World) (hr : In r.v) (hv : In v.v) (hd : In d) :
    Calls Try.prog 19 #[rv r, .bool p, vv v, .int .i64 d] w fun e w' => e = .returned (.bool (bd r p v d)) ∧ Below w.heap.size w w' := by
  have B0 := Lib.hid (((Below.refl _ w).alloc (Nat.le_refl _) (.cells #[.bool r.i, .int .i64 r.v] 26)).alloc (by simp) (.cells (vc v) 29))
  have HR := Lib.hid hr
  have HV := Lib.hid hv
  have HD := Lib.hid hd
  clear hr hv hd
  obtain ⟨ri, rn⟩ := r
  obtain ⟨vi, vn, vk⟩ := v
  dsimp only at *
  cases ri
  · have HE := Lib.hid (bd_said (r := ⟨false, rn⟩) rfl p ⟨vi, vn, vk⟩ d)
    go_enter Try.func19, Try.ntmps19
    go_wp2
    go_ret
    exact ⟨ret_bool HE.out, B0.out⟩
  cases vi
  · have HE := Lib.hid (bd_none (v := ⟨false, vn, vk⟩) rfl ⟨true, rn⟩ p d)
    go_enter Try.func19, Try.ntmps19
    go_wp2
    go_ret
    exact ⟨ret_bool HE.out, B0.out⟩
  cases p
  · have HE := Lib.hid (bd_out (r := ⟨true, rn⟩) (v := ⟨true, vn, vk⟩) rfl rfl d)
    go_enter Try.func19, Try.ntmps19
    go_wp2_with fail
    refine (farC _ _ _ _ HR.out HV.out HD.out).mono ?_
    rintro e w' ⟨rfl, rfl⟩
    go_wp2
    go_ret
    exact ⟨ret_bool HE.out, B0.out⟩
  by_cases h3 : vk < 3
  · have HE := Lib.hid (bd_few (r := ⟨true, rn⟩) (v := ⟨true, vn, vk⟩) rfl rfl h3 d)
    go_enter Try.func19, Try.ntmps19
    go_wp2
    go_ret
    exact ⟨ret_bool HE.out, B0.out⟩
  · have HE := Lib.hid (bd_all (r := ⟨true, rn⟩) (v := ⟨true, vn, vk⟩) rfl rfl h3 true d)
    go_enter Try.func19, Try.ntmps19
    go_wp2_with fail
    refine (farC _ _ _ _ HR.out HV.out HD.out).mono ?_
    rintro e w' ⟨rfl, rfl⟩
    go_wp2
    go_ret
    exact ⟨ret_bool HE.out, B0.out⟩

/-- The values so far, as cells. -/
abbrev lA (P : Nat → Rd) (k : Nat) : Array Value := #[.int .i64 (vl P k 0), .int .i64 (vl P k 1), .int .i64 (vl P k 2)]
theorem lA_at (P : Nat → Rd) (k : Nat) : ∀ m : Nat, m < 3 → (lA P k)[m]? = some (.int .i64 (vl P k m)) := fun m h => match m, h with
  | 0, _ => rfl
  | 1, _ => rfl
  | 2, _ => rfl
theorem cn_yes {P : Nat → Rd} {k : Nat} (h : (P k).i = true) : cn P (k + 1) = cn P k + 1 := by
  show (if (P k).i = true then cn P k + 1 else cn P k) = _
  rw [if_pos h]
theorem cn_no {P : Nat → Rd} {k : Nat} (h : (P k).i = false) : cn P (k + 1) = cn P k := by
  show (if (P k).i = true then cn P k + 1 else cn P k) = _
  rw [if_neg (by simp [h])]
theorem vl_yes {P : Nat → Rd} {k : Nat} (h : (P k).i = true) : vl P (k + 1) = fun j => if j = cn P k then (P k).v else vl P k j := by
  show (if (P k).i = true then (fun j => if j = cn P k then (P k).v else vl P k j) else vl P k) = _
  rw [if_pos h]
theorem vl_no {P : Nat → Rd} {k : Nat} (h : (P k).i = false) : vl P (k + 1) = vl P k := by
  show (if (P k).i = true then (fun j => if j = cn P k then (P k).v else vl P k j) else vl P k) = _
  rw [if_neg (by simp [h])]
theorem lA_yes {P : Nat → Rd} {k : Nat} (h : (P k).i = true) (hk : k < 3) : (lA P k).setIfInBounds (cn P k) (.int .i64 (P k).v) = lA P (k + 1) := by
  have hm := cn_le P k
  have hm3 : cn P k = 0 ∨ cn P k = 1 ∨ cn P k = 2 := by omega
  simp only [lA, vl_yes h]
  rcases hm3 with e | e | e <;> rw [e] <;> rfl
theorem lA_no {P : Nat → Rd} {k : Nat} (h : (P k).i = false) : lA P (k + 1) = lA P k := by simp only [lA, vl_no h]

theorem info58 : (Try.prog.info? 58).map (·.size) = some 3 := by kernel_rfl
theorem below_sa {g o : Nat} {a w : World} {v : Value} {x : Obj} (h : Below a.heap.size a w) (hb : a.heap.size ≤ g) : Below a.heap.size a ((w.setCell ⟨g, o, none⟩ v).alloc x) :=
  have b := h.setCell (p := ⟨g, o, none⟩) hb v
  b.alloc b.size x
abbrev zero3 : Array Value := #[.int .i64 0, .int .i64 0, .int .i64 0]

set_option maxRecDepth 100000 in
set_option maxHeartbeats 2000000 in
theorem valuesC (P : Nat → Rd) (w : World) :
    Calls Try.prog 28 #[.agg (rsA P)] w fun e w' => e = .returned (.tuple #[.agg (lA P 3), .int .i64 (cn P 3)]) ∧ Below w.heap.size w w' := by
  have K0 := Lib.hid (show Below w.heap.size w (((w.alloc (.cells (rsA P) 27)).alloc (.cells zero3 58)).alloc (.cells zero3 58)) ∧ Blk (((w.alloc (.cells (rsA P) 27)).alloc (.cells zero3 58)).alloc (.cells zero3 58)) (w.heap.size + 1) zero3 58 ∧ Blk (((w.alloc (.cells (rsA P) 27)).alloc (.cells zero3 58)).alloc (.cells zero3 58)) (w.heap.size + 1 + 1) (lA P 0) 58 from
    ⟨(((Below.refl _ w).alloc (Nat.le_refl _) _).alloc (by simp) _).alloc (by simp; omega) _, blk_kept (blk_alloc2 w _ _ _) ((Below.refl _ _).alloc (Nat.le_refl _) _), by have h := blk_alloc2 (w.alloc (.cells (rsA P) 27)) (.cells zero3 58) zero3 58; rw [World.size_alloc] at h; exact h⟩)
  go_enter Try.func28, Try.ntmps28
  go_wp2
  go_loopw [9, 5] (fun v c wr => ∃ k : Nat, v = .int .i64 k ∧ c = .int .i64 (cn P k) ∧ k ≤ 3 ∧ Below w.heap.size w wr ∧ Blk wr (w.heap.size + 1) zero3 58 ∧ Blk wr (w.heap.size + 1 + 1) (lA P k) 58) (fun v _ _ => 3 - (intOf v).toNat)
  case atStart => exact ⟨0, rfl, rfl, by omega, K0.out.1, K0.out.2.1, K0.out.2.2⟩
  case round =>
    rename_i wr
    obtain ⟨k, rfl, rfl, hk, B, KR, KL⟩ := hrel
    have HB := Lib.hid B
    have HR := Lib.hid KR
    have HL := Lib.hid KL
    have hm := cn_le P k
    have ltl := blk_lt KL
    clear B KR KL K0
    by_cases hk3 : k < 3
    · have jr := fun w => rs_at P w k hk3
      have k0 : (0 : Int) ≤ (k : Int) := Int.natCast_nonneg _
      have k3 : (k : Int) < 3 := by omega
      have m0 : (0 : Int) ≤ (cn P k : Int) := Int.natCast_nonneg _
      have m3 : (cn P k : Int) < 3 := by omega
      cases h : (P k).i
      · have HE := Lib.hid (cn_no h)
        have HF := Lib.hid (lA_no h)
        go_wp2
        go_roundw
        case rel => exact ⟨k + 1, by go_num, by rw [HE.out], by omega, HB.out.alloc HB.out.size _, blk_kept HR.out ((Below.refl _ _).alloc (Nat.le_refl _) _), by rw [HF.out]; exact blk_kept HL.out ((Below.refl _ _).alloc (Nat.le_refl _) _)⟩
        case measure => simp [intOf]; omega
      · have HE := Lib.hid (cn_yes h)
        have HF := Lib.hid (lA_yes h hk3)
        have cm := blk_cell HL.out (lA_at P k (cn P k) (by omega))
        have fm := blk_free HL.out (cn P k)
        go_wp2
        go_roundw
        case rel => exact ⟨k + 1, by go_num, by rw [HE.out]; go_num, by omega, below_sa HB.out (by omega), blk_kept (blk_far HR.out _ _ (by omega)) ((Below.refl _ _).alloc (Nat.le_refl _) _), by rw [← HF.out]; exact blk_kept (blk_set HL.out _ _) ((Below.refl _ _).alloc (Nat.le_refl _) _)⟩
        case measure => simp [intOf]; omega
    · obtain rfl : k = 3 := by omega
      have e3 : ((3 : Nat) : Int) = 3 := rfl
      have c0 := blk_cell HL.out (o := 0) (v := .int .i64 (vl P 3 0)) rfl
      have c1 := blk_cell HL.out (o := 1) (v := .int .i64 (vl P 3 1)) rfl
      have c2 := blk_cell HL.out (o := 2) (v := .int .i64 (vl P 3 2)) rfl
      have z0 := blk_cell HR.out (o := 0) (v := .int .i64 0) rfl
      have z1 := blk_cell HR.out (o := 1) (v := .int .i64 0) rfl
      have z2 := blk_cell HR.out (o := 2) (v := .int .i64 0) rfl
      have f0 := blk_free HR.out 0
      have f1 := blk_free HR.out 1
      have f2 := blk_free HR.out 2
      go_wp2
      exact bodyPost_ret (v := .tuple #[.agg (lA P 3), .int .i64 (cn P 3)]) (by simp [results, Try.results28, go_sem, z0, z1, z2]) rfl ⟨rfl, below_put HB.out (Nat.le_succ _) _ _ _⟩

end Go.Proofs.Ytafifglfbebhaaa.Vote
