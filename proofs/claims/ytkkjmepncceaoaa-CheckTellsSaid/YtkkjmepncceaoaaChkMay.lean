/- Contracts of check's isBehindLast, isTooLong, isWell, goOn, wait, May, and of the document's own May. Conditions: those that each row names. -/
import Derived.Test.YtkkjmepncceaoaaChkRow
import Derived.Deep.QuietTactic
import Derived.BigQuiet
import Derived.StillTailTactics
namespace Go.Proofs.Ytkkjmepncceaoaa.Chk
open Go.ChangeShapes Go.WideShapes Go.ChangeAt Go.RowKit Num By

theorem behindYes (w : World) : Calls Try.prog 13 #[.int .i64 4] w fun e w' => e = .returned (.bool true) ∧ w' = w := by
  go_enter Try.func13, Try.ntmps13
  go_wp2
  go_ret
  exact ⟨rfl, rfl⟩
theorem behindNo (s : Int) (h : s ≠ 4) (w : World) : Calls Try.prog 13 #[.int .i64 s] w fun e w' => e = .returned (.bool false) ∧ w' = w := by
  have h' := Lib.hid h
  clear h
  go_enter Try.func13, Try.ntmps13
  go_wp2
  go_ret
  exact ⟨ret_bool (by have := h'.out; simp [this]), rfl⟩
theorem longYes (w : World) : Calls Try.prog 14 #[.int .i64 5] w fun e w' => e = .returned (.bool true) ∧ w' = w := by
  go_enter Try.func14, Try.ntmps14
  go_wp2
  go_ret
  exact ⟨rfl, rfl⟩
theorem longNo (s : Int) (h : s ≠ 5) (w : World) : Calls Try.prog 14 #[.int .i64 s] w fun e w' => e = .returned (.bool false) ∧ w' = w := by
  have h' := Lib.hid h
  clear h
  go_enter Try.func14, Try.ntmps14
  go_wp2
  go_ret
  exact ⟨ret_bool (by have := h'.out; simp [this]), rfl⟩
/-- The same of any number, and told as a bool. -/
theorem behindC (s : Int) (w : World) : Calls Try.prog 13 #[.int .i64 s] w fun e w' => e = .returned (.bool (decide (s = 4))) ∧ w = w' := by
  by_cases h : s = 4
  · subst h; exact (behindYes w).mono fun _ _ k => ⟨k.1, k.2.symm⟩
  · rw [decide_eq_false h]; exact (behindNo s h w).mono fun _ _ k => ⟨k.1, k.2.symm⟩
theorem longC (s : Int) (w : World) : Calls Try.prog 14 #[.int .i64 s] w fun e w' => e = .returned (.bool (decide (s = 5))) ∧ w = w' := by
  by_cases h : s = 5
  · subst h; exact (longYes w).mono fun _ _ k => ⟨k.1, k.2.symm⟩
  · rw [decide_eq_false h]; exact (longNo s h w).mono fun _ _ k => ⟨k.1, k.2.symm⟩

theorem wl_yes {u s : Int} (h : wl u s = true) : u / 2 ^ s.toNat % 2 = 1 := of_decide_eq_true h
theorem wl_not {u s : Int} (h : wl u s = false) : u / 2 ^ s.toNat % 2 = 0 := by
  have := of_decide_eq_false h
  generalize u / 2 ^ s.toNat = q at *
  omega
theorem wl_bit (u s : Int) (u0 : 0 ≤ u) (u1 : u < 256) : (bits .and .u8 (u / 2 ^ s.toNat) 1 != 0) = wl u s := by
  have hx := part_u8 u s.toNat u0 u1
  unfold wl
  generalize u / 2 ^ s.toNat = x at *
  rw [and_1 x hx.1 hx.2]
  have h : x % 2 = 0 ∨ x % 2 = 1 := by omega
  rcases h with h | h <;> rw [h] <;> decide
theorem wl_eq (u s : Int) (u0 : 0 ≤ u) (u1 : u < 256) : (bits .and .u8 (u / 2 ^ s.toNat) 1 == 1) = wl u s := by
  have hx := part_u8 u s.toNat u0 u1
  unfold wl
  generalize u / 2 ^ s.toNat = x at *
  rw [and_1 x hx.1 hx.2]
  have h : x % 2 = 0 ∨ x % 2 = 1 := by omega
  rcases h with h | h <;> rw [h] <;> decide
theorem isWellC (u s : Int) (u0 : 0 ≤ u) (u1 : u < 256) (s0 : 0 ≤ s) (s4 : s < 4) (w : World) : Calls Try.prog 15 #[.int .u8 u, .int .i64 s] w fun e w' => e = .returned (.bool (wl u s)) ∧ w = w' := by
  go_enter Try.func15, Try.ntmps15
  go_wp2
  go_ret
  exact ⟨ret_bool (wl_bit u s u0 u1).symm, rfl⟩

set_option maxHeartbeats 1000000 in
theorem mayC (t : Pt) (w : World) : Calls Try.prog 7 #[.agg (ptA t)] w fun e w' => e = .returned (.bool (may t)) ∧ Below w.heap.size w w' := by
  obtain ⟨s, f, p, x⟩ := t
  by_cases h1 : s < 0
  · have HM := Lib.hid (may_out (t := ⟨s, f, p, x⟩) (by dsimp only; omega))
    go_enter Try.func7, Try.ntmps7
    go_wp2
    go_ret
    exact ⟨ret_bool HM.out, allocs _ _⟩
  by_cases h2 : 4 < s
  · have HM := Lib.hid (may_out (t := ⟨s, f, p, x⟩) (by dsimp only; omega))
    go_enter Try.func7, Try.ntmps7
    go_wp2
    go_ret
    exact ⟨ret_bool HM.out, allocs _ _⟩
  by_cases h3 : f < 0
  · have HM := Lib.hid (may_out (t := ⟨s, f, p, x⟩) (by dsimp only; omega))
    go_enter Try.func7, Try.ntmps7
    go_wp2
    go_ret
    exact ⟨ret_bool HM.out, allocs _ _⟩
  by_cases h4 : 5 < f
  · have HM := Lib.hid (may_out (t := ⟨s, f, p, x⟩) (by dsimp only; omega))
    go_enter Try.func7, Try.ntmps7
    go_wp2
    go_ret
    exact ⟨ret_bool HM.out, allocs _ _⟩
  cases p
  · by_cases h5 : s = 4
    · subst h5
      have HM := Lib.hid (may_p (t := ⟨4, f, false, x⟩) (by simp))
      go_enter Try.func7, Try.ntmps7
      go_wp2_with fail
      go_quiet ((first | (go_at_call 13; exact Calls.quiet_of_same (behindYes _)) | (go_at_call 14; exact Calls.quiet_of_same (longYes _))))
      go_wp2
      go_ret
      exact ⟨ret_bool HM.out, below_drewN (allocs _ _) _⟩
    · by_cases h6 : f = 5
      · subst h6
        have HM : Hid (may ⟨s, 5, false, x⟩ = x) := by
          cases x
          · exact may_x (by simp)
          · exact may_bad (by omega) (by omega)
        have H5 := Lib.hid h5
        clear h5
        go_enter Try.func7, Try.ntmps7
        go_wp2_with fail
        go_quiet ((first | (go_at_call 13; exact Calls.quiet_of_same (behindNo _ H5.out _)) | (go_at_call 14; exact Calls.quiet_of_same (longYes _))))
        go_wp2
        go_ret
        exact ⟨ret_bool (by rw [HM.out]; try simp), below_drewN (allocs _ _) _⟩
      · have HM : Hid (may ⟨s, f, false, x⟩ = !x) := by
          cases x
          · exact may_go (by omega) (by omega) (by omega) (by omega)
          · exact may_x (by dsimp only; rw [decide_eq_false h6]; decide)
        have H5 := Lib.hid h5
        have H6 := Lib.hid h6
        clear h5 h6
        go_enter Try.func7, Try.ntmps7
        go_wp2_with fail
        go_quiet ((first | (go_at_call 13; exact Calls.quiet_of_same (behindNo _ H5.out _)) | (go_at_call 14; exact Calls.quiet_of_same (longNo _ H6.out _))))
        go_wp2
        go_ret
        exact ⟨ret_bool (by rw [HM.out]; try simp), below_drewN (allocs _ _) _⟩
  · by_cases h6 : f = 0
    · subst h6
      by_cases h5 : s = 4
      · subst h5
        have HM : Hid (may ⟨4, 0, true, x⟩ = !x) := by cases x <;> rfl
        go_enter Try.func7, Try.ntmps7
        go_wp2_with fail
        go_quiet ((first | (go_at_call 13; exact Calls.quiet_of_same (behindYes _)) | (go_at_call 14; exact Calls.quiet_of_same (longNo _ (by decide) _))))
        go_wp2
        go_ret
        exact ⟨ret_bool (by rw [HM.out]; try simp), below_drewN (allocs _ _) _⟩
      · have HM := Lib.hid (may_p (t := ⟨s, 0, true, x⟩) (by dsimp only; rw [decide_eq_false h5]; decide))
        have H5 := Lib.hid h5
        clear h5
        go_enter Try.func7, Try.ntmps7
        go_wp2_with fail
        go_quiet ((first | (go_at_call 13; exact Calls.quiet_of_same (behindNo _ H5.out _)) | (go_at_call 14; exact Calls.quiet_of_same (longNo _ (by decide) _))))
        go_wp2
        go_ret
        exact ⟨ret_bool HM.out, below_drewN (allocs _ _) _⟩
    · have HM := Lib.hid (may_f (t := ⟨s, f, true, x⟩) rfl h6)
      have h7 : 0 < f := by omega
      clear h6
      go_enter Try.func7, Try.ntmps7
      go_wp2
      go_ret
      exact ⟨ret_bool HM.out, allocs _ _⟩
theorem mayIs (t : Pt) (b : Bool) (h : may t = b) (w : World) : Calls Try.prog 7 #[.agg (ptA t)] w fun e w' => e = .returned (.bool b) ∧ Below w.heap.size w w' := by
  subst h; exact mayC t w

end Go.Proofs.Ytkkjmepncceaoaa.Chk
