/- Contract of the document's own May. Conditions: none. -/
import Derived.Test.YtkkjmepncceaoaaChkMay
namespace Go.Proofs.Ytkkjmepncceaoaa.Chk
open Go.ChangeShapes Go.WideShapes Go.ChangeAt Go.RowKit Num By

set_option maxRecDepth 100000 in
set_option maxHeartbeats 2000000 in
theorem rMayC (t : Pt) (w : World) : Calls Try.prog 8 #[.agg (ptA t)] w fun e w' => e = .returned (.bool (may t)) ∧ Below w.heap.size w w' := by
  obtain ⟨s, f, p, x⟩ := t
  by_cases h1 : s < 0
  · have HM := Lib.hid (may_out (t := ⟨s, f, p, x⟩) (by dsimp only; omega))
    go_enter Try.func8, Try.ntmps8
    go_wp2
    go_ret
    exact ⟨ret_bool HM.out, allocs _ _⟩
  by_cases h2 : 4 < s
  · have HM := Lib.hid (may_out (t := ⟨s, f, p, x⟩) (by dsimp only; omega))
    go_enter Try.func8, Try.ntmps8
    go_wp2
    go_ret
    exact ⟨ret_bool HM.out, allocs _ _⟩
  by_cases h3 : f < 0
  · have HM := Lib.hid (may_out (t := ⟨s, f, p, x⟩) (by dsimp only; omega))
    go_enter Try.func8, Try.ntmps8
    go_wp2
    go_ret
    exact ⟨ret_bool HM.out, allocs _ _⟩
  by_cases h4 : 5 < f
  · have HM := Lib.hid (may_out (t := ⟨s, f, p, x⟩) (by dsimp only; omega))
    go_enter Try.func8, Try.ntmps8
    go_wp2
    go_ret
    exact ⟨ret_bool HM.out, allocs _ _⟩
  cases p
  · by_cases h5 : s = 4
    · subst h5
      have HM := Lib.hid (may_p (t := ⟨4, f, false, x⟩) (by simp))
      go_enter Try.func8, Try.ntmps8
      go_wp2
      go_ret
      exact ⟨ret_bool (by rw [HM.out]; try simp), allocs _ _⟩
    · by_cases h6 : f = 5
      · subst h6
        have HM : Hid (may ⟨s, 5, false, x⟩ = x) := by
          cases x
          · exact may_x (by simp)
          · exact may_bad (by omega) (by omega)
        have h5' : (s == 4) = false := by simpa using h5
        clear h5
        cases x
        all_goals
          go_enter Try.func8, Try.ntmps8
          go_wp2
          go_ret
          exact ⟨ret_bool HM.out, allocs _ _⟩
      · have HM : Hid (may ⟨s, f, false, x⟩ = !x) := by
          cases x
          · exact may_go (by omega) (by omega) (by omega) (by omega)
          · exact may_x (by dsimp only; rw [decide_eq_false h6]; decide)
        have h5' : (s == 4) = false := by simpa using h5
        have h6' : (f == 5) = false := by simpa using h6
        clear h5 h6
        cases x
        all_goals
          go_enter Try.func8, Try.ntmps8
          go_wp2
          go_ret
          exact ⟨ret_bool HM.out, allocs _ _⟩
  · by_cases h6 : f = 0
    · subst h6
      by_cases h5 : s = 4
      · subst h5
        have HM : Hid (may ⟨4, 0, true, x⟩ = !x) := by cases x <;> rfl
        cases x
        all_goals
          go_enter Try.func8, Try.ntmps8
          go_wp2
          go_ret
          exact ⟨ret_bool HM.out, allocs _ _⟩
      · have HM := Lib.hid (may_p (t := ⟨s, 0, true, x⟩) (by dsimp only; rw [decide_eq_false h5]; decide))
        have h5' : (s == 4) = false := by simpa using h5
        clear h5
        go_enter Try.func8, Try.ntmps8
        go_wp2
        go_ret
        exact ⟨ret_bool HM.out, allocs _ _⟩
    · have HM := Lib.hid (may_f (t := ⟨s, f, true, x⟩) rfl h6)
      have h7 : 0 < f := by omega
      clear h6
      by_cases h5 : s = 4
      · subst h5
        by_cases h8 : f = 5
        · subst h8
          cases x
          all_goals
            go_enter Try.func8, Try.ntmps8
            go_wp2
            go_ret
            exact ⟨ret_bool HM.out, allocs _ _⟩
        · have h8' : (f == 5) = false := by simpa using h8
          clear h8
          cases x
          all_goals
            go_enter Try.func8, Try.ntmps8
            go_wp2
            go_ret
            exact ⟨ret_bool HM.out, allocs _ _⟩
      · have h5' : (s == 4) = false := by simpa using h5
        clear h5
        go_enter Try.func8, Try.ntmps8
        go_wp2
        go_ret
        exact ⟨ret_bool HM.out, allocs _ _⟩
theorem rMayIs (t : Pt) (b : Bool) (h : may t = b) (w : World) : Calls Try.prog 8 #[.agg (ptA t)] w fun e w' => e = .returned (.bool b) ∧ Below w.heap.size w w' := by
  subst h; exact rMayC t w

end Go.Proofs.Ytkkjmepncceaoaa.Chk
