/- Contracts of layer 2's Part and of the document's own. Conditions: none. -/
import Derived.Test.YtggacffkmhipaaaFixOps
namespace Go.Proofs.Ytggacffkmhipaaa.Fix
open Num Go.ChangeShapes Go.WideShapes Go.ChangeAt Go.RowKit

def pc (a n o : Int) : Bool := may a && (cnt n && (cnt o && !(o == 0)))
theorem cnt_bounds {n : Int} (h : cnt n = true) : 0 ≤ n ∧ n ≤ 1099511627776 := by simpa [cnt] using h
theorem cnt_no {n : Int} (h : cnt n = false) : n < 0 ∨ 1099511627776 < n := by
  rcases Int.lt_or_le n 0 with h1 | h1
  · exact Or.inl h1
  · rcases Int.lt_or_le 1099511627776 n with h2 | h2
    · exact Or.inr h2
    · simp [cnt, h1, h2] at h

set_option maxHeartbeats 800000 in
theorem partC (a n o : Int) (w : World) :
    Calls Try.prog 16 #[.int .i64 a, .int .i64 n, .int .i64 o] w fun e w' => e = .returned (.tuple #[.int .i64 (gN (pc a n o) (a * n) o), .int .i64 (gE (pc a n o) (a * n) o)]) ∧ Grown w w' := by
  unfold pc
  cases hma : may a
  · have ha := Lib.hid hma
    clear hma
    go_enter Try.func16, Try.ntmps16
    go_wp2_with fail
    refine (mayC a _).mono ?_
    rintro e w' ⟨rfl, rfl⟩
    rw [ha.out]
    go_wp2
    go_ret2
    exact ⟨rfl, Grown.refl _⟩
  cases hn : cnt n
  · have ha := Lib.hid hma
    have hb := Lib.hid hn
    clear hma hn
    go_enter Try.func16, Try.ntmps16
    go_wp2_with fail
    refine (mayC a _).mono ?_
    rintro e w' ⟨rfl, rfl⟩
    rw [ha.out]
    go_wp2_with fail
    refine (cntC n _).mono ?_
    rintro e w' ⟨rfl, rfl⟩
    rw [hb.out]
    go_wp2
    go_ret2
    exact ⟨rfl, Grown.refl _⟩
  cases ho : cnt o
  · have ha := Lib.hid hma
    have hb := Lib.hid hn
    have hc := Lib.hid ho
    clear hma hn ho
    go_enter Try.func16, Try.ntmps16
    go_wp2_with fail
    refine (mayC a _).mono ?_
    rintro e w' ⟨rfl, rfl⟩
    rw [ha.out]
    go_wp2_with fail
    refine (cntC n _).mono ?_
    rintro e w' ⟨rfl, rfl⟩
    rw [hb.out]
    go_wp2_with fail
    refine (cntC o _).mono ?_
    rintro e w' ⟨rfl, rfl⟩
    rw [hc.out]
    go_wp2
    go_ret2
    exact ⟨rfl, Grown.refl _⟩
  have hA := Lib.hid (may_in hma)
  have hB := Lib.hid (show In n from ⟨by have := cnt_bounds hn; omega, by have := cnt_bounds hn; omega⟩)
  have ha := Lib.hid hma
  have hb := Lib.hid hn
  have hc := Lib.hid ho
  clear hma hn ho
  cases h0 : (o == 0)
  · go_enter Try.func16, Try.ntmps16
    go_wp2_with fail
    refine (mayC a _).mono ?_
    rintro e w' ⟨rfl, rfl⟩
    rw [ha.out]
    go_wp2_with fail
    refine (cntC n _).mono ?_
    rintro e w' ⟨rfl, rfl⟩
    rw [hb.out]
    go_wp2_with fail
    refine (cntC o _).mono ?_
    rintro e w' ⟨rfl, rfl⟩
    rw [hc.out]
    go_wp2_with fail
    refine (scaled a n o _ hA.out hB.out).mono ?_
    rintro e w' ⟨v, rfl, hv, rfl⟩
    have hv' := Lib.hid hv
    clear hv
    go_wp2_with fail
    refine (answer _ _ v _ hv'.out (scE_is _ _)).mono ?_
    rintro e w' ⟨rfl, hg⟩
    have hg' := Lib.hid hg
    clear hg
    rw [scN_if]
    go_wp2
    go_ret2
    exact ⟨rfl, hg'.out⟩
  · go_enter Try.func16, Try.ntmps16
    go_wp2_with fail
    refine (mayC a _).mono ?_
    rintro e w' ⟨rfl, rfl⟩
    rw [ha.out]
    go_wp2_with fail
    refine (cntC n _).mono ?_
    rintro e w' ⟨rfl, rfl⟩
    rw [hb.out]
    go_wp2_with fail
    refine (cntC o _).mono ?_
    rintro e w' ⟨rfl, rfl⟩
    rw [hc.out]
    go_wp2
    go_ret2
    exact ⟨rfl, Grown.refl _⟩

set_option maxHeartbeats 800000 in
theorem rpart (a n o : Int) (w : World) :
    Calls Try.prog 17 #[.int .i64 a, .int .i64 n, .int .i64 o] w fun e w' => e = .returned (.tuple #[.int .i64 (gN (pc a n o) (a * n) o), .int .i64 (gE (pc a n o) (a * n) o)]) ∧ w = w' := by
  cases hma : may a
  · have hp := Lib.hid (show pc a n o = false by simp [pc, hma])
    have ha := Lib.hid hma
    clear hma
    go_enter Try.func17, Try.ntmps17
    go_wp2_with fail
    refine (rmay a _).mono ?_
    rintro e w' ⟨rfl, rfl⟩
    rw [ha.out]
    go_wp2
    go_ret2
    exact ⟨ret_two (gN_f _ _ hp.out) (gE_f _ _ hp.out), rfl⟩
  have hA := Lib.hid (may_in hma)
  have ha := Lib.hid hma
  by_cases hok : 0 ≤ n ∧ n ≤ 1099511627776 ∧ 1 ≤ o ∧ o ≤ 1099511627776
  · have hp := Lib.hid (show pc a n o = true by
      have h0 : (o == 0) = false := by simp; omega
      simp [pc, hma, cnt, h0]; omega)
    have hB := Lib.hid (show In n from ⟨by omega, by omega⟩)
    have h0 := Lib.hid (show o ≠ 0 by omega)
    obtain ⟨k1, k2, k3, k4⟩ := hok
    clear hma
    go_enter Try.func17, Try.ntmps17
    go_wp2_with fail
    refine (rmay a _).mono ?_
    rintro e w' ⟨rfl, rfl⟩
    rw [ha.out]
    go_wp2_with fail
    refine (rby a n o _ hA.out hB.out h0.out).mono ?_
    rintro e w' ⟨rfl, rfl⟩
    go_wp2
    go_ret2
    exact ⟨ret_two (gN_t _ _ hp.out) (gE_t _ _ hp.out), rfl⟩
  · have hp := Lib.hid (show pc a n o = false by
      simp only [pc, hma, Bool.true_and]
      cases hn : cnt n
      · rfl
      cases ho : cnt o
      · rfl
      have k1 := cnt_bounds hn
      have k2 := cnt_bounds ho
      have k3 : o = 0 := by omega
      subst k3; rfl)
    clear hma
    by_cases hn : n < 0
    · clear hok
      go_enter Try.func17, Try.ntmps17
      go_wp2_with fail
      refine (rmay a _).mono ?_
      rintro e w' ⟨rfl, rfl⟩
      rw [ha.out]
      go_wp2
      go_ret2
      exact ⟨ret_two (gN_f _ _ hp.out) (gE_f _ _ hp.out), rfl⟩
    by_cases hn2 : 1099511627776 < n
    · clear hok
      go_enter Try.func17, Try.ntmps17
      go_wp2_with fail
      refine (rmay a _).mono ?_
      rintro e w' ⟨rfl, rfl⟩
      rw [ha.out]
      go_wp2
      go_ret2
      exact ⟨ret_two (gN_f _ _ hp.out) (gE_f _ _ hp.out), rfl⟩
    by_cases ho : o < 1
    · clear hok
      go_enter Try.func17, Try.ntmps17
      go_wp2_with fail
      refine (rmay a _).mono ?_
      rintro e w' ⟨rfl, rfl⟩
      rw [ha.out]
      go_wp2
      go_ret2
      exact ⟨ret_two (gN_f _ _ hp.out) (gE_f _ _ hp.out), rfl⟩
    have ho2 : 1099511627776 < o := by omega
    clear hok
    go_enter Try.func17, Try.ntmps17
    go_wp2_with fail
    refine (rmay a _).mono ?_
    rintro e w' ⟨rfl, rfl⟩
    rw [ha.out]
    go_wp2
    go_ret2
    exact ⟨ret_two (gN_f _ _ hp.out) (gE_f _ _ hp.out), rfl⟩

end Go.Proofs.Ytggacffkmhipaaa.Fix
