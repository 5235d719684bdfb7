/- Contracts of layer 2's ways that ask for their arguments first (Mul, Div, Part), and of the document's own answers. Conditions: the arguments are int64 numbers. -/
import Derived.Test.YtggacffkmhipaaaFix
namespace Go.Proofs.Ytggacffkmhipaaa.Fix
open Num Go.ChangeShapes Go.WideShapes Go.ChangeAt Go.RowKit

/-- The results under a test of the arguments: ErrArg, or what 'scN', 'scE' say. -/
def gN (c : Bool) (p o : Int) : Int := if c = true then scN p o else 0
def gE (c : Bool) (p o : Int) : Int := if c = true then scE p o else 2
theorem gN_f {c : Bool} (p o : Int) (h : c = false) : gN c p o = 0 := by subst h; rfl
theorem gE_f {c : Bool} (p o : Int) (h : c = false) : gE c p o = 2 := by subst h; rfl
theorem gN_t {c : Bool} (p o : Int) (h : c = true) : gN c p o = scN p o := by subst h; rfl
theorem gE_t {c : Bool} (p o : Int) (h : c = true) : gE c p o = scE p o := by subst h; rfl

theorem whole (a : Int) (w : World) (ha : In a) :
    Calls Try.prog 10 #[.int .i64 a] w fun e w' => e = .returned (.int .i64 (a.tdiv 65536)) ∧ w = w' := by
  have h := Lib.hid (tdiv_in (b := 65536) ha (by omega))
  clear ha
  go_enter Try.func10, Try.ntmps10
  go_wp2
  go_ret
  exact ⟨ret_int (wrap_in _ h.out).symm, rfl⟩

theorem rwhole (a : Int) (w : World) (ha : In a) :
    Calls Try.prog 11 #[.int .i64 a] w fun e w' => e = .returned (.int .i64 (a.tdiv 65536)) ∧ w = w' := by
  have h := Lib.hid (tdiv_in (b := 65536) ha (by omega))
  clear ha
  go_enter Try.func11, Try.ntmps11
  go_wp2
  go_ret
  exact ⟨ret_int (wrap_in _ h.out).symm, rfl⟩

def cnt (n : Int) : Bool := decide (0 ≤ n ∧ n ≤ 1099511627776)

theorem cntC (a : Int) (w : World) :
    Calls Try.prog 22 #[.int .i64 a] w fun e w' => e = .returned (.bool (cnt a)) ∧ w = w' := by
  go_enter Try.func22, Try.ntmps22
  go_wp2
  all_goals
    go_ret
    exact ⟨ret_bool (by simp [cnt]; try omega), rfl⟩

theorem rfine (a : Int) (w : World) :
    Calls Try.prog 27 #[.int .i64 a] w fun e w' => e = .returned (.tuple #[.int .i64 (if may a = true then a else 0), .int .i64 (if may a = true then 0 else 9)]) ∧ w = w' := by
  cases hm : may a
  all_goals
    have hm' := Lib.hid hm
    clear hm
    go_enter Try.func27, Try.ntmps27
    go_wp2_with fail
    refine (rmay a _).mono ?_
    rintro e w' ⟨rfl, rfl⟩
    rw [hm'.out]
    go_wp2
    go_ret2
    exact ⟨rfl, rfl⟩

set_option maxHeartbeats 400000 in
theorem rby (a b o : Int) (w : World) (ha : In a) (hb : In b) (ho : o ≠ 0) :
    Calls Try.prog 21 #[.int .i64 a, .int .i64 b, .int .i64 o] w fun e w' => e = .returned (.tuple #[.int .i64 (scN (a * b) o), .int .i64 (scE (a * b) o)]) ∧ w = w' := by
  have ha' := Lib.hid ha
  have hb' := Lib.hid hb
  have ho' := Lib.hid ho
  have ho0 : (o == 0) = false := by simpa using ho
  clear ha hb ho
  by_cases hov : a * b < -9223372036854775808 ∨ 9223372036854775807 < a * b
  · have hov' := Lib.hid hov
    clear hov
    go_enter Try.func21, Try.ntmps21
    go_wp2_with fail
    refine (rmul a b _ ha'.out hb'.out).mono ?_
    rintro e w' ⟨rfl, rfl⟩
    rw [mulN_out hov'.out, mulE_out hov'.out]
    go_wp2
    go_ret2
    exact ⟨ret_two (scN_bad (scE_over hov'.out) (by decide)) (scE_over hov'.out), rfl⟩
  · have hnv := Lib.hid hov
    have hin := Lib.hid (show In (a * b) from ⟨by omega, by omega⟩)
    clear hov
    have hq : may (wrap64 ((a * b).tdiv o)) = may ((a * b).tdiv o) ∧ (may ((a * b).tdiv o) = true → wrap64 ((a * b).tdiv o) = (a * b).tdiv o) := by
      by_cases c : a * b = -9223372036854775808 ∧ o = -1
      · rw [c.1, c.2]
        have e1 : Int.tdiv (-9223372036854775808) (-1) = 9223372036854775808 := by decide
        have e2 : wrap64 9223372036854775808 = -9223372036854775808 := by unfold wrap64; decide
        rw [e1, e2]
        exact ⟨by decide, fun h => absurd h (by decide)⟩
      · rw [wrap_in _ (tdiv_in hin.out c)]
        exact ⟨rfl, fun _ => rfl⟩
    have hq1 := Lib.hid hq.1
    have hq2 := Lib.hid hq.2
    clear hq
    cases hm : may ((a * b).tdiv o)
    all_goals
      have hm' := Lib.hid hm
      clear hm
      go_enter Try.func21, Try.ntmps21
      go_wp2_with fail
      refine (rmul a b _ ha'.out hb'.out).mono ?_
      rintro e w' ⟨rfl, rfl⟩
      rw [mulN_in hin.out.1 hin.out.2, mulE_in hin.out.1 hin.out.2]
      go_wp2_with fail
      refine (rfine _ _).mono ?_
      rintro e w' ⟨rfl, rfl⟩
      rw [hq1.out, hm'.out]
      go_wp2
      go_ret2
    · exact ⟨ret_two (scN_bad (scE_beyond hnv.out ho'.out hm'.out) (by decide)) (scE_beyond hnv.out ho'.out hm'.out), rfl⟩
    · exact ⟨ret_two (by rw [scN_fine (scE_fine hnv.out ho'.out hm'.out)]; exact (hq2.out hm'.out).symm) (scE_fine hnv.out ho'.out hm'.out), rfl⟩

theorem rof (a : Int) (w : World) (ha : In a) :
    Calls Try.prog 7 #[.int .i64 a] w fun e w' => e = .returned (.tuple #[.int .i64 (scN (a * 65536) 1), .int .i64 (scE (a * 65536) 1)]) ∧ w = w' := by
  have ha' := Lib.hid ha
  clear ha
  go_enter Try.func7, Try.ntmps7
  go_wp2_with fail
  refine (rby a 65536 1 _ ha'.out ⟨by omega, by omega⟩ (by decide)).mono ?_
  rintro e w' ⟨rfl, rfl⟩
  go_wp2
  go_ret2
  exact ⟨rfl, rfl⟩

set_option maxHeartbeats 800000 in
theorem mulC (a b : Int) (w : World) :
    Calls Try.prog 12 #[.int .i64 a, .int .i64 b] w fun e w' => e = .returned (.tuple #[.int .i64 (gN (may a && may b) (a * b) (65536)), .int .i64 (gE (may a && may b) (a * b) (65536))]) ∧ Grown w w' := by
  cases hma : may a
  · have ha := Lib.hid hma
    clear hma
    go_enter Try.func12, Try.ntmps12
    go_wp2_with fail
    refine (mayC a _).mono ?_
    rintro e w' ⟨rfl, rfl⟩
    rw [ha.out]
    go_wp2
    go_ret2
    exact ⟨rfl, Grown.refl _⟩
  cases hmb : may b
  · have ha := Lib.hid hma
    have hb := Lib.hid hmb
    clear hma hmb
    go_enter Try.func12, Try.ntmps12
    go_wp2_with fail
    refine (mayC a _).mono ?_
    rintro e w' ⟨rfl, rfl⟩
    rw [ha.out]
    go_wp2_with fail
    refine (mayC b _).mono ?_
    rintro e w' ⟨rfl, rfl⟩
    rw [hb.out]
    go_wp2
    go_ret2
    exact ⟨rfl, Grown.refl _⟩
  · have ha := Lib.hid hma
    have hb := Lib.hid hmb
    have hA := Lib.hid (may_in hma)
    have hB := Lib.hid (may_in hmb)
    clear hma hmb
    go_enter Try.func12, Try.ntmps12
    go_wp2_with fail
    refine (mayC a _).mono ?_
    rintro e w' ⟨rfl, rfl⟩
    rw [ha.out]
    go_wp2_with fail
    refine (mayC b _).mono ?_
    rintro e w' ⟨rfl, rfl⟩
    rw [hb.out]
    go_wp2_with fail
    refine (scaled a b 65536 _ hA.out hB.out).mono ?_
    rintro e w' ⟨v, rfl, hv, rfl⟩
    have hv' := Lib.hid hv
    clear hv
    go_wp2_with fail
    refine (answer _ _ v _ hv'.out (scE_is _ _)).mono ?_
    rintro e w' ⟨rfl, hg⟩
    have hg' := Lib.hid hg
    clear hg
    rw [scN_if]
    go_wp2
    go_ret2
    exact ⟨rfl, hg'.out⟩

set_option maxHeartbeats 800000 in
theorem rmul (a b : Int) (w : World) :
    Calls Try.prog 13 #[.int .i64 a, .int .i64 b] w fun e w' => e = .returned (.tuple #[.int .i64 (gN (may a && may b) (a * b) (65536)), .int .i64 (gE (may a && may b) (a * b) (65536))]) ∧ w = w' := by
  cases hma : may a
  · have ha := Lib.hid hma
    clear hma
    go_enter Try.func13, Try.ntmps13
    go_wp2_with fail
    refine (rmay a _).mono ?_
    rintro e w' ⟨rfl, rfl⟩
    rw [ha.out]
    go_wp2
    go_ret2
    exact ⟨rfl, rfl⟩
  cases hmb : may b
  · have ha := Lib.hid hma
    have hb := Lib.hid hmb
    clear hma hmb
    go_enter Try.func13, Try.ntmps13
    go_wp2_with fail
    refine (rmay a _).mono ?_
    rintro e w' ⟨rfl, rfl⟩
    rw [ha.out]
    go_wp2_with fail
    refine (rmay b _).mono ?_
    rintro e w' ⟨rfl, rfl⟩
    rw [hb.out]
    go_wp2
    go_ret2
    exact ⟨rfl, rfl⟩
  · have ha := Lib.hid hma
    have hb := Lib.hid hmb
    have hA := Lib.hid (may_in hma)
    have hB := Lib.hid (may_in hmb)
    have ho := Lib.hid (show (65536 : Int) ≠ 0 by decide)
    clear hma hmb
    go_enter Try.func13, Try.ntmps13
    go_wp2_with fail
    refine (rmay a _).mono ?_
    rintro e w' ⟨rfl, rfl⟩
    rw [ha.out]
    go_wp2_with fail
    refine (rmay b _).mono ?_
    rintro e w' ⟨rfl, rfl⟩
    rw [hb.out]
    go_wp2_with fail
    refine (rby a b 65536 _ hA.out hB.out ho.out).mono ?_
    rintro e w' ⟨rfl, rfl⟩
    go_wp2
    go_ret2
    exact ⟨rfl, rfl⟩

set_option maxHeartbeats 800000 in
theorem divC (a b : Int) (w : World) :
    Calls Try.prog 14 #[.int .i64 a, .int .i64 b] w fun e w' => e = .returned (.tuple #[.int .i64 (gN (may a && may b) (a * 65536) (b)), .int .i64 (gE (may a && may b) (a * 65536) (b))]) ∧ Grown w w' := by
  cases hma : may a
  · have ha := Lib.hid hma
    clear hma
    go_enter Try.func14, Try.ntmps14
    go_wp2_with fail
    refine (mayC a _).mono ?_
    rintro e w' ⟨rfl, rfl⟩
    rw [ha.out]
    go_wp2
    go_ret2
    exact ⟨rfl, Grown.refl _⟩
  cases hmb : may b
  · have ha := Lib.hid hma
    have hb := Lib.hid hmb
    clear hma hmb
    go_enter Try.func14, Try.ntmps14
    go_wp2_with fail
    refine (mayC a _).mono ?_
    rintro e w' ⟨rfl, rfl⟩
    rw [ha.out]
    go_wp2_with fail
    refine (mayC b _).mono ?_
    rintro e w' ⟨rfl, rfl⟩
    rw [hb.out]
    go_wp2
    go_ret2
    exact ⟨rfl, Grown.refl _⟩
  · have ha := Lib.hid hma
    have hb := Lib.hid hmb
    have hA := Lib.hid (may_in hma)
    have hB := Lib.hid ((show In 65536 from ⟨by omega, by omega⟩))
    clear hma hmb
    go_enter Try.func14, Try.ntmps14
    go_wp2_with fail
    refine (mayC a _).mono ?_
    rintro e w' ⟨rfl, rfl⟩
    rw [ha.out]
    go_wp2_with fail
    refine (mayC b _).mono ?_
    rintro e w' ⟨rfl, rfl⟩
    rw [hb.out]
    go_wp2_with fail
    refine (scaled a 65536 b _ hA.out hB.out).mono ?_
    rintro e w' ⟨v, rfl, hv, rfl⟩
    have hv' := Lib.hid hv
    clear hv
    go_wp2_with fail
    refine (answer _ _ v _ hv'.out (scE_is _ _)).mono ?_
    rintro e w' ⟨rfl, hg⟩
    have hg' := Lib.hid hg
    clear hg
    rw [scN_if]
    go_wp2
    go_ret2
    exact ⟨rfl, hg'.out⟩

set_option maxHeartbeats 800000 in
theorem rdiv (a b : Int) (w : World) :
    Calls Try.prog 15 #[.int .i64 a, .int .i64 b] w fun e w' => e = .returned (.tuple #[.int .i64 (gN (may a && may b) (a * 65536) (b)), .int .i64 (gE (may a && may b) (a * 65536) (b))]) ∧ w = w' := by
  cases hma : may a
  · have ha := Lib.hid hma
    clear hma
    go_enter Try.func15, Try.ntmps15
    go_wp2_with fail
    refine (rmay a _).mono ?_
    rintro e w' ⟨rfl, rfl⟩
    rw [ha.out]
    go_wp2
    go_ret2
    exact ⟨rfl, rfl⟩
  cases hmb : may b
  · have ha := Lib.hid hma
    have hb := Lib.hid hmb
    clear hma hmb
    go_enter Try.func15, Try.ntmps15
    go_wp2_with fail
    refine (rmay a _).mono ?_
    rintro e w' ⟨rfl, rfl⟩
    rw [ha.out]
    go_wp2_with fail
    refine (rmay b _).mono ?_
    rintro e w' ⟨rfl, rfl⟩
    rw [hb.out]
    go_wp2
    go_ret2
    exact ⟨rfl, rfl⟩
  by_cases b0 : b = 0
  · subst b0
    have ha := Lib.hid hma
    have hm := Lib.hid (may_bounds hma)
    have hb := Lib.hid hmb
    clear hma hmb
    go_enter Try.func15, Try.ntmps15
    go_wp2_with fail
    refine (rmay a _).mono ?_
    rintro e w' ⟨rfl, rfl⟩
    rw [ha.out]
    go_wp2_with fail
    refine (rmay 0 _).mono ?_
    rintro e w' ⟨rfl, rfl⟩
    rw [hb.out]
    go_wp2
    go_ret2
    have hz : scE (a * 65536) 0 = 2 := by obtain ⟨h1, h2⟩ := hm.out; exact scE_zero (by omega) rfl
    exact ⟨ret_two (scN_bad hz (by decide)) hz, rfl⟩
  · have ha := Lib.hid hma
    have hb := Lib.hid hmb
    have hA := Lib.hid (may_in hma)
    have hB := Lib.hid ((show In 65536 from ⟨by omega, by omega⟩))
    have b0' : (b == 0) = false := by simpa using b0
    have ho := Lib.hid (show b ≠ 0 from b0)
    clear b0
    clear hma hmb
    go_enter Try.func15, Try.ntmps15
    go_wp2_with fail
    refine (rmay a _).mono ?_
    rintro e w' ⟨rfl, rfl⟩
    rw [ha.out]
    go_wp2_with fail
    refine (rmay b _).mono ?_
    rintro e w' ⟨rfl, rfl⟩
    rw [hb.out]
    go_wp2_with fail
    refine (rby a 65536 b _ hA.out hB.out ho.out).mono ?_
    rintro e w' ⟨rfl, rfl⟩
    go_wp2
    go_ret2
    exact ⟨rfl, rfl⟩

end Go.Proofs.Ytggacffkmhipaaa.Fix
