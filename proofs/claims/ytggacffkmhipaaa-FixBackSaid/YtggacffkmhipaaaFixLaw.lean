/- The walks of layer 2's laws over the contracts of Fix, FixOps, FixPart. Conditions: the arguments are int64 numbers. -/
import Derived.Test.YtggacffkmhipaaaFixPart
namespace Go.Proofs.Ytggacffkmhipaaa.Fix
open Num Go.ChangeShapes Go.WideShapes Go.ChangeAt Go.RowKit

set_option maxHeartbeats 800000 in
theorem lives (w : World) :
    Calls Try.prog 18 #[] w fun e w' => e = .returned (.bool true) ∧ Grown w w' := by
  go_enter Try.func18, Try.ntmps18
  go_wp2_with fail
  refine (ofC 3 _ ⟨by omega, by omega⟩).mono ?_
  rintro e w1 ⟨rfl, g⟩
  have g1 := Lib.hid g
  clear g
  rw [show scN (3 * 65536) 1 = 196608 by decide, show scE (3 * 65536) 1 = 0 by decide]
  go_wp2_with fail
  refine (mulC 98304 131072 _).mono ?_
  rintro e w2 ⟨rfl, g⟩
  have g2 := Lib.hid g
  clear g
  rw [show gN (may 98304 && may 131072) (98304 * 131072) 65536 = 196608 by decide, show gE (may 98304 && may 131072) (98304 * 131072) 65536 = 0 by decide]
  go_wp2_with fail
  refine (divC 65536 131072 _).mono ?_
  rintro e w3 ⟨rfl, g⟩
  have g3 := Lib.hid g
  clear g
  rw [show gN (may 65536 && may 131072) (65536 * 65536) 131072 = 32768 by decide, show gE (may 65536 && may 131072) (65536 * 65536) 131072 = 0 by decide]
  go_wp2_with fail
  refine (divC 1 0 _).mono ?_
  rintro e w4 ⟨rfl, g⟩
  have g4 := Lib.hid g
  clear g
  rw [show gN (may 1 && may 0) (1 * 65536) 0 = 0 by decide, show gE (may 1 && may 0) (1 * 65536) 0 = 2 by decide]
  go_wp2_with fail
  refine (ofC 1073741824 _ ⟨by omega, by omega⟩).mono ?_
  rintro e w5 ⟨rfl, g⟩
  have g5 := Lib.hid g
  clear g
  rw [show scN (1073741824 * 65536) 1 = 0 by decide, show scE (1073741824 * 65536) 1 = 9 by decide]
  go_wp2_with fail
  refine (partC 100 1 3 _).mono ?_
  rintro e w6 ⟨rfl, g⟩
  have g6 := Lib.hid g
  clear g
  rw [show gN (pc 100 1 3) (100 * 1) 3 = 33 by decide, show gE (pc 100 1 3) (100 * 1) 3 = 0 by decide]
  go_wp2_with fail
  refine (whole (-98304) _ ⟨by omega, by omega⟩).mono ?_
  rintro e w' ⟨rfl, rfl⟩
  rw [show Int.tdiv (-98304) 65536 = -1 by decide]
  go_wp2
  go_ret
  exact ⟨rfl, gtrans g1.out (gtrans g2.out (gtrans g3.out (gtrans g4.out (gtrans g5.out g6.out))))⟩

set_option maxHeartbeats 1600000 in
theorem reckonsLaw (a b c : Int) (ha : In a) (w : World) :
    Calls Try.prog 3 #[.int .i64 a, .int .i64 b, .int .i64 c] w fun e w' => e = .returned (.bool true) ∧ Grown w w' := by
  have ha' := Lib.hid ha
  clear ha
  go_enter Try.func3, Try.ntmps3
  go_wp2_with fail
  refine (ofC a _ ha'.out).mono ?_
  rintro e w1 ⟨rfl, g⟩
  have g1 := Lib.hid g
  clear g
  go_wp2_with fail
  refine (rof a _ ha'.out).mono ?_
  rintro e w' ⟨rfl, rfl⟩
  go_wp2_with fail
  refine (mayC a _).mono ?_
  rintro e w' ⟨rfl, rfl⟩
  go_wp2_with fail
  refine (rmay a _).mono ?_
  rintro e w' ⟨rfl, rfl⟩
  go_wp2_with fail
  refine (whole a _ ha'.out).mono ?_
  rintro e w' ⟨rfl, rfl⟩
  go_wp2_with fail
  refine (rwhole a _ ha'.out).mono ?_
  rintro e w' ⟨rfl, rfl⟩
  go_wp2_with fail
  refine (mulC a b _).mono ?_
  rintro e w2 ⟨rfl, g⟩
  have g2 := Lib.hid g
  clear g
  go_wp2_with fail
  refine (rmul a b _).mono ?_
  rintro e w' ⟨rfl, rfl⟩
  go_wp2_with fail
  refine (divC a b _).mono ?_
  rintro e w3 ⟨rfl, g⟩
  have g3 := Lib.hid g
  clear g
  go_wp2_with fail
  refine (rdiv a b _).mono ?_
  rintro e w' ⟨rfl, rfl⟩
  go_wp2_with fail
  refine (partC a b c _).mono ?_
  rintro e w4 ⟨rfl, g⟩
  have g4 := Lib.hid g
  clear g
  go_wp2_with fail
  refine (rpart a b c _).mono ?_
  rintro e w' ⟨rfl, rfl⟩
  go_wp2_with fail
  refine (lives _).mono ?_
  rintro e w5 ⟨rfl, g⟩
  have g5 := Lib.hid g
  clear g
  go_wp2
  go_ret
  exact ⟨rfl, gtrans g1.out (gtrans g2.out (gtrans g3.out (gtrans g4.out g5.out)))⟩

theorem sc_of {p q : Int} (o : Int) (h : p.tdiv o = q) (ho : o ≠ 0) (h1 : -9223372036854775808 ≤ p) (h2 : p ≤ 9223372036854775807) (h3 : -1099511627776 ≤ q) (h4 : q ≤ 1099511627776) : scN p o = q ∧ scE p o = 0 := by
  have hm : may (p.tdiv o) = true := by rw [h]; exact (may_t h3 h4).symm
  have hE := scE_fine (p := p) (o := o) (by omega) ho hm
  exact ⟨by rw [scN_fine hE, h], hE⟩

set_option maxHeartbeats 1600000 in
theorem backLaw' (n m : Int) (hm : m = n.tmod 16777216) (h1 : -16777215 ≤ m) (h2 : m ≤ 16777215) (w : World) :
    Calls Try.prog 4 #[.int .i64 n] w fun e w' => e = .returned (.bool true) ∧ Grown w w' := by
  have q1 := sc_of (p := m * 65536) (q := m * 65536) 1 (Int.tdiv_one _) (by decide) (by omega) (by omega) (by omega) (by omega)
  have q2 := sc_of (p := m * 65536 * 65536) (q := m * 65536) 65536 (Int.mul_tdiv_cancel _ (by decide)) (by decide) (by omega) (by omega) (by omega) (by omega)
  have hd : (m * 32768).tdiv 65536 = m.tdiv 2 := by
    have e := Int.mul_tdiv_mul_of_pos_left m 2 (show (0 : Int) < 32768 by decide)
    exact e
  have hdb : -m.natAbs ≤ m.tdiv 2 ∧ m.tdiv 2 ≤ m.natAbs := by have := tdiv_abs_le m 2; omega
  have q3 := sc_of (p := m * 32768) (q := m.tdiv 2) 65536 hd (by decide) (by omega) (by omega) (by omega) (by omega)
  have q4 := sc_of (p := m * 1) (q := m.tdiv 2) 2 (by rw [Int.mul_one]) (by decide) (by omega) (by omega) (by omega) (by omega)
  have c1 : may (m * 65536) = true := (may_t (by omega) (by omega)).symm
  have c2 : may m = true := (may_t (by omega) (by omega)).symm
  have q5 : (m * 65536).tdiv 65536 = m := Int.mul_tdiv_cancel _ (by decide)
  have hrm : -1 ≤ m - 2 * m.tdiv 2 ∧ m - 2 * m.tdiv 2 ≤ 1 := by
    have e1 := Int.tdiv_mul_add_tmod m 2
    have e2 : (m.tmod 2).natAbs < 2 := by rw [Int.natAbs_tmod]; exact Nat.mod_lt _ (by decide)
    omega
  have f1 := Lib.hid q1
  have f2 := Lib.hid (show gN (may (m * 65536) && may 65536) (m * 65536 * 65536) 65536 = m * 65536 ∧ gE (may (m * 65536) && may 65536) (m * 65536 * 65536) 65536 = 0 by rw [c1]; exact q2)
  have f3 := Lib.hid (show gN (may m && may 32768) (m * 32768) 65536 = m.tdiv 2 ∧ gE (may m && may 32768) (m * 32768) 65536 = 0 by rw [c2]; exact q3)
  have f4 := Lib.hid (show gN (pc m 1 2) (m * 1) 2 = m.tdiv 2 ∧ gE (pc m 1 2) (m * 1) 2 = 0 by unfold pc; rw [c2]; exact q4)
  have f5 := Lib.hid q5
  have hi := Lib.hid (show In m from ⟨by omega, by omega⟩)
  have hi2 := Lib.hid (show In (m * 65536) from ⟨by omega, by omega⟩)
  have hr := Lib.hid hrm
  have hw := Lib.hid (show wrap64 (2 * m.tdiv 2) = 2 * m.tdiv 2 ∧ wrap64 (m - 2 * m.tdiv 2) = m - 2 * m.tdiv 2 from ⟨wrap_in _ (by omega), wrap_in _ (by omega)⟩)
  have hm' := Lib.hid hm
  have hl1 := Lib.hid h1
  have hl2 := Lib.hid h2
  clear q1 q2 hd hdb q3 q4 c1 c2 q5 hrm hm h1 h2
  go_enter Try.func4, Try.ntmps4
  go_wp2_with fail
  rw [← hm'.out]
  refine (ofC m _ hi.out).mono ?_
  rintro e w1 ⟨rfl, g⟩
  have g1 := Lib.hid g
  clear g
  rw [f1.out.1, f1.out.2]
  go_wp2_with fail
  refine (mulC (m * 65536) 65536 _).mono ?_
  rintro e w2 ⟨rfl, g⟩
  have g2 := Lib.hid g
  clear g
  rw [f2.out.1, f2.out.2]
  go_wp2_with fail
  refine (divC (m * 65536) 65536 _).mono ?_
  rintro e w3 ⟨rfl, g⟩
  have g3 := Lib.hid g
  clear g
  rw [f2.out.1, f2.out.2]
  go_wp2_with fail
  refine (mulC m 32768 _).mono ?_
  rintro e w4 ⟨rfl, g⟩
  have g4 := Lib.hid g
  clear g
  rw [f3.out.1, f3.out.2]
  go_wp2_with fail
  refine (partC m 1 2 _).mono ?_
  rintro e w5 ⟨rfl, g⟩
  have g5 := Lib.hid g
  clear g
  rw [f4.out.1, f4.out.2]
  go_wp2_with fail
  refine (whole (m * 65536) _ hi2.out).mono ?_
  rintro e w' ⟨rfl, rfl⟩
  rw [f5.out]
  have r1 := hr.out.1
  have r2 := hr.out.2
  have b1 := hl1.out
  have b2 := hl2.out
  clear f1 f2 f3 f4 f5 hw hr hm'
  generalize m.tdiv 2 = d at *
  go_wp2_with fail
  refine (lives _).mono ?_
  rintro e w6 ⟨rfl, g⟩
  have g6 := Lib.hid g
  clear g
  go_wp2
  go_ret
  exact ⟨rfl, gtrans g1.out (gtrans g2.out (gtrans g3.out (gtrans g4.out (gtrans g5.out g6.out))))⟩

theorem backLaw (n : Int) (w : World) :
    Calls Try.prog 4 #[.int .i64 n] w fun e w' => e = .returned (.bool true) ∧ Grown w w' := by
  have h : (n.tmod 16777216).natAbs < 16777216 := by rw [Int.natAbs_tmod]; exact Nat.mod_lt _ (by decide)
  exact backLaw' n _ rfl (by omega) (by omega) w

theorem may_neg (a : Int) : may (-a) = may a := by
  unfold may; rw [decide_eq_decide]; omega

theorem scE_big {p : Int} (h : p ≤ -9223372036854775808 ∨ 9223372036854775807 < p) : scE p 65536 = 9 := by
  by_cases e : p = -9223372036854775808
  · subst e; decide
  · exact scE_over (by omega)

theorem sc_neg (p : Int) : scN (-p) 65536 = -scN p 65536 ∧ scE (-p) 65536 = scE p 65536 := by
  by_cases h : -9223372036854775808 < p ∧ p ≤ 9223372036854775807
  · have hE : scE (-p) 65536 = scE p 65536 := by
      cases hm : may (p.tdiv 65536)
      · rw [scE_beyond (by omega) (by decide) hm, scE_beyond (by omega) (by decide) (by rw [Int.neg_tdiv, may_neg]; exact hm)]
      · rw [scE_fine (by omega) (by decide) hm, scE_fine (by omega) (by decide) (by rw [Int.neg_tdiv, may_neg]; exact hm)]
    refine ⟨?_, hE⟩
    by_cases h0 : scE p 65536 = 0
    · rw [scN_fine h0, scN_fine (by rw [hE]; exact h0), Int.neg_tdiv]
    · rw [scN_bad rfl h0, scN_bad hE h0]; rfl
  · have h1 := scE_big (p := p) (by omega)
    have h2 := scE_big (p := -p) (by omega)
    rw [h1, h2, scN_bad h1 (by decide), scN_bad h2 (by decide)]
    exact ⟨rfl, rfl⟩

theorem g_neg (a b : Int) : gN (may (-a) && may b) (-a * b) 65536 = -gN (may a && may b) (a * b) 65536 ∧ gE (may (-a) && may b) (-a * b) 65536 = gE (may a && may b) (a * b) 65536 := by
  rw [may_neg, Int.neg_mul]
  cases hc : may a && may b
  · rw [gN_f _ _ rfl, gN_f _ _ rfl, gE_f _ _ rfl, gE_f _ _ rfl]; exact ⟨rfl, rfl⟩
  · rw [gN_t _ _ rfl, gN_t _ _ rfl, gE_t _ _ rfl, gE_t _ _ rfl]; exact sc_neg _

theorem g_swap (a b : Int) : gN (may b && may a) (b * a) 65536 = gN (may a && may b) (a * b) 65536 ∧ gE (may b && may a) (b * a) 65536 = gE (may a && may b) (a * b) 65536 := by
  rw [Bool.and_comm, Int.mul_comm]; exact ⟨rfl, rfl⟩

theorem g_may (c : Bool) (p : Int) : may (gN c p 65536) = true := by
  cases c
  · rfl
  · rw [gN_t _ _ rfl]
    by_cases h : scE p 65536 = 0
    · rw [scN_fine h]
      cases hm : may (p.tdiv 65536)
      · exfalso
        unfold scE at h
        rw [hm] at h
        revert h
        split
        · decide
        · split
          · decide
          · decide
      · rfl
    · rw [scN_bad rfl h]; rfl

set_option maxHeartbeats 1600000 in
theorem alikeLaw (a b : Int) (ha : In a) (w : World) :
    Calls Try.prog 5 #[.int .i64 a, .int .i64 b] w fun e w' => e = .returned (.bool true) ∧ Grown w w' := by
  by_cases am : a = -9223372036854775808
  · subst am
    clear ha
    have f1 := Lib.hid (show gE (may (-9223372036854775808) && may b) (-9223372036854775808 * b) 65536 = 2 from gE_f _ _ rfl)
    go_enter Try.func5, Try.ntmps5
    go_wp2_with fail
    refine (mulC _ b _).mono ?_
    rintro e w1 ⟨rfl, g⟩
    have g1 := Lib.hid g
    clear g
    rw [f1.out]
    go_wp2_with fail
    refine (mulC b _ _).mono ?_
    rintro e w2 ⟨rfl, g⟩
    have g2 := Lib.hid g
    clear g
    go_wp2_with fail
    refine (mulC _ b _).mono ?_
    rintro e w3 ⟨rfl, g⟩
    have g3 := Lib.hid g
    clear g
    go_wp2_with fail
    refine (lives _).mono ?_
    rintro e w4 ⟨rfl, g⟩
    have g4 := Lib.hid g
    clear g
    go_wp2
    go_ret
    exact ⟨rfl, gtrans g1.out (gtrans g2.out (gtrans g3.out g4.out))⟩
  · obtain ⟨k1, k2⟩ := ha
    have k1' : -9223372036854775808 < a := by omega
    have am' : (a == -9223372036854775808) = false := by simpa using am
    have f2 := Lib.hid (g_swap a b)
    have f3 := Lib.hid (g_neg a b)
    have f4 := Lib.hid (g_may (may a && may b) (a * b))
    have hb := Lib.hid (may_bounds f4.out)
    generalize hN : gN (may a && may b) (a * b) 65536 = N at *
    generalize hE : gE (may a && may b) (a * b) 65536 = E at *
    have hN' := Lib.hid hN
    have hE' := Lib.hid hE
    clear hN hE k1 am
    have e0 : (E = 0 ∧ True) ∨ ((E != 0) = true ∧ True) := by
      by_cases h : E = 0
      · exact Or.inl ⟨h, trivial⟩
      · exact Or.inr ⟨by simpa using h, trivial⟩
    rcases e0 with ⟨rfl, -⟩ | ⟨e0, -⟩
    all_goals
      go_enter Try.func5, Try.ntmps5
      go_wp2_with fail
      refine (mulC a b _).mono ?_
      rintro e w1 ⟨rfl, g⟩
      have g1 := Lib.hid g
      clear g
      rw [hN'.out, hE'.out]
      go_wp2_with fail
      refine (mulC b a _).mono ?_
      rintro e w2 ⟨rfl, g⟩
      have g2 := Lib.hid g
      clear g
      rw [f2.out.1, f2.out.2]
      go_wp2_with fail
      refine (mulC (-a) b _).mono ?_
      rintro e w3 ⟨rfl, g⟩
      have g3 := Lib.hid g
      clear g
      rw [f3.out.1, f3.out.2]
      have b1 := hb.out.1
      have b2 := hb.out.2
      go_wp2_with fail
    · refine (mayC N _).mono ?_
      rintro e w' ⟨rfl, rfl⟩
      rw [f4.out]
      go_wp2_with fail
      refine (lives _).mono ?_
      rintro e w4 ⟨rfl, g⟩
      have g4 := Lib.hid g
      clear g
      go_wp2
      go_ret
      exact ⟨rfl, gtrans g1.out (gtrans g2.out (gtrans g3.out g4.out))⟩
    · refine (lives _).mono ?_
      rintro e w4 ⟨rfl, g⟩
      have g4 := Lib.hid g
      clear g
      go_wp2
      go_ret
      exact ⟨rfl, gtrans g1.out (gtrans g2.out (gtrans g3.out g4.out))⟩

end Go.Proofs.Ytggacffkmhipaaa.Fix
