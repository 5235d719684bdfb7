/- The walk of the law FieldBack: it returns true and turns nothing that was there. Conditions: the marks are a slice of bools. -/
import Derived.Test.YtdonplbpjjjohaaFieldLaw
namespace Go.Proofs.Ytdonplbpjjjohaa.Field
open Go.ChangeShapes Go.WideShapes Go.ChangeAt Go.RowKit Num Word

theorem back_bit (L : Nat → Bool) (n k : Nat) : bit (tm L 0 n) k = (decide (k < n) && L k) := by
  by_cases h : k < n
  · rw [bit_tm L n k h, decide_eq_true h, Bool.true_and]
  · rw [bit_over L n k (by omega), decide_eq_false h, Bool.false_and]
theorem tmod_in (n : Int) : -300000 < n.tmod 300000 ∧ n.tmod 300000 < 300000 := by
  have h1 := Int.tmod_lt_of_pos n (b := 300000) (by decide)
  have h2 := Int.lt_tmod_of_pos n (b := 300000) (by decide)
  omega

set_option maxHeartbeats 4000000 in
set_option maxRecDepth 100000 in
theorem back_digits (x : Int) (A : Option Addr) (n c : Nat) (L : Nat → Bool) (w : World) (hn : n ≤ maxLen) (hP : Bls w w.heap.size A n L) (h0 : 0 ≤ x.tmod 300000) (h1 : x.tmod 300000 ≤ 79999) :
    Calls Try.prog 4 #[.int .i64 x, .slice A n c] w fun e w' => e = .returned (.bool true) ∧ Below w.heap.size w w' := by
  have HN := Lib.hid hn
  unfold maxLen at hn
  have HP := Lib.hid hP
  clear hP
  go_enter Try.func4, Try.ntmps4
  go_wp2_with fail
  generalize x.tmod 300000 = m at *
  have N := Lib.hid (pn_yes (n := m) ⟨by omega, by omega⟩)
  have M := Lib.hid (nm_pn (n := m) ⟨by omega, by omega⟩)
  refine (putNumber m _).mono ?_
  rintro e w' ⟨rfl, rfl⟩
  rw [N.out.1, N.out.2]
  go_wp2_with fail
  refine (number (m % 524288) (by omega) (by omega) _).mono ?_
  rintro e w' ⟨rfl, rfl⟩
  rw [M.out.1, M.out.2]
  clear N M
  go_wp2_with fail
  have D := Lib.hid (pd_yes (n := m) ⟨by omega, by omega⟩)
  have I := pd5_in (n := m) ⟨by omega, by omega⟩
  have G := Lib.hid (pd5_good (n := m) ⟨by omega, by omega⟩)
  have R := Lib.hid (dg5_pd5 (n := m) ⟨by omega, by omega⟩)
  refine (putDigits m _).mono ?_
  rintro e w' ⟨rfl, rfl⟩
  rw [D.out.1, D.out.2]
  go_wp2_with fail
  refine (digits (pd5 m) I.1 (by omega) _).mono ?_
  rintro e w' ⟨rfl, rfl⟩
  rw [(dg_yes I.2 G.out).1, (dg_yes I.2 G.out).2, R.out]
  clear D G R
  have HT := Lib.hid (back_bit L n)
  by_cases h19 : n ≤ 19
  · have HI := tm_19 L 0 h19
    have HM := Lib.hid (pm_yes (L := L) h19)
    go_wp2_with fail
    refine (putMarks A n c L _ HN.out HP.out).mono ?_
    rintro e w' ⟨rfl, rfl⟩
    rw [HM.out.1, HM.out.2]
    generalize tm L 0 n = y at *
    go_wp2_with fail
    refine (marks y HI.1 (by omega) _).mono ?_
    rintro e w1 ⟨A1, c1, rfl, b1, p1⟩
    rw [(mk_yes HI.2).1] at p1 ⊢
    rw [(mk_yes HI.2).2]
    have P1 := Lib.hid p1
    have B1 := Lib.hid b1
    clear b1 p1
    go_wp2
    go_loopw [11] (fun i wr => ∃ k : Nat, k ≤ 19 ∧ i = .int .i64 k ∧ Below w1.heap.size w1 wr) (fun i _ => 19 - (intOf i).toNat)
    case atStart => exact ⟨0, Nat.zero_le _, rfl, Below.refl _ _⟩
    case round =>
      obtain ⟨k, hk, rfl, hbl⟩ := hrel
      have HB := Lib.hid hbl
      clear hbl
      by_cases hlt : k < 19
      · obtain ⟨b1, o1, rfl, hb1, hc1⟩ := P1.out (by omega)
        have e1 := (HB.out.cell (by exact hb1)).trans (hc1 k hlt)
        clear hc1
        by_cases hkn : k < n
        · have hd : decide (k < n) = true := decide_eq_true hkn
          obtain ⟨b2, o2, rfl, hb2, hc2⟩ := (HP.out.next B1.out) (by omega)
          have e2 := (HB.out.cell (by exact hb2)).trans (hc2 k hkn)
          clear hc2
          rw [HT.out k, hd, Bool.true_and] at e1
          generalize L k = l at e1 e2
          go_wp2
          go_quiet (fail)
          go_wp2
          go_roundw
          case rel => exact ⟨k + 1, by omega, by go_num, below_drewN HB.out _⟩
          case measure => simp [intOf]; omega
        · have hd : decide (k < n) = false := decide_eq_false hkn
          rw [HT.out k, hd, Bool.false_and] at e1
          go_wp2
          go_quiet (fail)
          go_wp2
          go_roundw
          case rel => exact ⟨k + 1, by omega, by go_num, below_drewN HB.out _⟩
          case measure => simp [intOf]; omega
      · obtain rfl : k = 19 := by omega
        go_wp2_with fail
        refine (lives _).mono ?_
        rintro e w2 ⟨rfl, b2⟩
        have B2 := Lib.hid (bthen (bthen B1.out HB.out) b2)
        clear b2
        go_wp2
        go_ret
        exact ⟨rfl, B2.out⟩
  · have HM := Lib.hid (pm_no (L := L) h19)
    go_wp2_with fail
    refine (putMarks A n c L _ HN.out HP.out).mono ?_
    rintro e w' ⟨rfl, rfl⟩
    rw [HM.out.1, HM.out.2]
    go_wp2_with fail
    refine (lives _).mono ?_
    rintro e w2 ⟨rfl, b2⟩
    have B2 := Lib.hid b2
    clear b2
    go_wp2
    go_ret
    exact ⟨rfl, B2.out⟩

set_option maxHeartbeats 4000000 in
set_option maxRecDepth 100000 in
theorem back_high (x : Int) (A : Option Addr) (n c : Nat) (L : Nat → Bool) (w : World) (hn : n ≤ maxLen) (hP : Bls w w.heap.size A n L) (h0 : 79999 < x.tmod 300000) (h1 : x.tmod 300000 ≤ 262143) :
    Calls Try.prog 4 #[.int .i64 x, .slice A n c] w fun e w' => e = .returned (.bool true) ∧ Below w.heap.size w w' := by
  have HN := Lib.hid hn
  unfold maxLen at hn
  have HP := Lib.hid hP
  clear hP
  go_enter Try.func4, Try.ntmps4
  go_wp2_with fail
  generalize x.tmod 300000 = m at *
  have N := Lib.hid (pn_yes (n := m) ⟨by omega, by omega⟩)
  have M := Lib.hid (nm_pn (n := m) ⟨by omega, by omega⟩)
  refine (putNumber m _).mono ?_
  rintro e w' ⟨rfl, rfl⟩
  rw [N.out.1, N.out.2]
  go_wp2_with fail
  refine (number (m % 524288) (by omega) (by omega) _).mono ?_
  rintro e w' ⟨rfl, rfl⟩
  rw [M.out.1, M.out.2]
  clear N M
  go_wp2_with fail
  have D := Lib.hid (pd_no (n := m) (by omega))
  refine (putDigits m _).mono ?_
  rintro e w' ⟨rfl, rfl⟩
  rw [D.out.1, D.out.2]
  go_wp2_with fail
  refine (digits 0 (by omega) (by omega) _).mono ?_
  rintro e w' ⟨rfl, rfl⟩
  clear D
  have HT := Lib.hid (back_bit L n)
  by_cases h19 : n ≤ 19
  · have HI := tm_19 L 0 h19
    have HM := Lib.hid (pm_yes (L := L) h19)
    go_wp2_with fail
    refine (putMarks A n c L _ HN.out HP.out).mono ?_
    rintro e w' ⟨rfl, rfl⟩
    rw [HM.out.1, HM.out.2]
    generalize tm L 0 n = y at *
    go_wp2_with fail
    refine (marks y HI.1 (by omega) _).mono ?_
    rintro e w1 ⟨A1, c1, rfl, b1, p1⟩
    rw [(mk_yes HI.2).1] at p1 ⊢
    rw [(mk_yes HI.2).2]
    have P1 := Lib.hid p1
    have B1 := Lib.hid b1
    clear b1 p1
    go_wp2
    go_loopw [11] (fun i wr => ∃ k : Nat, k ≤ 19 ∧ i = .int .i64 k ∧ Below w1.heap.size w1 wr) (fun i _ => 19 - (intOf i).toNat)
    case atStart => exact ⟨0, Nat.zero_le _, rfl, Below.refl _ _⟩
    case round =>
      obtain ⟨k, hk, rfl, hbl⟩ := hrel
      have HB := Lib.hid hbl
      clear hbl
      by_cases hlt : k < 19
      · obtain ⟨b1, o1, rfl, hb1, hc1⟩ := P1.out (by omega)
        have e1 := (HB.out.cell (by exact hb1)).trans (hc1 k hlt)
        clear hc1
        by_cases hkn : k < n
        · have hd : decide (k < n) = true := decide_eq_true hkn
          obtain ⟨b2, o2, rfl, hb2, hc2⟩ := (HP.out.next B1.out) (by omega)
          have e2 := (HB.out.cell (by exact hb2)).trans (hc2 k hkn)
          clear hc2
          rw [HT.out k, hd, Bool.true_and] at e1
          generalize L k = l at e1 e2
          go_wp2
          go_quiet (fail)
          go_wp2
          go_roundw
          case rel => exact ⟨k + 1, by omega, by go_num, below_drewN HB.out _⟩
          case measure => simp [intOf]; omega
        · have hd : decide (k < n) = false := decide_eq_false hkn
          rw [HT.out k, hd, Bool.false_and] at e1
          go_wp2
          go_quiet (fail)
          go_wp2
          go_roundw
          case rel => exact ⟨k + 1, by omega, by go_num, below_drewN HB.out _⟩
          case measure => simp [intOf]; omega
      · obtain rfl : k = 19 := by omega
        go_wp2_with fail
        refine (lives _).mono ?_
        rintro e w2 ⟨rfl, b2⟩
        have B2 := Lib.hid (bthen (bthen B1.out HB.out) b2)
        clear b2
        go_wp2
        go_ret
        exact ⟨rfl, B2.out⟩
  · have HM := Lib.hid (pm_no (L := L) h19)
    go_wp2_with fail
    refine (putMarks A n c L _ HN.out HP.out).mono ?_
    rintro e w' ⟨rfl, rfl⟩
    rw [HM.out.1, HM.out.2]
    go_wp2_with fail
    refine (lives _).mono ?_
    rintro e w2 ⟨rfl, b2⟩
    have B2 := Lib.hid b2
    clear b2
    go_wp2
    go_ret
    exact ⟨rfl, B2.out⟩

set_option maxHeartbeats 4000000 in
set_option maxRecDepth 100000 in
theorem back_low (x : Int) (A : Option Addr) (n c : Nat) (L : Nat → Bool) (w : World) (hn : n ≤ maxLen) (hP : Bls w w.heap.size A n L) (h0 : -262144 ≤ x.tmod 300000) (h1 : x.tmod 300000 < 0) :
    Calls Try.prog 4 #[.int .i64 x, .slice A n c] w fun e w' => e = .returned (.bool true) ∧ Below w.heap.size w w' := by
  have HN := Lib.hid hn
  unfold maxLen at hn
  have HP := Lib.hid hP
  clear hP
  go_enter Try.func4, Try.ntmps4
  go_wp2_with fail
  generalize x.tmod 300000 = m at *
  have N := Lib.hid (pn_yes (n := m) ⟨by omega, by omega⟩)
  have M := Lib.hid (nm_pn (n := m) ⟨by omega, by omega⟩)
  refine (putNumber m _).mono ?_
  rintro e w' ⟨rfl, rfl⟩
  rw [N.out.1, N.out.2]
  go_wp2_with fail
  refine (number (m % 524288) (by omega) (by omega) _).mono ?_
  rintro e w' ⟨rfl, rfl⟩
  rw [M.out.1, M.out.2]
  clear N M
  go_wp2_with fail
  have D := Lib.hid (pd_no (n := m) (by omega))
  refine (putDigits m _).mono ?_
  rintro e w' ⟨rfl, rfl⟩
  rw [D.out.1, D.out.2]
  go_wp2_with fail
  refine (digits 0 (by omega) (by omega) _).mono ?_
  rintro e w' ⟨rfl, rfl⟩
  clear D
  have HT := Lib.hid (back_bit L n)
  by_cases h19 : n ≤ 19
  · have HI := tm_19 L 0 h19
    have HM := Lib.hid (pm_yes (L := L) h19)
    go_wp2_with fail
    refine (putMarks A n c L _ HN.out HP.out).mono ?_
    rintro e w' ⟨rfl, rfl⟩
    rw [HM.out.1, HM.out.2]
    generalize tm L 0 n = y at *
    go_wp2_with fail
    refine (marks y HI.1 (by omega) _).mono ?_
    rintro e w1 ⟨A1, c1, rfl, b1, p1⟩
    rw [(mk_yes HI.2).1] at p1 ⊢
    rw [(mk_yes HI.2).2]
    have P1 := Lib.hid p1
    have B1 := Lib.hid b1
    clear b1 p1
    go_wp2
    go_loopw [11] (fun i wr => ∃ k : Nat, k ≤ 19 ∧ i = .int .i64 k ∧ Below w1.heap.size w1 wr) (fun i _ => 19 - (intOf i).toNat)
    case atStart => exact ⟨0, Nat.zero_le _, rfl, Below.refl _ _⟩
    case round =>
      obtain ⟨k, hk, rfl, hbl⟩ := hrel
      have HB := Lib.hid hbl
      clear hbl
      by_cases hlt : k < 19
      · obtain ⟨b1, o1, rfl, hb1, hc1⟩ := P1.out (by omega)
        have e1 := (HB.out.cell (by exact hb1)).trans (hc1 k hlt)
        clear hc1
        by_cases hkn : k < n
        · have hd : decide (k < n) = true := decide_eq_true hkn
          obtain ⟨b2, o2, rfl, hb2, hc2⟩ := (HP.out.next B1.out) (by omega)
          have e2 := (HB.out.cell (by exact hb2)).trans (hc2 k hkn)
          clear hc2
          rw [HT.out k, hd, Bool.true_and] at e1
          generalize L k = l at e1 e2
          go_wp2
          go_quiet (fail)
          go_wp2
          go_roundw
          case rel => exact ⟨k + 1, by omega, by go_num, below_drewN HB.out _⟩
          case measure => simp [intOf]; omega
        · have hd : decide (k < n) = false := decide_eq_false hkn
          rw [HT.out k, hd, Bool.false_and] at e1
          go_wp2
          go_quiet (fail)
          go_wp2
          go_roundw
          case rel => exact ⟨k + 1, by omega, by go_num, below_drewN HB.out _⟩
          case measure => simp [intOf]; omega
      · obtain rfl : k = 19 := by omega
        go_wp2_with fail
        refine (lives _).mono ?_
        rintro e w2 ⟨rfl, b2⟩
        have B2 := Lib.hid (bthen (bthen B1.out HB.out) b2)
        clear b2
        go_wp2
        go_ret
        exact ⟨rfl, B2.out⟩
  · have HM := Lib.hid (pm_no (L := L) h19)
    go_wp2_with fail
    refine (putMarks A n c L _ HN.out HP.out).mono ?_
    rintro e w' ⟨rfl, rfl⟩
    rw [HM.out.1, HM.out.2]
    go_wp2_with fail
    refine (lives _).mono ?_
    rintro e w2 ⟨rfl, b2⟩
    have B2 := Lib.hid b2
    clear b2
    go_wp2
    go_ret
    exact ⟨rfl, B2.out⟩

set_option maxHeartbeats 4000000 in
set_option maxRecDepth 100000 in
theorem back_over (x : Int) (A : Option Addr) (n c : Nat) (L : Nat → Bool) (w : World) (hn : n ≤ maxLen) (hP : Bls w w.heap.size A n L) (h0 : 262143 < x.tmod 300000) (h1 : x.tmod 300000 < 300000) :
    Calls Try.prog 4 #[.int .i64 x, .slice A n c] w fun e w' => e = .returned (.bool true) ∧ Below w.heap.size w w' := by
  have HN := Lib.hid hn
  unfold maxLen at hn
  have HP := Lib.hid hP
  clear hP
  go_enter Try.func4, Try.ntmps4
  go_wp2_with fail
  generalize x.tmod 300000 = m at *
  have N := Lib.hid (pn_no (n := m) (by omega))
  refine (putNumber m _).mono ?_
  rintro e w' ⟨rfl, rfl⟩
  rw [N.out.1, N.out.2]
  go_wp2_with fail
  refine (number 0 (by omega) (by omega) _).mono ?_
  rintro e w' ⟨rfl, rfl⟩
  clear N
  go_wp2_with fail
  have D := Lib.hid (pd_no (n := m) (by omega))
  refine (putDigits m _).mono ?_
  rintro e w' ⟨rfl, rfl⟩
  rw [D.out.1, D.out.2]
  go_wp2_with fail
  refine (digits 0 (by omega) (by omega) _).mono ?_
  rintro e w' ⟨rfl, rfl⟩
  clear D
  have HT := Lib.hid (back_bit L n)
  by_cases h19 : n ≤ 19
  · have HI := tm_19 L 0 h19
    have HM := Lib.hid (pm_yes (L := L) h19)
    go_wp2_with fail
    refine (putMarks A n c L _ HN.out HP.out).mono ?_
    rintro e w' ⟨rfl, rfl⟩
    rw [HM.out.1, HM.out.2]
    generalize tm L 0 n = y at *
    go_wp2_with fail
    refine (marks y HI.1 (by omega) _).mono ?_
    rintro e w1 ⟨A1, c1, rfl, b1, p1⟩
    rw [(mk_yes HI.2).1] at p1 ⊢
    rw [(mk_yes HI.2).2]
    have P1 := Lib.hid p1
    have B1 := Lib.hid b1
    clear b1 p1
    go_wp2
    go_loopw [11] (fun i wr => ∃ k : Nat, k ≤ 19 ∧ i = .int .i64 k ∧ Below w1.heap.size w1 wr) (fun i _ => 19 - (intOf i).toNat)
    case atStart => exact ⟨0, Nat.zero_le _, rfl, Below.refl _ _⟩
    case round =>
      obtain ⟨k, hk, rfl, hbl⟩ := hrel
      have HB := Lib.hid hbl
      clear hbl
      by_cases hlt : k < 19
      · obtain ⟨b1, o1, rfl, hb1, hc1⟩ := P1.out (by omega)
        have e1 := (HB.out.cell (by exact hb1)).trans (hc1 k hlt)
        clear hc1
        by_cases hkn : k < n
        · have hd : decide (k < n) = true := decide_eq_true hkn
          obtain ⟨b2, o2, rfl, hb2, hc2⟩ := (HP.out.next B1.out) (by omega)
          have e2 := (HB.out.cell (by exact hb2)).trans (hc2 k hkn)
          clear hc2
          rw [HT.out k, hd, Bool.true_and] at e1
          generalize L k = l at e1 e2
          go_wp2
          go_quiet (fail)
          go_wp2
          go_roundw
          case rel => exact ⟨k + 1, by omega, by go_num, below_drewN HB.out _⟩
          case measure => simp [intOf]; omega
        · have hd : decide (k < n) = false := decide_eq_false hkn
          rw [HT.out k, hd, Bool.false_and] at e1
          go_wp2
          go_quiet (fail)
          go_wp2
          go_roundw
          case rel => exact ⟨k + 1, by omega, by go_num, below_drewN HB.out _⟩
          case measure => simp [intOf]; omega
      · obtain rfl : k = 19 := by omega
        go_wp2_with fail
        refine (lives _).mono ?_
        rintro e w2 ⟨rfl, b2⟩
        have B2 := Lib.hid (bthen (bthen B1.out HB.out) b2)
        clear b2
        go_wp2
        go_ret
        exact ⟨rfl, B2.out⟩
  · have HM := Lib.hid (pm_no (L := L) h19)
    go_wp2_with fail
    refine (putMarks A n c L _ HN.out HP.out).mono ?_
    rintro e w' ⟨rfl, rfl⟩
    rw [HM.out.1, HM.out.2]
    go_wp2_with fail
    refine (lives _).mono ?_
    rintro e w2 ⟨rfl, b2⟩
    have B2 := Lib.hid b2
    clear b2
    go_wp2
    go_ret
    exact ⟨rfl, B2.out⟩

set_option maxHeartbeats 4000000 in
set_option maxRecDepth 100000 in
theorem back_under (x : Int) (A : Option Addr) (n c : Nat) (L : Nat → Bool) (w : World) (hn : n ≤ maxLen) (hP : Bls w w.heap.size A n L) (h0 : -300000 < x.tmod 300000) (h1 : x.tmod 300000 < -262144) :
    Calls Try.prog 4 #[.int .i64 x, .slice A n c] w fun e w' => e = .returned (.bool true) ∧ Below w.heap.size w w' := by
  have HN := Lib.hid hn
  unfold maxLen at hn
  have HP := Lib.hid hP
  clear hP
  go_enter Try.func4, Try.ntmps4
  go_wp2_with fail
  generalize x.tmod 300000 = m at *
  have N := Lib.hid (pn_no (n := m) (by omega))
  refine (putNumber m _).mono ?_
  rintro e w' ⟨rfl, rfl⟩
  rw [N.out.1, N.out.2]
  go_wp2_with fail
  refine (number 0 (by omega) (by omega) _).mono ?_
  rintro e w' ⟨rfl, rfl⟩
  clear N
  go_wp2_with fail
  have D := Lib.hid (pd_no (n := m) (by omega))
  refine (putDigits m _).mono ?_
  rintro e w' ⟨rfl, rfl⟩
  rw [D.out.1, D.out.2]
  go_wp2_with fail
  refine (digits 0 (by omega) (by omega) _).mono ?_
  rintro e w' ⟨rfl, rfl⟩
  clear D
  have HT := Lib.hid (back_bit L n)
  by_cases h19 : n ≤ 19
  · have HI := tm_19 L 0 h19
    have HM := Lib.hid (pm_yes (L := L) h19)
    go_wp2_with fail
    refine (putMarks A n c L _ HN.out HP.out).mono ?_
    rintro e w' ⟨rfl, rfl⟩
    rw [HM.out.1, HM.out.2]
    generalize tm L 0 n = y at *
    go_wp2_with fail
    refine (marks y HI.1 (by omega) _).mono ?_
    rintro e w1 ⟨A1, c1, rfl, b1, p1⟩
    rw [(mk_yes HI.2).1] at p1 ⊢
    rw [(mk_yes HI.2).2]
    have P1 := Lib.hid p1
    have B1 := Lib.hid b1
    clear b1 p1
    go_wp2
    go_loopw [11] (fun i wr => ∃ k : Nat, k ≤ 19 ∧ i = .int .i64 k ∧ Below w1.heap.size w1 wr) (fun i _ => 19 - (intOf i).toNat)
    case atStart => exact ⟨0, Nat.zero_le _, rfl, Below.refl _ _⟩
    case round =>
      obtain ⟨k, hk, rfl, hbl⟩ := hrel
      have HB := Lib.hid hbl
      clear hbl
      by_cases hlt : k < 19
      · obtain ⟨b1, o1, rfl, hb1, hc1⟩ := P1.out (by omega)
        have e1 := (HB.out.cell (by exact hb1)).trans (hc1 k hlt)
        clear hc1
        by_cases hkn : k < n
        · have hd : decide (k < n) = true := decide_eq_true hkn
          obtain ⟨b2, o2, rfl, hb2, hc2⟩ := (HP.out.next B1.out) (by omega)
          have e2 := (HB.out.cell (by exact hb2)).trans (hc2 k hkn)
          clear hc2
          rw [HT.out k, hd, Bool.true_and] at e1
          generalize L k = l at e1 e2
          go_wp2
          go_quiet (fail)
          go_wp2
          go_roundw
          case rel => exact ⟨k + 1, by omega, by go_num, below_drewN HB.out _⟩
          case measure => simp [intOf]; omega
        · have hd : decide (k < n) = false := decide_eq_false hkn
          rw [HT.out k, hd, Bool.false_and] at e1
          go_wp2
          go_quiet (fail)
          go_wp2
          go_roundw
          case rel => exact ⟨k + 1, by omega, by go_num, below_drewN HB.out _⟩
          case measure => simp [intOf]; omega
      · obtain rfl : k = 19 := by omega
        go_wp2_with fail
        refine (lives _).mono ?_
        rintro e w2 ⟨rfl, b2⟩
        have B2 := Lib.hid (bthen (bthen B1.out HB.out) b2)
        clear b2
        go_wp2
        go_ret
        exact ⟨rfl, B2.out⟩
  · have HM := Lib.hid (pm_no (L := L) h19)
    go_wp2_with fail
    refine (putMarks A n c L _ HN.out HP.out).mono ?_
    rintro e w' ⟨rfl, rfl⟩
    rw [HM.out.1, HM.out.2]
    go_wp2_with fail
    refine (lives _).mono ?_
    rintro e w2 ⟨rfl, b2⟩
    have B2 := Lib.hid b2
    clear b2
    go_wp2
    go_ret
    exact ⟨rfl, B2.out⟩

theorem backLaw (x : Int) (A : Option Addr) (n c : Nat) (L : Nat → Bool) (w : World) (hn : n ≤ maxLen) (hP : Bls w w.heap.size A n L) :
    Calls Try.prog 4 #[.int .i64 x, .slice A n c] w fun e w' => e = .returned (.bool true) ∧ Below w.heap.size w w' := by
  have hx := tmod_in x
  by_cases h1 : x.tmod 300000 < -262144
  · exact back_under x A n c L w hn hP hx.1 h1
  by_cases h2 : x.tmod 300000 < 0
  · exact back_low x A n c L w hn hP (by omega) h2
  by_cases h3 : x.tmod 300000 ≤ 79999
  · exact back_digits x A n c L w hn hP (by omega) h3
  by_cases h4 : x.tmod 300000 ≤ 262143
  · exact back_high x A n c L w hn hP (by omega) h4
  · exact back_over x A n c L w hn hP (by omega) hx.2

end Go.Proofs.Ytdonplbpjjjohaa.Field
