/- Contracts of the document's own At of layer 4: it tells the same as table.At. -/
import Derived.Test.YtgmgpefegmlnoaaDoorTabRefMay
import Derived.Test.YtgmgpefegmlnoaaDoorTabAt
namespace Go.Proofs.YtgmgpefegmlnoaaDoor.Num
open Go.ChangeShapes Go.WideShapes Go.ChangeAt Go.RowKit

theorem rmul_in (a b : Int) (w : World) (ha : In a) (hb : In b) (h : In (a * b)) :
    Calls Tryd.prog 53 #[.int .i64 a, .int .i64 b] w fun e w' => e = .returned (.tuple #[.int .i64 (a * b), .int .i64 0]) ∧ w' = w :=
  (rmul a b w ha hb).mono fun e w' ⟨he, hw⟩ => ⟨by rw [he, mulN_in h.1 h.2, mulE_in h.1 h.2], hw.symm⟩

theorem rmul_out (a b : Int) (w : World) (ha : In a) (hb : In b) (h : ¬ In (a * b)) :
    Calls Tryd.prog 53 #[.int .i64 a, .int .i64 b] w fun e w' => e = .returned (.tuple #[.int .i64 0, .int .i64 9]) ∧ w' = w :=
  (rmul a b w ha hb).mono fun e w' ⟨he, hw⟩ => ⟨by rw [he, mulN_out (by unfold In at h; omega), mulE_out (by unfold In at h; omega)], hw.symm⟩

theorem btw_at (x0 y0 x1 y1 : Int) : btwN x0 y0 x1 y1 x0 = y0 ∧ btwE x0 y0 y1 x0 = 0 := by
  unfold btwN btwE
  rw [Int.sub_self, Int.mul_zero, if_pos (by omega)]
  exact ⟨by simp, by decide⟩

/-- The last point that is not behind x. -/
def Seg (n : Nat) (X Y : Nat → Int) (x : Int) (p q : Nat) : Prop :=
  q < n ∧ (∀ j, j ≤ q → X j ≤ x) ∧ (q + 1 < n → x < X (q + 1)) ∧ (q + 1 = n → atN n X Y x p = Y q ∧ atE n X Y x p = 0) ∧
  (q + 1 < n → atN n X Y x p = btwN (X q) (Y q) (X (q + 1)) (Y (q + 1)) x ∧ atE n X Y x p = btwE (X q) (Y q) (Y (q + 1)) x)

theorem seg_is (n : Nat) (X Y : Nat → Int) (x : Int) (p : Nat) (hm : MayT n X Y) (hp : Pos n X x p) (h0 : 0 < p) : ∃ q, Seg n X Y x p q := by
  obtain ⟨p0, p1, p2⟩ := hp
  obtain ⟨h2, h16, hg⟩ := hm
  by_cases he : p < n ∧ X p = x
  · obtain ⟨hpn, rfl⟩ := he
    refine ⟨p, hpn, fun j hj => ?_, fun h => ?_, fun _ => at_hit n X Y _ p hpn rfl, fun h => ?_⟩
    · rcases Nat.lt_or_eq_of_le hj with h | rfl
      · exact Int.le_of_lt (p1 j h)
      · exact Int.le_refl _
    · exact (hg (p + 1) h).2.2 (by omega)
    · rw [(at_hit n X Y _ p hpn rfl).1, (at_hit n X Y _ p hpn rfl).2, (btw_at _ _ _ _).1, (btw_at (X p) (Y p) (X (p + 1)) (Y (p + 1))).2]
      exact ⟨rfl, rfl⟩
  · obtain ⟨q, rfl⟩ : ∃ q, p = q + 1 := ⟨p - 1, by omega⟩
    refine ⟨q, by omega, fun j hj => Int.le_of_lt (p1 j (by omega)), fun h => ?_, fun h => ?_, fun h => ?_⟩
    · have := p2 (q + 1) (Nat.le_refl _) h
      have : X (q + 1) ≠ x := fun e => he ⟨h, e⟩
      omega
    · subst h
      exact at_last (q + 1) X Y x (by omega)
    · exact at_between n X Y x (q + 1) h (by omega) (fun e => he ⟨h, e⟩)

set_option maxHeartbeats 1000000 in
theorem rat_false (A : Option Addr) (n c : Nat) (X Y : Nat → Int) (x : Int) (w : World) (hn : n ≤ maxLen) (hP : Pts w w.heap.size A n X Y) (hm : ¬ MayT n X Y) :
    Calls Tryd.prog 46 #[.slice A n c, .int .i64 x] w fun e w' => e = .returned (.tuple #[.int .i64 0, .int .i64 2]) ∧ Below w.heap.size w w' := by
  go_enter Tryd.func46, Tryd.ntmps46
  go_wp2_with fail
  refine (rmay_false A n c X Y _ hn hP hm).mono ?_
  rintro e w' ⟨rfl, hb⟩
  clear hP hm
  go_wp2
  go_ret2
  exact ⟨rfl, hb⟩

set_option maxHeartbeats 1000000 in
theorem rat_zero (A : Option Addr) (n c : Nat) (X Y : Nat → Int) (x : Int) (w : World) (hP : Pts w w.heap.size A n X Y) (hm : MayT n X Y) (hp : Pos n X x 0) :
    Calls Tryd.prog 46 #[.slice A n c, .int .i64 x] w fun e w' => e = .returned (.tuple #[.int .i64 (atN n X Y x 0), .int .i64 (atE n X Y x 0)]) ∧ Below w.heap.size w w' := by
  have HP := Lib.hid hP
  have HM := Lib.hid hm
  obtain ⟨h2, h16, _⟩ := hm
  have hx := hp.2.2 0 (Nat.le_refl _) (by omega)
  clear hP hp
  go_enter Tryd.func46, Tryd.ntmps46
  go_wp2_with fail
  refine (rmay_true A n c X Y _ HP.out HM.out).mono ?_
  rintro e w1 ⟨rfl, hb1⟩
  obtain ⟨b, off, rfl, hlt, hc⟩ := (HP.out.next hb1) (by omega)
  have c0 := (hc 0 (by omega)).1
  have c1 := (hc 0 (by omega)).2
  simp only [Nat.zero_mul, Nat.add_zero] at c0 c1
  have HB := Lib.hid hb1
  clear hb1 hc
  go_wp2
  go_ret2
  exact ⟨rfl, HB.out⟩

set_option maxHeartbeats 2000000 in
theorem rat_seg (A : Option Addr) (n c : Nat) (X Y : Nat → Int) (x : Int) (p q : Nat) (w : World) (hP : Pts w w.heap.size A n X Y) (hm : MayT n X Y) (hx : X 0 < x) (hs : Seg n X Y x p q) :
    Calls Tryd.prog 46 #[.slice A n c, .int .i64 x] w fun e w' => e = .returned (.tuple #[.int .i64 (atN n X Y x p), .int .i64 (atE n X Y x p)]) ∧ Below w.heap.size w w' := by
  have HP := Lib.hid hP
  have HM := Lib.hid hm
  obtain ⟨h2, h16, hg⟩ := hm
  obtain ⟨hq, s1, s2, s3, s4⟩ := hs
  have HG := Lib.hid hg
  have S1 := Lib.hid s1
  have S2 := Lib.hid s2
  have S3 := Lib.hid s3
  have S4 := Lib.hid s4
  clear hP hg s1 s2 s3 s4
  go_enter Tryd.func46, Tryd.ntmps46
  go_wp2_with fail
  refine (rmay_true A n c X Y _ HP.out HM.out).mono ?_
  rintro e w1 ⟨rfl, hb1⟩
  obtain ⟨b, off, rfl, hlt, hc⟩ := (HP.out.next hb1) (by omega)
  have c0 := (hc 0 (by omega)).1
  simp only [Nat.zero_mul, Nat.add_zero] at c0
  have HB := Lib.hid hb1
  have HC := Lib.hid hc
  clear hb1 hc
  go_wp2
  go_loop [6] (fun i => ∃ k : Nat, k ≤ q ∧ i = .int .i64 k) (fun i => n - (intOf i).toNat)
  case atStart => exact ⟨0, Nat.zero_le _, rfl⟩
  case round =>
    obtain ⟨k, hk, rfl⟩ := hrel
    clear c0
    by_cases hkq : k < q
    · have d0 := (HC.out (k + 1) (by omega)).1
      have hle := S1.out (k + 1) (by omega)
      have hln : k + 1 < n := by omega
      go_wp2
      go_round
      case rel => exact ⟨k + 1, by omega, by go_num⟩
      case measure => simp [intOf]; omega
    · obtain rfl : k = q := by omega
      have y0 := (HC.out k hq).2
      by_cases hln : k + 1 < n
      · obtain ⟨g1, g2, g3⟩ := HG.out (k + 1) hln
        obtain ⟨g4, g5, g6⟩ := HG.out k hq
        have x0 := (HC.out k hq).1
        have x1 := (HC.out (k + 1) hln).1
        have y1 := (HC.out (k + 1) hln).2
        have hup := S2.out hln
        have hdn := S1.out k (Nat.le_refl _)
        have hri := g3 (by omega)
        rw [Nat.add_sub_cancel] at hri
        have Hv := Lib.hid (S4.out hln)
        obtain ⟨l1, u1⟩ := mb_true g1
        obtain ⟨l2, u2⟩ := mb_true g2
        obtain ⟨l4, u4⟩ := mb_true g4
        obtain ⟨l5, u5⟩ := mb_true g5
        clear g1 g2 g3 g4 g5 g6
        have HSh := Lib.hid (share (Y (k + 1) - Y k) (x - X k) (X (k + 1) - X k) (by omega) (by omega) (by omega))
        have tne : ((k : Int) + 1 == (n : Int)) = false := by simp; omega
        generalize hX0 : X k = vx0 at *
        generalize hX1 : X (k + 1) = vx1 at *
        generalize hY0 : Y k = vy0 at *
        generalize hY1 : Y (k + 1) = vy1 at *
        clear hX0 hX1 hY0 hY1
        have i1 : (k : Int) + 1 < (n : Int) := by omega
        have i2 : (0 : Int) ≤ (k : Int) + 1 := by omega
        have i4 : ((k : Int) + 1).toNat = k + 1 := by omega
        have i3 : IntKind.i64.wrap ((k : Int) + 1) = (k : Int) + 1 := IntWalk.i64_in _ (by omega)
        have i5 : IntKind.i64.wrap (vy1 - vy0) = vy1 - vy0 := IntWalk.i64_in _ (by omega)
        have i6 : IntKind.i64.wrap (x - vx0) = x - vx0 := IntWalk.i64_in _ (by omega)
        have hA : In (vy1 - vy0) := ⟨by omega, by omega⟩
        have hB : In (x - vx0) := ⟨by omega, by omega⟩
        have HA := Lib.hid hA
        have HBx := Lib.hid hB
        clear hA hB
        by_cases hin : In ((vy1 - vy0) * (x - vx0))
        · have HN : Hid (btwN vx0 vy0 vx1 vy1 x = vy0 + ((vy1 - vy0) * (x - vx0)).tdiv (vx1 - vx0)) := if_pos hin
          have HE : Hid (btwE vx0 vy0 vy1 x = 0) := mulE_in hin.1 hin.2
          have HI := Lib.hid hin
          clear hin
          go_wp2_with fail
          go_quiet ((go_at_call 53; exact Calls.quiet_of_same (rmul_in _ _ _ HA.out HBx.out HI.out)))
          clear i5 i6
          generalize (vy1 - vy0) * (x - vx0) = P at *
          obtain ⟨s1, s2⟩ := HSh.out
          have i7 : IntKind.i64.wrap (vx1 - vx0) = vx1 - vx0 := IntWalk.i64_in _ (by omega)
          have i8 : IntKind.i64.wrap (P.tdiv (vx1 - vx0)) = P.tdiv (vx1 - vx0) := IntWalk.i64_in _ (by omega)
          have i9 : IntKind.i64.wrap (vy0 + P.tdiv (vx1 - vx0)) = vy0 + P.tdiv (vx1 - vx0) := IntWalk.i64_in _ (by omega)
          have i0 : ((vx1 - vx0) == 0) = false := by simp; omega
          clear s1 s2
          go_wp2
          go_quiet (fail)
          go_wp2
          go_ret2
          exact ⟨ret_two (Hv.out.1.trans HN.out) (Hv.out.2.trans HE.out), below_drewN (below_drewN HB.out _) _⟩
        · have HN : Hid (btwN vx0 vy0 vx1 vy1 x = 0) := if_neg hin
          have HE : Hid (btwE vx0 vy0 vy1 x = 9) := mulE_out (by unfold In at hin; omega)
          have HI := Lib.hid hin
          clear hin
          go_wp2_with fail
          go_quiet ((go_at_call 53; exact Calls.quiet_of_same (rmul_out _ _ _ HA.out HBx.out HI.out)))
          go_wp2
          go_ret2
          exact ⟨ret_two (Hv.out.1.trans HN.out) (Hv.out.2.trans HE.out), below_drewN HB.out _⟩
      · have hv := S3.out (by omega)
        have Hv := Lib.hid hv
        clear hv
        go_wp2
        go_ret2
        exact ⟨ret_two Hv.out.1 Hv.out.2, HB.out⟩

theorem rat_true (A : Option Addr) (n c : Nat) (X Y : Nat → Int) (x : Int) (p : Nat) (w : World) (hP : Pts w w.heap.size A n X Y) (hm : MayT n X Y) (hp : Pos n X x p) :
    Calls Tryd.prog 46 #[.slice A n c, .int .i64 x] w fun e w' => e = .returned (.tuple #[.int .i64 (atN n X Y x p), .int .i64 (atE n X Y x p)]) ∧ Below w.heap.size w w' := by
  by_cases h0 : p = 0
  · subst h0; exact rat_zero A n c X Y x w hP hm hp
  · obtain ⟨q, hq⟩ := seg_is n X Y x p hm hp (by omega)
    exact rat_seg A n c X Y x p q w hP hm (hp.2.1 0 (by omega)) hq

end Go.Proofs.YtgmgpefegmlnoaaDoor.Num
