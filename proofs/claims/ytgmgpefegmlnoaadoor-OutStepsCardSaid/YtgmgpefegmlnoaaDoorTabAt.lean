/- Contracts of table.between and table.At. -/
import Derived.Test.YtgmgpefegmlnoaaDoorTabFind
import Derived.Deep.RegionWith
namespace Go.Proofs.YtgmgpefegmlnoaaDoor.Num
open Go.ChangeShapes Go.WideShapes Go.ChangeAt Go.RowKit

/-- A share of a way, towards 0, is no more than the way. -/
theorem share (D a d : Int) (ha : 0 ≤ a) (hd : a ≤ d) (h0 : 0 < d) : (0 ≤ D → 0 ≤ (D * a).tdiv d ∧ (D * a).tdiv d ≤ D) ∧ (D ≤ 0 → D ≤ (D * a).tdiv d ∧ (D * a).tdiv d ≤ 0) := by
  have key : ∀ E : Int, 0 ≤ E → 0 ≤ (E * a).tdiv d ∧ (E * a).tdiv d ≤ E := by
    intro E hE
    have h1 : 0 ≤ E * a := Int.mul_nonneg hE ha
    rw [Int.tdiv_eq_ediv_of_nonneg h1]
    exact ⟨Int.ediv_nonneg h1 (by omega), Int.ediv_le_of_le_mul h0 (Int.mul_le_mul_of_nonneg_left hd hE)⟩
  refine ⟨key D, fun h => ?_⟩
  have := key (-D) (by omega)
  rw [Int.neg_mul, Int.neg_tdiv] at this
  omega

/-- What is between two points, and its error. -/
def btwN (x0 y0 x1 y1 x : Int) : Int := if -9223372036854775808 ≤ (y1 - y0) * (x - x0) ∧ (y1 - y0) * (x - x0) ≤ 9223372036854775807 then y0 + ((y1 - y0) * (x - x0)).tdiv (x1 - x0) else 0
def btwE (x0 y0 y1 x : Int) : Int := mulE ((y1 - y0) * (x - x0))

theorem sub_in (a b : Int) (w : World) (ha : In a) (hb : In b) (h : In (a - b)) :
    Calls Tryd.prog 41 #[.int .i64 a, .int .i64 b] w fun e w' => e = .returned (.int .i64 (a - b)) ∧ w' = w :=
  (sub a b w ha hb).mono fun e w' ⟨he, hw⟩ => ⟨by rw [he, sat_in h.1 h.2], hw.symm⟩

theorem add_in (a b : Int) (w : World) (ha : In a) (hb : In b) (h : In (a + b)) :
    Calls Tryd.prog 40 #[.int .i64 a, .int .i64 b] w fun e w' => e = .returned (.int .i64 (a + b)) ∧ w' = w :=
  (add a b w ha hb).mono fun e w' ⟨he, hw⟩ => ⟨by rw [he, sat_in h.1 h.2], hw.symm⟩

theorem mul_in (a b : Int) (w : World) (ha : In a) (hb : In b) (h : In (a * b)) :
    Calls Tryd.prog 56 #[.int .i64 a, .int .i64 b] w fun e w' => e = .returned (.tuple #[.int .i64 (a * b), .int .i64 0]) ∧ w' = w :=
  (mul a b w ha hb).mono fun e w' ⟨he, hw⟩ => ⟨by rw [he, mulN_in h.1 h.2, mulE_in h.1 h.2], hw.symm⟩

theorem mul_out (a b : Int) (w : World) (ha : In a) (hb : In b) (h : ¬ In (a * b)) :
    Calls Tryd.prog 56 #[.int .i64 a, .int .i64 b] w fun e w' => e = .returned (.tuple #[.int .i64 0, .int .i64 9]) ∧ w' = w :=
  (mul a b w ha hb).mono fun e w' ⟨he, hw⟩ => ⟨by rw [he, mulN_out (by unfold In at h; omega), mulE_out (by unfold In at h; omega)], hw.symm⟩

theorem div_in (a b : Int) (w : World) (ha : In a) (hb : 0 < b) :
    Calls Tryd.prog 42 #[.int .i64 a, .int .i64 b] w fun e w' => e = .returned (.tuple #[.int .i64 (a.tdiv b), .int .i64 0]) ∧ w' = w :=
  (div a b w ha).mono fun e w' ⟨he, hw⟩ => ⟨by rw [he, divN_n (by omega) (by omega), divE_n (by omega) (by omega)], hw.symm⟩

/-- The numbers of two points of a table, and an x between them. -/
def Two (x0 y0 x1 y1 x : Int) : Prop := mb x0 = true ∧ mb y0 = true ∧ mb x1 = true ∧ mb y1 = true ∧ x0 ≤ x ∧ x ≤ x1 ∧ x0 < x1

set_option maxHeartbeats 1000000 in
theorem between (x0 y0 x1 y1 x : Int) (w : World) (h : Two x0 y0 x1 y1 x) :
    Calls Tryd.prog 51 #[.agg #[.int .i64 x0, .int .i64 y0], .agg #[.int .i64 x1, .int .i64 y1], .int .i64 x] w
      fun e w' => e = .returned (.tuple #[.int .i64 (btwN x0 y0 x1 y1 x), .int .i64 (btwE x0 y0 y1 x)]) ∧ Below w.heap.size w w' := by
  obtain ⟨b1, b2, b3, b4, h1, h2, h3⟩ := h
  obtain ⟨l1, u1⟩ := mb_true b1
  obtain ⟨l2, u2⟩ := mb_true b2
  obtain ⟨l3, u3⟩ := mb_true b3
  obtain ⟨l4, u4⟩ := mb_true b4
  clear b1 b2 b3 b4
  have HS := Lib.hid (share (y1 - y0) (x - x0) (x1 - x0) (by omega) (by omega) (by omega))
  by_cases hin : In ((y1 - y0) * (x - x0))
  · have HN : Hid (btwN x0 y0 x1 y1 x = y0 + ((y1 - y0) * (x - x0)).tdiv (x1 - x0)) := if_pos hin
    have HE : Hid (btwE x0 y0 y1 x = 0) := mulE_in hin.1 hin.2
    have HI := Lib.hid hin
    clear hin
    go_enter Tryd.func51, Tryd.ntmps51
    go_wp2_with fail
    go_quiet ((first | (go_at_call 41; exact Calls.quiet_of_same (sub_in _ _ _ ⟨by omega, by omega⟩ ⟨by omega, by omega⟩ ⟨by omega, by omega⟩)) | (go_at_call 56; exact Calls.quiet_of_same (mul_in _ _ _ ⟨by omega, by omega⟩ ⟨by omega, by omega⟩ HI.out))))
    generalize (y1 - y0) * (x - x0) = p at *
    go_wp2_with fail
    refine (sub_in x1 x0 _ ⟨by omega, by omega⟩ ⟨by omega, by omega⟩ ⟨by omega, by omega⟩).mono ?_
    rintro e w' ⟨rfl, rfl⟩
    go_wp2_with fail
    refine (div_in p (x1 - x0) _ HI.out (by omega)).mono ?_
    rintro e w' ⟨rfl, rfl⟩
    obtain ⟨s1, s2⟩ := HS.out
    go_wp2_with fail
    refine (add_in y0 (p.tdiv (x1 - x0)) _ ⟨by omega, by omega⟩ ⟨by omega, by omega⟩ ⟨by omega, by omega⟩).mono ?_
    rintro e w' ⟨rfl, rfl⟩
    clear s1 s2
    go_wp2
    go_ret2
    exact ⟨ret_two HN.out HE.out, below_drewN (((Below.refl _ _).alloc (Nat.le_refl _) _).alloc (by simp) _) _⟩
  · have HN : Hid (btwN x0 y0 x1 y1 x = 0) := if_neg hin
    have HE : Hid (btwE x0 y0 y1 x = 9) := mulE_out (by unfold In at hin; omega)
    have HI := Lib.hid hin
    clear hin
    go_enter Tryd.func51, Tryd.ntmps51
    go_wp2_with fail
    go_quiet ((first | (go_at_call 41; exact Calls.quiet_of_same (sub_in _ _ _ ⟨by omega, by omega⟩ ⟨by omega, by omega⟩ ⟨by omega, by omega⟩)) | (go_at_call 56; exact Calls.quiet_of_same (mul_out _ _ _ ⟨by omega, by omega⟩ ⟨by omega, by omega⟩ HI.out))))
    go_wp2
    go_ret2
    exact ⟨ret_two HN.out HE.out, below_drewN (((Below.refl _ _).alloc (Nat.le_refl _) _).alloc (by simp) _) _⟩

/-- What a table says of x, that belongs at place p. -/
def atN (n : Nat) (X Y : Nat → Int) (x : Int) (p : Nat) : Int := if p = 0 then Y 0 else if p = n then Y (n - 1) else if X p = x then Y p else btwN (X (p - 1)) (Y (p - 1)) (X p) (Y p) x
def atE (n : Nat) (X Y : Nat → Int) (x : Int) (p : Nat) : Int := if p = 0 then 0 else if p = n then 0 else if X p = x then 0 else btwE (X (p - 1)) (Y (p - 1)) (Y p) x

theorem at_zero (n : Nat) (X Y : Nat → Int) (x : Int) : atN n X Y x 0 = Y 0 ∧ atE n X Y x 0 = 0 := ⟨rfl, rfl⟩
theorem at_last (n : Nat) (X Y : Nat → Int) (x : Int) (h : 0 < n) : atN n X Y x n = Y (n - 1) ∧ atE n X Y x n = 0 := by
  unfold atN atE; rw [if_neg (by omega), if_pos rfl, if_neg (by omega), if_pos rfl]; exact ⟨rfl, rfl⟩
theorem at_hit (n : Nat) (X Y : Nat → Int) (x : Int) (p : Nat) (h : p < n) (e : X p = x) : atN n X Y x p = Y p ∧ atE n X Y x p = 0 := by
  by_cases h0 : p = 0
  · subst h0; exact ⟨rfl, rfl⟩
  unfold atN atE; rw [if_neg h0, if_neg (by omega), if_pos e, if_neg h0, if_neg (by omega), if_pos e]; exact ⟨rfl, rfl⟩
theorem at_between (n : Nat) (X Y : Nat → Int) (x : Int) (p : Nat) (h : p < n) (h0 : 0 < p) (e : X p ≠ x) : atN n X Y x p = btwN (X (p - 1)) (Y (p - 1)) (X p) (Y p) x ∧ atE n X Y x p = btwE (X (p - 1)) (Y (p - 1)) (Y p) x := by
  unfold atN atE; rw [if_neg (by omega), if_neg (by omega), if_neg e, if_neg (by omega), if_neg (by omega), if_neg e]; exact ⟨rfl, rfl⟩

set_option maxHeartbeats 1000000 in
theorem at_false (A : Option Addr) (n c : Nat) (X Y : Nat → Int) (x : Int) (w : World) (hn : n ≤ maxLen) (hP : Pts w w.heap.size A n X Y) (hm : ¬ MayT n X Y) :
    Calls Tryd.prog 43 #[.slice A n c, .int .i64 x] w fun e w' => e = .returned (.tuple #[.int .i64 0, .int .i64 2]) ∧ Below w.heap.size w w' := by
  go_enter Tryd.func43, Tryd.ntmps43
  go_wp2_with fail
  refine (may_false A n c X Y _ hn hP hm).mono ?_
  rintro e w' ⟨rfl, hb⟩
  clear hP hm
  go_wp2
  go_ret2
  exact ⟨rfl, hb⟩

set_option maxHeartbeats 1000000 in
theorem at_true (A : Option Addr) (n c : Nat) (X Y : Nat → Int) (x : Int) (p : Nat) (w : World) (hP : Pts w w.heap.size A n X Y) (hm : MayT n X Y) (hp : Pos n X x p) :
    Calls Tryd.prog 43 #[.slice A n c, .int .i64 x] w fun e w' => e = .returned (.tuple #[.int .i64 (atN n X Y x p), .int .i64 (atE n X Y x p)]) ∧ Below w.heap.size w w' := by
  have HP := Lib.hid hP
  have HM := Lib.hid hm
  have HQ := Lib.hid hp
  obtain ⟨h2, h16, hg⟩ := hm
  obtain ⟨p0, p1, p2⟩ := hp
  have HG := Lib.hid hg
  have H1 := Lib.hid p1
  have H2 := Lib.hid p2
  clear hP hg p1 p2
  go_enter Tryd.func43, Tryd.ntmps43
  go_wp2_with fail
  refine (may_true A n c X Y _ HP.out HM.out).mono ?_
  rintro e w1 ⟨rfl, hb1⟩
  have HB1 := Lib.hid hb1
  clear hb1
  go_wp2_with fail
  refine (search A n c X Y x p _ (by omega) h16 (HP.out.next HB1.out) HQ.out).mono ?_
  rintro e w2 ⟨rfl, hb2⟩
  have HB := Lib.hid (bthen HB1.out hb2)
  clear hb2
  obtain ⟨b, off, rfl, hlt, hc⟩ := (HP.out.next HB.out) (by omega)
  have HC := Lib.hid hc
  clear hc
  by_cases hpn : p < n
  · have c1 := (HC.out p hpn).2
    by_cases he : X p = x
    · have Hv := Lib.hid (at_hit n X Y x p hpn he)
      rw [show hit n X x p = true from decide_eq_true ⟨hpn, he⟩]
      clear he
      go_wp2
      go_ret2
      exact ⟨ret_two Hv.out.1 Hv.out.2, HB.out⟩
    · rw [show hit n X x p = false from decide_eq_false (fun q => he q.2)]
      by_cases hp0 : p = 0
      · subst hp0
        simp only [Nat.zero_mul, Nat.add_zero] at c1
        clear he
        go_wp2
        go_ret2
        exact ⟨rfl, HB.out⟩
      · have Hv := Lib.hid (at_between n X Y x p hpn (by omega) he)
        have hT : Two (X (p - 1)) (Y (p - 1)) (X p) (Y p) x := by
          obtain ⟨g1, g2, g3⟩ := HG.out p hpn
          obtain ⟨g4, g5, g6⟩ := HG.out (p - 1) (by omega)
          have := H1.out (p - 1) (by omega)
          have := H2.out p (Nat.le_refl _) hpn
          exact ⟨g4, g5, g1, g2, by omega, by omega, g3 (by omega)⟩
        have HT := Lib.hid hT
        have c0 := (HC.out p hpn).1
        have d0 := (HC.out (p - 1) (by omega)).1
        have d1 := (HC.out (p - 1) (by omega)).2
        clear hT he
        have t0 : ((p : Int) == 0) = false := by simp; omega
        have t1 : ((p : Int) == (n : Int)) = false := by simp; omega
        have i2 : (1 : Int) ≤ (p : Int) := by omega
        have i3 : (p : Int) - 1 < (n : Int) := by omega
        have i4 : (0 : Int) ≤ (p : Int) - 1 := by omega
        have i5 : IntKind.i64.wrap ((p : Int) - 1) = (p : Int) - 1 := IntWalk.i64_in _ (by omega)
        have i6 : ((p : Int) - 1).toNat = p - 1 := by omega
        go_wp2_with fail
        go_region_with (go_at_call 51; refine (between (X (p - 1)) (Y (p - 1)) (X p) (Y p) x _ HT.out).mono ?_; rintro e w3 ⟨rfl, hb3⟩)
        all_goals
          go_wp2
          go_ret2
          exact ⟨ret_two Hv.out.1 Hv.out.2, bthen HB.out.drew hb3⟩
  · obtain rfl : p = n := by omega
    have Hv := Lib.hid (at_last p X Y x (by omega))
    have c1 := (HC.out (p - 1) (by omega)).2
    rw [show hit p X x p = false from decide_eq_false (fun q => hpn q.1)]
    have t0 : ((p : Int) == 0) = false := by simp; omega
    go_wp2
    go_ret2
    exact ⟨ret_two Hv.out.1 Hv.out.2, HB.out⟩

end Go.Proofs.YtgmgpefegmlnoaaDoor.Num
