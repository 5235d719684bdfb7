/- The walk of the law TableBetween: it returns true and turns nothing that was there. -/
import Derived.Test.YtpgknkpdceaogaaTabGains
import Derived.StillTailTactics
namespace Go.Proofs.Ytpgknkpdceaogaa.Num
open Go.ChangeShapes Go.WideShapes Go.ChangeAt Go.RowKit

/-- Each x belongs somewhere. -/
theorem pos_is (n : Nat) (X Y : Nat → Int) (x : Int) (hg : ∀ i, i < n → GoodAt X Y i) : ∃ p, Pos n X x p := by
  have rise : ∀ j i, i ≤ j → j < n → X i ≤ X j := by
    intro j
    induction j with
    | zero => intro i hi _; obtain rfl : i = 0 := by omega
              exact Int.le_refl _
    | succ j ih =>
      intro i hi hj
      rcases Nat.lt_or_eq_of_le hi with h | rfl
      · have h1 := ih i (by omega) (by omega)
        have h2 := (hg (j + 1) hj).2.2 (by omega)
        rw [Nat.add_sub_cancel] at h2
        omega
      · exact Int.le_refl _
  have go : ∀ k, k ≤ n → (∃ p, p ≤ k ∧ (∀ j, j < p → X j < x) ∧ ∀ j, p ≤ j → j < k → x ≤ X j) := by
    intro k
    induction k with
    | zero => intro _; exact ⟨0, by omega, fun j hj => by omega, fun j _ hj => by omega⟩
    | succ k ih =>
      intro hk
      obtain ⟨p, h1, h2, h3⟩ := ih (by omega)
      by_cases hx : x ≤ X k
      · refine ⟨p, by omega, h2, fun j hj hjk => ?_⟩
        rcases Nat.lt_or_eq_of_le (Nat.le_of_lt_succ hjk) with h | rfl
        · exact h3 j hj h
        · exact hx
      · refine ⟨k + 1, by omega, fun j hj => ?_, fun j hj hjk => by omega⟩
        have := rise k j (by omega) (by omega)
        omega
  obtain ⟨p, h1, h2, h3⟩ := go n (Nat.le_refl _)
  exact ⟨p, h1, h2, h3⟩

theorem pos_at (n : Nat) (X Y : Nat → Int) (i : Nat) (hg : ∀ i, i < n → GoodAt X Y i) (hi : i < n) : Pos n X (X i) i := by
  have up : ∀ d i, i + d < n → X i ≤ X (i + d) := by
    intro d
    induction d with
    | zero => intro i _; exact Int.le_refl _
    | succ d ih =>
      intro i hd
      have h1 := ih i (by omega)
      have h2 := (hg (i + (d + 1)) hd).2.2 (by omega)
      rw [show i + (d + 1) - 1 = i + d by omega] at h2
      omega
  refine ⟨by omega, fun j hj => ?_, fun j hj hn => ?_⟩
  · have h1 := up (i - 1 - j) j (by omega)
    rw [show j + (i - 1 - j) = i - 1 by omega] at h1
    have h2 := (hg i hi).2.2 (by omega)
    omega
  · have h1 := up (j - i) i (by omega)
    rwa [show i + (j - i) = j by omega] at h1

/-- What is told is 0 beside ErrRange; else it is between the two points' whats. -/
theorem at_what (n : Nat) (X Y : Nat → Int) (x : Int) (p : Nat) (hg : ∀ i, i < n → GoodAt X Y i) (hp : Pos n X x p) :
    (atE n X Y x p = 9 ∧ atN n X Y x p = 0) ∨ (atE n X Y x p = 0 ∧ (p = 0 → atN n X Y x p = Y 0) ∧ (p = n → 0 < n → atN n X Y x p = Y (n - 1)) ∧
      (0 < p → p < n → gmin (Y (p - 1)) (Y p) ≤ atN n X Y x p ∧ atN n X Y x p ≤ gmax (Y (p - 1)) (Y p))) := by
  obtain ⟨p0, p1, p2⟩ := hp
  by_cases h0 : p = 0
  · subst h0; exact .inr ⟨rfl, fun _ => rfl, fun h => by omega, fun h => by omega⟩
  by_cases hn : p = n
  · subst hn
    have := at_last p X Y x (by omega)
    exact .inr ⟨this.2, fun h => by omega, fun _ _ => this.1, fun _ h => by omega⟩
  have hpn : p < n := by omega
  have m1 := gmin_cases (Y (p - 1)) (Y p)
  have m2 := gmax_cases (Y (p - 1)) (Y p)
  by_cases he : X p = x
  · have := at_hit n X Y x p hpn he
    refine .inr ⟨this.2, fun h => by omega, fun h => by omega, fun _ _ => ?_⟩
    rw [this.1]
    omega
  · have hb := at_between n X Y x p hpn (by omega) he
    rw [hb.1, hb.2]
    have hl := p1 (p - 1) (by omega)
    have hh := p2 p (Nat.le_refl _) hpn
    have hs := share (Y p - Y (p - 1)) (x - X (p - 1)) (X p - X (p - 1)) (by omega) (by omega) (by omega)
    unfold btwN btwE
    by_cases hin : -9223372036854775808 ≤ (Y p - Y (p - 1)) * (x - X (p - 1)) ∧ (Y p - Y (p - 1)) * (x - X (p - 1)) ≤ 9223372036854775807
    · rw [if_pos hin, mulE_in hin.1 hin.2]
      refine .inr ⟨rfl, fun h => by omega, fun h => by omega, fun _ _ => ?_⟩
      generalize ((Y p - Y (p - 1)) * (x - X (p - 1))).tdiv (X p - X (p - 1)) = s at *
      omega
    · rw [if_neg hin, mulE_out (by omega)]
      exact .inl ⟨rfl, rfl⟩

set_option maxHeartbeats 1000000 in
theorem betweenNone (A : Option Addr) (n c : Nat) (X Y : Nat → Int) (x : Int) (w : World) (hn : n ≤ maxLen) (hP : Pts w w.heap.size A n X Y) (hm : ¬ (n ≤ 100 ∧ MayT n X Y)) :
    Calls Try.prog 4 #[.slice A n c, .int .i64 x] w fun e w' => e = .returned (.bool true) ∧ Below w.heap.size w w' := by
  have HN := Lib.hid hn
  unfold maxLen at hn
  by_cases h100 : n ≤ 100
  · have hm' : ¬ MayT n X Y := fun h => hm ⟨h100, h⟩
    have HP := Lib.hid hP
    have HM := Lib.hid hm'
    clear hP hm hm'
    go_enter Try.func4, Try.ntmps4
    go_wp2_with fail
    refine (may_false A n c X Y _ HN.out HP.out HM.out).mono ?_
    rintro e w1 ⟨rfl, b1⟩
    have B1 := Lib.hid b1
    clear b1
    go_wp2_with fail
    refine (lives _).mono ?_
    rintro e w2 ⟨rfl, b2⟩
    have B2 := Lib.hid (bthen B1.out b2)
    clear b2
    go_wp2
    go_ret
    exact ⟨rfl, B2.out⟩
  · clear hP hm
    go_enter Try.func4, Try.ntmps4
    go_wp2_with fail
    refine (lives _).mono ?_
    rintro e w2 ⟨rfl, b2⟩
    have B2 := Lib.hid b2
    clear b2
    go_wp2
    go_ret
    exact ⟨rfl, B2.out⟩

set_option maxRecDepth 100000 in
set_option maxHeartbeats 2000000 in
theorem betweenAll (A : Option Addr) (n c : Nat) (X Y : Nat → Int) (x : Int) (p : Nat) (w : World) (hP : Pts w w.heap.size A n X Y) (hm : MayT n X Y) (hp : Pos n X x p) :
    Calls Try.prog 4 #[.slice A n c, .int .i64 x] w fun e w' => e = .returned (.bool true) ∧ Below w.heap.size w w' := by
  have HP := Lib.hid hP
  have HM := Lib.hid hm
  have HQ := Lib.hid hp
  obtain ⟨h2, h16, hg⟩ := hm
  have HG := Lib.hid hg
  clear hP hg hp
  go_enter Try.func4, Try.ntmps4
  go_wp2_with fail
  refine (may_true A n c X Y _ HP.out HM.out).mono ?_
  rintro e w1 ⟨rfl, b1⟩
  have B1 := Lib.hid b1
  clear b1
  go_wp2
  go_loopw [5] (fun i wr => ∃ k : Nat, k ≤ n ∧ i = .int .i64 k ∧ Below w.heap.size w wr) (fun i _ => n - (intOf i).toNat)
  case atStart => exact ⟨0, Nat.zero_le _, rfl, B1.out⟩
  case round =>
    obtain ⟨k, hk, rfl, hbl⟩ := hrel
    have HB := Lib.hid hbl
    clear hbl
    by_cases hlt : k < n
    · obtain ⟨b, off, rfl, hb, hc⟩ := (HP.out.next HB.out) (by omega)
      have c0 := (hc k hlt).1
      clear hc
      go_wp2_with fail
      refine (at_true _ n c X Y (X k) k _ (HP.out.next HB.out) HM.out (pos_at n X Y k HG.out hlt)).mono ?_
      rintro e w2 ⟨rfl, b2⟩
      rw [(at_hit n X Y (X k) k hlt rfl).1, (at_hit n X Y (X k) k hlt rfl).2]
      have B2 := Lib.hid (bthen HB.out b2)
      clear b2 c0
      obtain ⟨b', off', he, hb', hc'⟩ := (HP.out.next B2.out) (by omega)
      injection he with he
      injection he with e1 e2
      subst e1 e2
      have d1 := (hc' k hlt).2
      clear hc'
      go_wp2
      go_roundw
      case rel => exact ⟨k + 1, by omega, by go_num, B2.out⟩
      case measure => simp [intOf]; omega
    · go_wp2_with fail
      refine (at_true _ n c X Y x p _ (HP.out.next HB.out) HM.out HQ.out).mono ?_
      rintro e w2 ⟨rfl, b2⟩
      have B2 := Lib.hid (bthen HB.out b2)
      clear b2
      obtain ⟨b, off, rfl, hb, hc⟩ := (HP.out.next B2.out) (by omega)
      have HC := Lib.hid hc
      clear hc
      rcases at_what n X Y x p HG.out HQ.out with ⟨e9, n0⟩ | ⟨e0, f1, f2, f3⟩
      · rw [e9, n0]
        clear e9 n0
        go_wp2_with fail
        refine (lives _).mono ?_
        rintro e w3 ⟨rfl, b3⟩
        have B3 := Lib.hid (bthen B2.out b3)
        clear b3
        go_wp2
        go_ret
        exact ⟨rfl, B3.out⟩
      · rw [e0]
        clear e0
        generalize atN n X Y x p = v at *
        have F1 := Lib.hid f1
        have F2 := Lib.hid f2
        have F3 := Lib.hid f3
        clear f1 f2 f3
        have c0 := (HC.out 0 (by omega)).1
        have c1 := (HC.out 0 (by omega)).2
        simp only [Nat.zero_mul, Nat.add_zero] at c0 c1
        by_cases hp0 : p = 0
        · subst hp0
          have hx := HQ.out.2.2 0 (Nat.le_refl _) (by omega)
          have hv := F1.out rfl
          subst hv
          go_wp2_with fail
          refine (lives _).mono ?_
          rintro e w3 ⟨rfl, b3⟩
          have B3 := Lib.hid (bthen B2.out b3)
          clear b3
          go_wp2
          go_ret
          exact ⟨rfl, B3.out⟩
        · have hx := HQ.out.2.1 0 (by omega)
          go_wp2
          go_loop [10] (fun i => ∃ k : Nat, 1 ≤ k ∧ k ≤ p ∧ k ≤ n ∧ i = .int .i64 k) (fun i => n - (intOf i).toNat)
          case atStart => exact ⟨1, by omega, by omega, by omega, rfl⟩
          case round =>
            obtain ⟨j, hj1, hjp, hjn, rfl⟩ := hrel
            clear c0 c1
            by_cases hjn' : j < n
            · have d0 := (HC.out j hjn').1
              by_cases hjp' : j < p
              · have hxj := HQ.out.2.1 j hjp'
                go_wp2
                go_round
                case rel => exact ⟨j + 1, by omega, by omega, by omega, by go_num⟩
                case measure => simp [intOf]; omega
              · obtain rfl : j = p := by omega
                have hxj := HQ.out.2.2 j (Nat.le_refl _) hjn'
                obtain ⟨v1, v2⟩ := F3.out (by omega) hjn'
                have d1 := (HC.out j hjn').2
                have d2 := (HC.out (j - 1) (by omega)).2
                have i2 : (1 : Int) ≤ (j : Int) := by omega
                have i3 : (j : Int) - 1 < (n : Int) := by omega
                have i4 : (0 : Int) ≤ (j : Int) - 1 := by omega
                have i5 : IntKind.i64.wrap ((j : Int) - 1) = (j : Int) - 1 := IntWalk.i64_in _ (by omega)
                have i6 : ((j : Int) - 1).toNat = j - 1 := by omega
                go_wp2_with fail
                have j1 : decide (gmin (Y (j - 1)) (Y j) ≤ v) = true := decide_eq_true v1
                have j2 : decide (v ≤ gmax (Y (j - 1)) (Y j)) = true := decide_eq_true v2
                go_still_tail 31, (by kernel_rfl)
                change wpList _ _ _ _ _ w2.drew
                have B2d := Lib.hid B2.out.drew
                generalize w2.drew = w2d at *
                clear d0 d1 d2 i5 i6
                go_wp2_with fail
                refine (lives _).mono ?_
                rintro e w3 ⟨rfl, b3⟩
                have B3 := Lib.hid (bthen B2d.out b3)
                clear b3
                go_wp2
                go_ret
                exact ⟨rfl, B3.out⟩
            · obtain rfl : j = n := by omega
              have hv := F2.out (by have := HQ.out.1; omega) (by omega)
              subst hv
              have d1 := (HC.out (j - 1) (by omega)).2
              go_wp2_with fail
              refine (lives _).mono ?_
              rintro e w3 ⟨rfl, b3⟩
              have B3 := Lib.hid (bthen B2.out b3)
              clear b3
              go_wp2
              go_ret
              exact ⟨rfl, B3.out⟩

theorem betweenLaw (A : Option Addr) (n c : Nat) (X Y : Nat → Int) (x : Int) (w : World) (hn : n ≤ maxLen) (hP : Pts w w.heap.size A n X Y) :
    Calls Try.prog 4 #[.slice A n c, .int .i64 x] w fun e w' => e = .returned (.bool true) ∧ Below w.heap.size w w' := by
  by_cases hm : n ≤ 100 ∧ MayT n X Y
  · obtain ⟨p, hp⟩ := pos_is n X Y x hm.2.2.2
    exact betweenAll A n c X Y x p w hP hm.2 hp
  · exact betweenNone A n c X Y x w hn hP hm

end Go.Proofs.Ytpgknkpdceaogaa.Num
