/- Contracts of the document's own May of layer 4. -/
import Derived.Test.YtgmgpefegmlnoaaDoorTabMay
namespace Go.Proofs.YtgmgpefegmlnoaaDoor.Num
open Go.ChangeShapes Go.WideShapes Go.ChangeAt Go.RowKit

set_option maxHeartbeats 1000000 in
theorem rmay_true (A : Option Addr) (n c : Nat) (X Y : Nat → Int) (w : World) (hP : Pts w w.heap.size A n X Y) (hm : MayT n X Y) :
    Calls Tryd.prog 52 #[.slice A n c] w fun e w' => e = .returned (.bool true) ∧ Below w.heap.size w w' := by
  obtain ⟨h2, h16, hg⟩ := hm
  obtain ⟨b, off, rfl, hb, hc⟩ := hP (by omega)
  have HG := Lib.hid hg
  have HC := Lib.hid hc
  clear hg hc hP
  go_enter Tryd.func52, Tryd.ntmps52
  go_wp2
  go_loopw [3] (fun i wr => ∃ k : Nat, k ≤ n ∧ i = .int .i64 k ∧ Below w.heap.size w wr) (fun i _ => n - (intOf i).toNat)
  case atStart => exact ⟨0, Nat.zero_le _, rfl, Below.refl _ _⟩
  case round =>
    obtain ⟨k, hk, rfl, hbl⟩ := hrel
    by_cases hlt : k < n
    · obtain ⟨g1, g2, g3⟩ := HG.out k hlt
      have c1 := (hbl.cell (by exact hb)).trans (HC.out k hlt).1
      have c2 := (hbl.cell (by exact hb)).trans (HC.out k hlt).2
      have hbr : b < wr.heap.size := Nat.lt_of_lt_of_le hb hbl.size
      have HB := Lib.hid hbl
      clear hbl
      go_wp2_with fail
      by_cases k0 : k = 0
      · subst k0
        simp only [Nat.zero_mul, Nat.add_zero] at c1 c2
        go_quiet ((go_at_call 57; exact Calls.quiet_of_same ((rmayBe _ _).mono fun _ _ h => ⟨h.1, h.2.symm⟩)))
        go_wp2
        go_roundw
        case rel => exact ⟨1, by omega, rfl, below_drewN HB.out _⟩
        case measure => simp [intOf]; omega
      · have c3 := (HB.out.cell (by exact hb)).trans (HC.out (k - 1) (by omega)).1
        have g4 := g3 (by omega)
        have i0 : decide (0 < k) = true := by simp; omega
        have i1 : (0 : Int) < (k : Int) := by omega
        have i2 : (1 : Int) ≤ (k : Int) := by omega
        have i3 : (k : Int) - 1 < (n : Int) := by omega
        have i4 : (0 : Int) ≤ (k : Int) - 1 := by omega
        have i5 : IntKind.i64.wrap ((k : Int) - 1) = (k : Int) - 1 := IntWalk.i64_in _ (by omega)
        have i6 : ((k : Int) - 1).toNat = k - 1 := by omega
        have i7 : decide (X k ≤ X (k - 1)) = false := decide_eq_false (by omega)
        go_quiet ((go_at_call 57; exact Calls.quiet_of_same ((rmayBe _ _).mono fun _ _ h => ⟨h.1, h.2.symm⟩)))
        go_wp2
        go_roundw
        case rel => exact ⟨k + 1, by omega, by go_num, below_drewN HB.out _⟩
        case measure => simp [intOf]; omega
    · go_wp2
      go_ret
      exact ⟨rfl, hbl⟩

set_option maxHeartbeats 1000000 in
theorem rmay_false (A : Option Addr) (n c : Nat) (X Y : Nat → Int) (w : World) (hn : n ≤ maxLen) (hP : Pts w w.heap.size A n X Y) (hm : ¬ MayT n X Y) :
    Calls Tryd.prog 52 #[.slice A n c] w fun e w' => e = .returned (.bool false) ∧ Below w.heap.size w w' := by
  unfold maxLen at hn
  rcases not_may hm with h | h | ⟨h2, h16, m, hmn, hbad, hg⟩
  · clear hm hP
    go_enter Tryd.func52, Tryd.ntmps52
    go_wp2
    go_ret
    exact ⟨rfl, Below.refl _ _⟩
  · clear hm hP
    go_enter Tryd.func52, Tryd.ntmps52
    go_wp2
    go_ret
    exact ⟨rfl, Below.refl _ _⟩
  obtain ⟨b, off, rfl, hb, hc⟩ := hP (by omega)
  have HG := Lib.hid hg
  have HC := Lib.hid hc
  have HX := Lib.hid hbad
  clear hg hc hP hm hbad
  go_enter Tryd.func52, Tryd.ntmps52
  go_wp2
  go_loopw [3] (fun i wr => ∃ k : Nat, k ≤ m ∧ i = .int .i64 k ∧ Below w.heap.size w wr) (fun i _ => n - (intOf i).toNat)
  case atStart => exact ⟨0, Nat.zero_le _, rfl, Below.refl _ _⟩
  case round =>
    obtain ⟨k, hk, rfl, hbl⟩ := hrel
    have hln : k < n := by omega
    have c1 := (hbl.cell (by exact hb)).trans (HC.out k hln).1
    have c2 := (hbl.cell (by exact hb)).trans (HC.out k hln).2
    have hbr : b < wr.heap.size := Nat.lt_of_lt_of_le hb hbl.size
    have HB := Lib.hid hbl
    clear hbl
    by_cases hlt : k < m
    · obtain ⟨g1, g2, g3⟩ := HG.out k hlt
      go_wp2_with fail
      by_cases k0 : k = 0
      · subst k0
        simp only [Nat.zero_mul, Nat.add_zero] at c1 c2
        go_quiet ((go_at_call 57; exact Calls.quiet_of_same ((rmayBe _ _).mono fun _ _ h => ⟨h.1, h.2.symm⟩)))
        go_wp2
        go_roundw
        case rel => exact ⟨1, by omega, rfl, below_drewN HB.out _⟩
        case measure => simp [intOf]; omega
      · have c3 := (HB.out.cell (by exact hb)).trans (HC.out (k - 1) (by omega)).1
        have g4 := g3 (by omega)
        have i0 : decide (0 < k) = true := by simp; omega
        have i1 : (0 : Int) < (k : Int) := by omega
        have i2 : (1 : Int) ≤ (k : Int) := by omega
        have i3 : (k : Int) - 1 < (n : Int) := by omega
        have i4 : (0 : Int) ≤ (k : Int) - 1 := by omega
        have i5 : IntKind.i64.wrap ((k : Int) - 1) = (k : Int) - 1 := IntWalk.i64_in _ (by omega)
        have i6 : ((k : Int) - 1).toNat = k - 1 := by omega
        have i7 : decide (X k ≤ X (k - 1)) = false := decide_eq_false (by omega)
        go_quiet ((go_at_call 57; exact Calls.quiet_of_same ((rmayBe _ _).mono fun _ _ h => ⟨h.1, h.2.symm⟩)))
        go_wp2
        go_roundw
        case rel => exact ⟨k + 1, by omega, by go_num, below_drewN HB.out _⟩
        case measure => simp [intOf]; omega
    · obtain rfl : k = m := by omega
      rcases HX.out with g1 | ⟨g1, g2⟩ | ⟨g1, g2, hp, g4⟩
      · go_wp2_with fail
        go_quiet ((go_at_call 57; exact Calls.quiet_of_same ((rmayBe _ _).mono fun _ _ h => ⟨h.1, h.2.symm⟩)))
        go_wp2
        go_ret
        exact ⟨rfl, below_drewN HB.out _⟩
      · go_wp2_with fail
        go_quiet ((go_at_call 57; exact Calls.quiet_of_same ((rmayBe _ _).mono fun _ _ h => ⟨h.1, h.2.symm⟩)))
        go_wp2
        go_ret
        exact ⟨rfl, below_drewN HB.out _⟩
      · have c3 := (HB.out.cell (by exact hb)).trans (HC.out (k - 1) (by omega)).1
        have i0 : decide (0 < k) = true := by simp; omega
        have i1 : (0 : Int) < (k : Int) := by omega
        have i2 : (1 : Int) ≤ (k : Int) := by omega
        have i3 : (k : Int) - 1 < (n : Int) := by omega
        have i4 : (0 : Int) ≤ (k : Int) - 1 := by omega
        have i5 : IntKind.i64.wrap ((k : Int) - 1) = (k : Int) - 1 := IntWalk.i64_in _ (by omega)
        have i6 : ((k : Int) - 1).toNat = k - 1 := by omega
        have i7 : decide (X k ≤ X (k - 1)) = true := decide_eq_true (by omega)
        go_wp2_with fail
        go_quiet ((go_at_call 57; exact Calls.quiet_of_same ((rmayBe _ _).mono fun _ _ h => ⟨h.1, h.2.symm⟩)))
        go_wp2
        go_ret
        exact ⟨rfl, below_drewN HB.out _⟩

end Go.Proofs.YtgmgpefegmlnoaaDoor.Num
