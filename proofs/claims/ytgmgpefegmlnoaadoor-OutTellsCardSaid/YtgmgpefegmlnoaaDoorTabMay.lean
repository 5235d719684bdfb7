/- Contracts of table.May and of the document's own May: they say whether points are a table. -/
import Derived.Test.YtgmgpefegmlnoaaDoorPts
namespace Go.Proofs.YtgmgpefegmlnoaaDoor.Num
open Go.ChangeShapes Go.WideShapes Go.ChangeAt Go.RowKit

def GoodAt (X Y : Nat → Int) (i : Nat) : Prop := mb (X i) = true ∧ mb (Y i) = true ∧ (0 < i → X (i - 1) < X i)
/-- n points are a table. -/
def MayT (n : Nat) (X Y : Nat → Int) : Prop := 2 ≤ n ∧ n ≤ 16 ∧ ∀ i, i < n → GoodAt X Y i

def BadAt (X Y : Nat → Int) (m : Nat) : Prop := mb (X m) = false ∨ (mb (X m) = true ∧ mb (Y m) = false) ∨ (mb (X m) = true ∧ mb (Y m) = true ∧ 0 < m ∧ X m ≤ X (m - 1))

theorem good_or_bad (X Y : Nat → Int) (m : Nat) : GoodAt X Y m ∨ BadAt X Y m := by
  unfold GoodAt BadAt
  cases mb (X m) <;> cases mb (Y m) <;> simp
  omega

theorem first_bad (X Y : Nat → Int) (n : Nat) (h : ¬ ∀ i, i < n → GoodAt X Y i) : ∃ m, m < n ∧ BadAt X Y m ∧ ∀ i, i < m → GoodAt X Y i := by
  induction n with
  | zero => exact absurd (fun i hi => absurd hi (Nat.not_lt_zero _)) h
  | succ n ih =>
    by_cases g : ∀ i, i < n → GoodAt X Y i
    · rcases good_or_bad X Y n with a | b
      · exact absurd (fun i hi => by rcases Nat.lt_succ_iff_lt_or_eq.1 hi with q | rfl; exact g i q; exact a) h
      · exact ⟨n, Nat.lt_succ_self _, b, g⟩
    · obtain ⟨m, h1, h2, h3⟩ := ih g
      exact ⟨m, by omega, h2, h3⟩

theorem not_may {n : Nat} {X Y : Nat → Int} (h : ¬ MayT n X Y) : n < 2 ∨ 16 < n ∨ (2 ≤ n ∧ n ≤ 16 ∧ ∃ m, m < n ∧ BadAt X Y m ∧ ∀ i, i < m → GoodAt X Y i) := by
  by_cases h1 : n < 2
  · exact .inl h1
  by_cases h2 : 16 < n
  · exact .inr (.inl h2)
  exact .inr (.inr ⟨by omega, by omega, first_bad X Y n (fun g => h ⟨by omega, by omega, g⟩)⟩)

set_option maxHeartbeats 1000000 in
theorem may_true (A : Option Addr) (n c : Nat) (X Y : Nat → Int) (w : World) (hP : Pts w w.heap.size A n X Y) (hm : MayT n X Y) :
    Calls Tryd.prog 48 #[.slice A n c] w fun e w' => e = .returned (.bool true) ∧ Below w.heap.size w w' := by
  obtain ⟨h2, h16, hg⟩ := hm
  obtain ⟨b, off, rfl, hb, hc⟩ := hP (by omega)
  have HG := Lib.hid hg
  have HC := Lib.hid hc
  clear hg hc hP
  go_enter Tryd.func48, Tryd.ntmps48
  go_wp2
  go_loopw [15] (fun i wr => ∃ k : Nat, k ≤ n ∧ i = .int .i64 k ∧ Below w.heap.size w wr) (fun i _ => n - (intOf i).toNat)
  case atStart => exact ⟨0, Nat.zero_le _, rfl, Below.refl _ _⟩
  case round =>
    obtain ⟨k, hk, rfl, hbl⟩ := hrel
    by_cases hlt : k < n
    · obtain ⟨g1, g2, g3⟩ := HG.out k hlt
      have c1 := (hbl.cell (by exact hb)).trans (HC.out k hlt).1
      have c2 := (hbl.cell (by exact hb)).trans (HC.out k hlt).2
      have hbr : b < wr.heap.size := Nat.lt_of_lt_of_le hb hbl.size
      have HB := Lib.hid hbl
      clear hbl
      go_wp2_with fail
      refine (mayBe (X k) _).mono ?_
      rintro e w' ⟨rfl, rfl⟩
      rw [g1]
      go_wp2_with fail
      refine (mayBe (Y k) _).mono ?_
      rintro e w' ⟨rfl, rfl⟩
      rw [g2]
      go_wp2
      have HR : Hid (∀ o : Obj, Below w.heap.size w (wr.alloc o)) := fun o => HB.out.alloc HB.out.size o
      by_cases k0 : k = 0
      · subst k0
        go_quiet (fail)
        go_wp2
        go_roundw
        case rel => exact ⟨1, by omega, rfl, below_drewN (HR.out _) _⟩
        case measure => simp [intOf]; omega
      · have c3 := (HB.out.cell (by exact hb)).trans (HC.out (k - 1) (by omega)).1
        have g4 := g3 (by omega)
        have i0 : decide (0 < k) = true := by simp; omega
        have i1 : (0 : Int) < (k : Int) := by omega
        have i2 : (1 : Int) ≤ (k : Int) := by omega
        have i3 : (k : Int) - 1 < (n : Int) := by omega
        have i4 : (0 : Int) ≤ (k : Int) - 1 := by omega
        have i5 : IntKind.i64.wrap ((k : Int) - 1) = (k : Int) - 1 := IntWalk.i64_in _ (by omega)
        have i6 : ((k : Int) - 1).toNat = k - 1 := by omega
        have i7 : decide (X k ≤ X (k - 1)) = false := decide_eq_false (by omega)
        go_quiet (fail)
        go_wp2
        go_roundw
        case rel => exact ⟨k + 1, by omega, by go_num, below_drewN (HR.out _) _⟩
        case measure => simp [intOf]; omega
    · go_wp2
      go_ret
      exact ⟨rfl, hbl⟩

set_option maxHeartbeats 1000000 in
theorem may_false (A : Option Addr) (n c : Nat) (X Y : Nat → Int) (w : World) (hn : n ≤ maxLen) (hP : Pts w w.heap.size A n X Y) (hm : ¬ MayT n X Y) :
    Calls Tryd.prog 48 #[.slice A n c] w fun e w' => e = .returned (.bool false) ∧ Below w.heap.size w w' := by
  unfold maxLen at hn
  rcases not_may hm with h | h | ⟨h2, h16, m, hmn, hbad, hg⟩
  · clear hm hP
    go_enter Tryd.func48, Tryd.ntmps48
    go_wp2
    go_ret
    exact ⟨rfl, Below.refl _ _⟩
  · clear hm hP
    go_enter Tryd.func48, Tryd.ntmps48
    go_wp2
    go_ret
    exact ⟨rfl, Below.refl _ _⟩
  obtain ⟨b, off, rfl, hb, hc⟩ := hP (by omega)
  have HG := Lib.hid hg
  have HC := Lib.hid hc
  have HX := Lib.hid hbad
  clear hg hc hP hm hbad
  go_enter Tryd.func48, Tryd.ntmps48
  go_wp2
  go_loopw [15] (fun i wr => ∃ k : Nat, k ≤ m ∧ i = .int .i64 k ∧ Below w.heap.size w wr) (fun i _ => n - (intOf i).toNat)
  case atStart => exact ⟨0, Nat.zero_le _, rfl, Below.refl _ _⟩
  case round =>
    obtain ⟨k, hk, rfl, hbl⟩ := hrel
    have hln : k < n := by omega
    have c1 := (hbl.cell (by exact hb)).trans (HC.out k hln).1
    have c2 := (hbl.cell (by exact hb)).trans (HC.out k hln).2
    have hbr : b < wr.heap.size := Nat.lt_of_lt_of_le hb hbl.size
    have HB := Lib.hid hbl
    clear hbl
    have HR : Hid (∀ o : Obj, Below w.heap.size w (wr.alloc o)) := fun o => HB.out.alloc HB.out.size o
    by_cases hlt : k < m
    · obtain ⟨g1, g2, g3⟩ := HG.out k hlt
      go_wp2_with fail
      refine (mayBe (X k) _).mono ?_
      rintro e w' ⟨rfl, rfl⟩
      rw [g1]
      go_wp2_with fail
      refine (mayBe (Y k) _).mono ?_
      rintro e w' ⟨rfl, rfl⟩
      rw [g2]
      go_wp2
      by_cases k0 : k = 0
      · subst k0
        go_quiet (fail)
        go_wp2
        go_roundw
        case rel => exact ⟨1, by omega, rfl, below_drewN (HR.out _) _⟩
        case measure => simp [intOf]; omega
      · have c3 := (HB.out.cell (by exact hb)).trans (HC.out (k - 1) (by omega)).1
        have g4 := g3 (by omega)
        have i0 : decide (0 < k) = true := by simp; omega
        have i1 : (0 : Int) < (k : Int) := by omega
        have i2 : (1 : Int) ≤ (k : Int) := by omega
        have i3 : (k : Int) - 1 < (n : Int) := by omega
        have i4 : (0 : Int) ≤ (k : Int) - 1 := by omega
        have i5 : IntKind.i64.wrap ((k : Int) - 1) = (k : Int) - 1 := IntWalk.i64_in _ (by omega)
        have i6 : ((k : Int) - 1).toNat = k - 1 := by omega
        have i7 : decide (X k ≤ X (k - 1)) = false := decide_eq_false (by omega)
        go_quiet (fail)
        go_wp2
        go_roundw
        case rel => exact ⟨k + 1, by omega, by go_num, below_drewN (HR.out _) _⟩
        case measure => simp [intOf]; omega
    · obtain rfl : k = m := by omega
      rcases HX.out with g1 | ⟨g1, g2⟩ | ⟨g1, g2, hp, g4⟩
      · go_wp2_with fail
        refine (mayBe (X k) _).mono ?_
        rintro e w' ⟨rfl, rfl⟩
        rw [g1]
        go_wp2
        go_ret
        exact ⟨rfl, HR.out _⟩
      · go_wp2_with fail
        refine (mayBe (X k) _).mono ?_
        rintro e w' ⟨rfl, rfl⟩
        rw [g1]
        go_wp2_with fail
        refine (mayBe (Y k) _).mono ?_
        rintro e w' ⟨rfl, rfl⟩
        rw [g2]
        go_wp2
        go_ret
        exact ⟨rfl, HR.out _⟩
      · go_wp2_with fail
        refine (mayBe (X k) _).mono ?_
        rintro e w' ⟨rfl, rfl⟩
        rw [g1]
        go_wp2_with fail
        refine (mayBe (Y k) _).mono ?_
        rintro e w' ⟨rfl, rfl⟩
        rw [g2]
        go_wp2
        have c3 := (HB.out.cell (by exact hb)).trans (HC.out (k - 1) (by omega)).1
        have i0 : decide (0 < k) = true := by simp; omega
        have i1 : (0 : Int) < (k : Int) := by omega
        have i2 : (1 : Int) ≤ (k : Int) := by omega
        have i3 : (k : Int) - 1 < (n : Int) := by omega
        have i4 : (0 : Int) ≤ (k : Int) - 1 := by omega
        have i5 : IntKind.i64.wrap ((k : Int) - 1) = (k : Int) - 1 := IntWalk.i64_in _ (by omega)
        have i6 : ((k : Int) - 1).toNat = k - 1 := by omega
        have i7 : decide (X k ≤ X (k - 1)) = true := decide_eq_true (by omega)
        go_quiet (fail)
        go_wp2
        go_ret
        exact ⟨rfl, below_drewN (HR.out _) _⟩

end Go.Proofs.YtgmgpefegmlnoaaDoor.Num
