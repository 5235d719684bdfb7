/- Contracts of cmp.Compare, table.compareWhere and slices.BinarySearchFunc over points. -/
import Derived.Test.YtgmgpefegmlnoaaDoorTabMay
namespace Go.Proofs.YtgmgpefegmlnoaaDoor.Num
open Go.ChangeShapes Go.WideShapes Go.ChangeAt Go.RowKit

def cmpI (a x : Int) : Int := if a < x then -1 else if x < a then 1 else 0
theorem cmpI_lt {a x : Int} (h : a < x) : cmpI a x = -1 := if_pos h
theorem cmpI_gt {a x : Int} (h : x < a) : cmpI a x = 1 := by unfold cmpI; rw [if_neg (by omega), if_pos h]
theorem cmpI_eq {a x : Int} (h : a = x) : cmpI a x = 0 := by unfold cmpI; rw [if_neg (by omega), if_neg (by omega)]

set_option maxHeartbeats 400000 in
theorem isNaN (a : Int) (w : World) : Calls Tryd.prog 58 #[.int .i64 a] w fun e w' => e = .returned (.bool false) ∧ w = w' := by
  go_enter Tryd.func58, Tryd.ntmps58
  go_wp2
  go_ret
  exact ⟨ret_bool (by simp), rfl⟩

set_option maxHeartbeats 400000 in
theorem compare (a x : Int) (w : World) : Calls Tryd.prog 55 #[.int .i64 a, .int .i64 x] w fun e w' => e = .returned (.int .i64 (cmpI a x)) ∧ w = w' := by
  go_enter Tryd.func55, Tryd.ntmps55
  go_wp2_with fail
  refine (isNaN a _).mono ?_
  rintro e w' ⟨rfl, rfl⟩
  go_wp2_with fail
  refine (isNaN x _).mono ?_
  rintro e w' ⟨rfl, rfl⟩
  go_wp2
  all_goals
    go_ret
    exact ⟨ret_int (by first | exact cmpI_lt (by omega) | exact cmpI_gt (by omega) | exact cmpI_eq (by omega)), rfl⟩

set_option maxHeartbeats 400000 in
theorem compareWhere (a y x : Int) (w : World) : Calls Tryd.prog 50 #[.agg #[.int .i64 a, .int .i64 y], .int .i64 x] w fun e w' => e = .returned (.int .i64 (cmpI a x)) ∧ Below w.heap.size w w' := by
  go_enter Tryd.func50, Tryd.ntmps50
  go_wp2_with fail
  refine (compare a x _).mono ?_
  rintro e w' ⟨rfl, rfl⟩
  go_wp2
  go_ret
  exact ⟨rfl, (Below.refl _ _).alloc (Nat.le_refl _) _⟩

/-- Where x belongs among n rising numbers. -/
def Pos (n : Nat) (X : Nat → Int) (x : Int) (p : Nat) : Prop := p ≤ n ∧ (∀ j, j < p → X j < x) ∧ ∀ j, p ≤ j → j < n → x ≤ X j

def hit (n : Nat) (X : Nat → Int) (x : Int) (p : Nat) : Bool := decide (p < n ∧ X p = x)

theorem ret_pair2 {k : IntKind} {a b : Int} {c d : Bool} (h : b = a) (g : d = c) : Ending.returned (.tuple #[.int k a, .bool c]) = .returned (.tuple #[.int k b, .bool d]) := by rw [h, g]

set_option maxHeartbeats 1000000 in
theorem search (A : Option Addr) (n c : Nat) (X Y : Nat → Int) (x : Int) (p : Nat) (w : World) (h0 : 0 < n) (hn : n ≤ 16) (hP : Pts w w.heap.size A n X Y) (hp : Pos n X x p) :
    Calls Tryd.prog 49 #[.slice A n c, .int .i64 x, .func (.func 50) #[] #[]] w fun e w' => e = .returned (.tuple #[.int .i64 p, .bool (hit n X x p)]) ∧ Below w.heap.size w w' := by
  obtain ⟨b, off, rfl, hb, hc⟩ := hP (by omega)
  obtain ⟨p0, p1, p2⟩ := hp
  have HC := Lib.hid hc
  have H1 := Lib.hid p1
  have H2 := Lib.hid p2
  clear hc hP p1 p2
  go_enter Tryd.func49, Tryd.ntmps49
  go_wp2
  go_loopw [9, 10] (fun i j wr => ∃ lo hi : Nat, lo ≤ p ∧ p ≤ hi ∧ hi ≤ n ∧ i = .int .i64 lo ∧ j = .int .i64 hi ∧ Below w.heap.size w wr) (fun i j _ => (intOf j).toNat - (intOf i).toNat)
  case atStart => exact ⟨0, n, Nat.zero_le _, p0, Nat.le_refl _, rfl, rfl, Below.refl _ _⟩
  case round =>
    obtain ⟨lo, hi, h1, h2, h3, rfl, rfl, hbl⟩ := hrel
    by_cases hlt : lo < hi
    · have hmn : (lo + hi) / 2 < n := by omega
      have c1 := (hbl.cell (by exact hb)).trans (HC.out ((lo + hi) / 2) hmn).1
      have c2 := (hbl.cell (by exact hb)).trans (HC.out ((lo + hi) / 2) hmn).2
      have HB := Lib.hid hbl
      clear hbl
      go_wp2_with fail
      refine (compareWhere (X ((lo + hi) / 2)) (Y ((lo + hi) / 2)) x _).mono ?_
      rintro e w' ⟨rfl, hb'⟩
      have HB2 := Lib.hid (HB.out.trans (hb'.mono HB.out.size))
      clear hb' c1 c2
      by_cases hmp : (lo + hi) / 2 < p
      · rw [cmpI_lt (H1.out _ hmp)]
        go_wp2
        go_roundw
        case rel => exact ⟨(lo + hi) / 2 + 1, hi, by omega, by omega, by omega, by go_num, rfl, HB2.out⟩
        case measure => simp [intOf]; omega
      · have hx := H2.out ((lo + hi) / 2) (by omega) hmn
        have hc : 0 ≤ cmpI (X ((lo + hi) / 2)) x := by unfold cmpI; rw [if_neg (by omega)]; split <;> omega
        generalize cmpI (X ((lo + hi) / 2)) x = cc at *
        clear hx
        go_wp2
        go_roundw
        case rel => exact ⟨lo, (lo + hi) / 2, by omega, by omega, by omega, rfl, by go_num, HB2.out⟩
        case measure => simp [intOf]; omega
    · obtain rfl : lo = p := by omega
      by_cases hpn : lo < n
      · have c1 := (hbl.cell (by exact hb)).trans (HC.out lo hpn).1
        have c2 := (hbl.cell (by exact hb)).trans (HC.out lo hpn).2
        have HB := Lib.hid hbl
        clear hbl
        go_wp2_with fail
        refine (compareWhere (X lo) (Y lo) x _).mono ?_
        rintro e w' ⟨rfl, hb'⟩
        have HB2 := Lib.hid (HB.out.trans (hb'.mono HB.out.size))
        clear hb' c1 c2
        have hx := H2.out lo (by omega) hpn
        by_cases he : X lo = x
        · have Hh : Hid (hit n X x lo = true) := decide_eq_true ⟨hpn, he⟩
          rw [cmpI_eq he]
          clear hx he
          go_wp2
          go_ret2
          exact ⟨ret_pair2 rfl Hh.out, HB2.out⟩
        · have Hh : Hid (hit n X x lo = false) := decide_eq_false (fun q => he q.2)
          rw [cmpI_gt (by omega)]
          clear hx he
          go_wp2
          go_ret2
          exact ⟨ret_pair2 rfl Hh.out, HB2.out⟩
      · have Hh : Hid (hit n X x lo = false) := decide_eq_false (fun q => hpn q.1)
        go_wp2
        go_ret2
        exact ⟨ret_pair2 rfl Hh.out, hbl⟩

end Go.Proofs.YtgmgpefegmlnoaaDoor.Num
