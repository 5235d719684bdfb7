/- Slices of points ([][2]int64): what a slice of n points is in memory, how that stays while new memory is made; worlds behind quiet regions. -/
import Derived.Test.YtgmgpefegmlnoaaDoorNumMul
import Derived.Below
import Derived.Deep.Draws
import Derived.Deep.QuietTactic
import Derived.BigQuiet
namespace Go.Proofs.YtgmgpefegmlnoaaDoor.Num
open Go.ChangeShapes Go.WideShapes Go.ChangeAt Go.RowKit

/-- A slice of n points lies at A, below block B: point i is (X i, Y i). -/
def Pts (w : World) (B : Nat) (A : Option Addr) (n : Nat) (X Y : Nat → Int) : Prop :=
  0 < n → ∃ b off, A = some ⟨b, off, none⟩ ∧ b < B ∧ ∀ i, i < n → w.cell? ⟨b, off + i * 2, none⟩ = some (.int .i64 (X i)) ∧ w.cell? ⟨b, off + i * 2 + 1, none⟩ = some (.int .i64 (Y i))

theorem Pts.below {w w' : World} {B : Nat} {A : Option Addr} {n : Nat} {X Y : Nat → Int} (h : Pts w B A n X Y) (hb : Below B w w') : Pts w' B A n X Y := by
  intro hn
  obtain ⟨b, off, rfl, hlt, hc⟩ := h hn
  exact ⟨b, off, rfl, hlt, fun i hi => ⟨(hb.cell (by exact hlt)).trans (hc i hi).1, (hb.cell (by exact hlt)).trans (hc i hi).2⟩⟩

theorem Pts.more {w : World} {B B' : Nat} {A : Option Addr} {n : Nat} {X Y : Nat → Int} (h : Pts w B A n X Y) (hB : B ≤ B') : Pts w B' A n X Y := by
  intro hn
  obtain ⟨b, off, rfl, hlt, hc⟩ := h hn
  exact ⟨b, off, rfl, by omega, hc⟩

theorem Pts.next {w w' : World} {A : Option Addr} {n : Nat} {X Y : Nat → Int} (h : Pts w w.heap.size A n X Y) (hb : Below w.heap.size w w') : Pts w' w'.heap.size A n X Y := (h.below hb).more hb.size

/-- May it be a number of a table? -/
def mb (n : Int) : Bool := decide (-1099511627776 ≤ n ∧ n ≤ 1099511627776)
theorem mb_true {n : Int} (h : mb n = true) : -1099511627776 ≤ n ∧ n ≤ 1099511627776 := of_decide_eq_true h
theorem mb_false {n : Int} (h : mb n = false) : n < -1099511627776 ∨ 1099511627776 < n := by have := of_decide_eq_false h; omega
theorem mb_is {n : Int} {b : Bool} (h : (-1099511627776 ≤ n ∧ n ≤ 1099511627776) ↔ b = true) : mb n = b := by
  unfold mb; cases b
  · exact decide_eq_false (by simpa using h)
  · exact decide_eq_true (by simpa using h)

set_option maxHeartbeats 400000 in
theorem mayBe (n : Int) (w : World) : Calls Tryd.prog 54 #[.int .i64 n] w fun e w' => e = .returned (.bool (mb n)) ∧ w = w' := by
  go_enter Tryd.func54, Tryd.ntmps54
  go_wp2
  all_goals
    go_ret
    exact ⟨ret_bool (mb_is (by simp; omega)), rfl⟩

set_option maxHeartbeats 400000 in
theorem rmayBe (n : Int) (w : World) : Calls Tryd.prog 57 #[.int .i64 n] w fun e w' => e = .returned (.bool (mb n)) ∧ w = w' := by
  go_enter Tryd.func57, Tryd.ntmps57
  go_wp2
  all_goals
    go_ret
    exact ⟨ret_bool (mb_is (by simp; omega)), rfl⟩

end Go.Proofs.YtgmgpefegmlnoaaDoor.Num
