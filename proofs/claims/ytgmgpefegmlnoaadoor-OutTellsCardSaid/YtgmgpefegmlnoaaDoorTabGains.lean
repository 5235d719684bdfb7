/- Contracts of the gains, of the points' comparison, and of the law's own examples. -/
import Derived.Test.YtgmgpefegmlnoaaDoorTabAt
namespace Go.Proofs.YtgmgpefegmlnoaaDoor.Num
open Go.ChangeShapes Go.WideShapes Go.ChangeAt Go.RowKit

def GX (i : Nat) : Int := if i = 0 then 0 else if i = 1 then 1524 else if i = 2 then 6096 else 30000
def GY (i : Nat) : Int := if i = 0 then 4 else if i = 1 then 8 else if i = 2 then 12 else 16
def gobj : Obj := .cells #[.int .i64 0, .int .i64 4, .int .i64 1524, .int .i64 8, .int .i64 6096, .int .i64 12, .int .i64 30000, .int .i64 16] 61

theorem gmay : MayT 4 GX GY := by
  refine ⟨by omega, by omega, fun i hi => ?_⟩
  match i, hi with
  | 0, _ => exact ⟨by decide, by decide, by decide⟩
  | 1, _ => exact ⟨by decide, by decide, by decide⟩
  | 2, _ => exact ⟨by decide, by decide, by decide⟩
  | 3, _ => exact ⟨by decide, by decide, by decide⟩

theorem new_cell (w : World) (cs : Array Value) (t : TypeId) (i : Nat) : (w.alloc (.cells cs t)).cell? ⟨w.heap.size, i, none⟩ = cs[i]? :=
  cell_of_row (w.alloc (.cells cs t)) w.heap.size i cs t (0, 0) (heap_alloc_new w _)

theorem gpts (w : World) : Pts (w.alloc gobj) (w.alloc gobj).heap.size (some ⟨w.heap.size, 0, none⟩) 4 GX GY := by
  refine fun _ => ⟨w.heap.size, 0, rfl, by simp, fun i hi => ?_⟩
  unfold gobj
  rw [new_cell, new_cell]
  match i, hi with
  | 0, _ => exact ⟨rfl, rfl⟩
  | 1, _ => exact ⟨rfl, rfl⟩
  | 2, _ => exact ⟨rfl, rfl⟩
  | 3, _ => exact ⟨rfl, rfl⟩

def IsGains (w : World) (e : Ending) (w' : World) : Prop :=
  e = .returned (.slice (some ⟨w.heap.size, 0, none⟩) 4 4) ∧ Below w.heap.size w w' ∧ Pts w' w'.heap.size (some ⟨w.heap.size, 0, none⟩) 4 GX GY ∧ w'.heap[w.heap.size]? = some gobj

set_option maxHeartbeats 1000000 in
theorem gains (w : World) : Calls Tryd.prog 44 #[] w (IsGains w) := by
  go_enter Tryd.func44, Tryd.ntmps44
  go_wp2
  go_ret
  exact ⟨rfl, (Below.refl _ _).alloc (Nat.le_refl _) _, gpts w, heap_alloc_new w _⟩

set_option maxHeartbeats 1000000 in
theorem rgains (w : World) : Calls Tryd.prog 47 #[] w (IsGains w) := by
  go_enter Tryd.func47, Tryd.ntmps47
  go_wp2
  go_ret
  exact ⟨rfl, (Below.refl _ _).alloc (Nat.le_refl _) _, gpts w, heap_alloc_new w _⟩

theorem gpos {x : Int} {p : Nat} (h4 : p ≤ 4) (h : (p = 0 ∨ GX (p - 1) < x) ∧ (p = 4 ∨ x ≤ GX p)) : Pos 4 GX x p := by
  have m : ∀ i j : Nat, i ≤ j → j < 4 → GX i ≤ GX j := by
    intro i j hij hj
    have e : ∀ j : Fin 4, ∀ i : Fin 4, i ≤ j → GX i ≤ GX j := by decide
    exact e ⟨j, hj⟩ ⟨i, by omega⟩ hij
  refine ⟨h4, fun j hj => ?_, fun j hj hn => ?_⟩
  · have := m j (p - 1) (by omega) (by omega); rcases h.1 with rfl | h <;> omega
  · have := m p j hj hn; rcases h.2 with rfl | h <;> omega

theorem one_pts (w : World) : Pts (w.alloc (.cells #[.int .i64 1, .int .i64 2] 61)) (w.alloc (.cells #[.int .i64 1, .int .i64 2] 61)).heap.size (some ⟨w.heap.size, 0, none⟩) 1 (fun _ => 1) (fun _ => 2) := by
  refine fun _ => ⟨w.heap.size, 0, rfl, by simp, fun i hi => ?_⟩
  rw [new_cell, new_cell]
  match i, hi with
  | 0, _ => exact ⟨rfl, rfl⟩

theorem at_762 : atN 4 GX GY 762 1 = 6 ∧ atE 4 GX GY 762 1 = 0 := by decide
theorem at_3810 : atN 4 GX GY 3810 2 = 10 ∧ atE 4 GX GY 3810 2 = 0 := by decide
theorem at_99999 : atN 4 GX GY 99999 4 = 16 ∧ atE 4 GX GY 99999 4 = 0 := by decide

end Go.Proofs.YtgmgpefegmlnoaaDoor.Num
