/- Which lanes are alive, how many: contracts of lanes.Many and of the document's own. Conditions: none. -/
import Derived.Test.YtijjanoagimmhaaLanesRow
import Derived.Deep.DeepCutAuto
namespace Go.Proofs.Ytijjanoagimmhaa.Lanes
open Go.ChangeShapes Go.WideShapes Go.ChangeAt Go.RowKit Num Mid

/-- How many of the first n lanes are alive. -/
def sK (H : Nat → Bool) : Nat → Nat
  | 0 => 0
  | n + 1 => if H n then sK H n + 1 else sK H n
theorem sK_le (H : Nat → Bool) (n : Nat) : sK H n ≤ n := by
  induction n with
  | zero => exact Nat.le_refl _
  | succ n ih => unfold sK; split <;> omega
theorem sK_on {H : Nat → Bool} {n : Nat} (h : H n = true) : sK H (n + 1) = sK H n + 1 := if_pos h
theorem sK_off {H : Nat → Bool} {n : Nat} (h : H n = false) : sK H (n + 1) = sK H n := by show (if H n then _ else _) = _; rw [h]; rfl
theorem sK_cases (H : Nat → Bool) (n : Nat) : ((if H n then ((sK H n : Nat) : Int) + 1 else ((sK H n : Nat) : Int))) = ((sK H (n + 1) : Nat) : Int) := by
  cases h : H n
  · rw [sK_off h]; rfl
  · rw [sK_on h]; simp

set_option maxHeartbeats 1000000 in
theorem manyC (H : Nat → Bool) (w : World) :
    Calls Try.prog 13 #[.agg (b3A H)] w fun e w' => e = .returned (.int .i64 (sK H 3 : Nat)) ∧ Below w.heap.size w w' := by
  have K0 := Lib.hid (allocs w (.cells (b3A H) 26))
  have KX := Lib.hid (blk_alloc w (b3A H) 26)
  go_enter Try.func13, Try.ntmps13
  go_wp2_with ((with_reducible refine load_b3 rfl (.tmp 1) rfl w.heap.size H KX.out ?_ ?_); rfl)
  clear KX
  generalize World.alloc w _ = W at *
  go_loopw [3, 7] (fun v i wr => ∃ k : Nat, v = .int .i64 (sK H k : Nat) ∧ i = .int .i64 k ∧ k ≤ 3 ∧ Below w.heap.size w wr) (fun _ i _ => 3 - (intOf i).toNat)
  case atStart => exact ⟨0, rfl, rfl, by omega, K0.out⟩
  case round =>
    rename_i wr
    obtain ⟨k, rfl, rfl, hk, S⟩ := hrel
    have HA := Lib.hid S
    clear S K0
    by_cases hk3 : k < 3
    · have k0 : (0 : Int) ≤ (k : Int) := Int.natCast_nonneg _
      have k3 : (k : Int) < 3 := by omega
      have jx := fun W => ix_b H W k hk3
      have s0 : (0 : Int) ≤ ((sK H k : Nat) : Int) := Int.natCast_nonneg _
      have s1 : ((sK H k : Nat) : Int) ≤ 3 := by have := sK_le H k; omega
      cases hH : H k
      · have HH := Lib.hid hH
        rw [hH] at jx
        clear hH
        go_wp2
        go_roundw
        case rel => exact ⟨k + 1, by rw [sK_off HH.out], by go_num, by omega, HA.out⟩
        case measure => simp [intOf]; omega
      · have HH := Lib.hid hH
        rw [hH] at jx
        clear hH
        go_wp2
        go_roundw
        case rel => exact ⟨k + 1, by rw [sK_on HH.out]; go_num, by go_num, by omega, HA.out⟩
        case measure => simp [intOf]; omega
    · obtain rfl : k = 3 := by omega
      have e3 : ((3 : Nat) : Int) = 3 := rfl
      go_wp2
      exact bodyPost_ret (results_tmp rfl _ _ _) rfl ⟨rfl, HA.out⟩

set_option maxHeartbeats 1000000 in
theorem rManyC (H : Nat → Bool) (w : World) :
    Calls Try.prog 16 #[.agg (b3A H)] w fun e w' => e = .returned (.int .i64 (sK H 3 : Nat)) ∧ Below w.heap.size w w' := by
  have K0 := Lib.hid (show Below w.heap.size w (w.alloc (.cells (b3A H) 26)) ∧ Blk (w.alloc (.cells (b3A H) 26)) w.heap.size (b3A H) 26 from ⟨allocs _ _, blk_alloc _ _ _⟩)
  go_enter Try.func16, Try.ntmps16
  go_wp2_with fail
  generalize World.alloc w _ = W at *
  go_loopw [3, 4] (fun v i wr => ∃ k : Nat, v = .int .i64 (sK H k : Nat) ∧ i = .int .i64 k ∧ k ≤ 3 ∧ Below w.heap.size w wr ∧ Blk wr w.heap.size (b3A H) 26) (fun _ i _ => 3 - (intOf i).toNat)
  case atStart => exact ⟨0, rfl, rfl, by omega, K0.out⟩
  case round =>
    rename_i wr
    obtain ⟨k, rfl, rfl, hk, S⟩ := hrel
    have HA := Lib.hid S
    clear S K0
    by_cases hk3 : k < 3
    · have k0 : (0 : Int) ≤ (k : Int) := Int.natCast_nonneg _
      have k3 : (k : Int) < 3 := by omega
      have c0 := blk_cell HA.out.2 (b3_at H k hk3)
      have s0 : (0 : Int) ≤ ((sK H k : Nat) : Int) := Int.natCast_nonneg _
      have s1 : ((sK H k : Nat) : Int) ≤ 3 := by have := sK_le H k; omega
      cases hH : H k
      · have HH := Lib.hid hH
        rw [hH] at c0
        clear hH
        go_wp2
        go_roundw
        case rel => exact ⟨k + 1, by rw [sK_off HH.out], by go_num, by omega, HA.out⟩
        case measure => simp [intOf]; omega
      · have HH := Lib.hid hH
        rw [hH] at c0
        clear hH
        go_wp2
        go_roundw
        case rel => exact ⟨k + 1, by rw [sK_on HH.out]; go_num, by go_num, by omega, HA.out⟩
        case measure => simp [intOf]; omega
    · obtain rfl : k = 3 := by omega
      have e3 : ((3 : Nat) : Int) = 3 := rfl
      go_wp2
      exact bodyPost_ret (results_tmp rfl _ _ _) rfl ⟨rfl, HA.out.1⟩

end Go.Proofs.Ytijjanoagimmhaa.Lanes
