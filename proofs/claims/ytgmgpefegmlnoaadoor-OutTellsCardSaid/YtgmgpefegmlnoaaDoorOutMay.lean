/- Contracts of out's May and Limit. Conditions: the table of bounds lies there; a command's numbers are int64 numbers. -/
import Derived.Test.YtgmgpefegmlnoaaDoorOutOf
namespace Go.Proofs.YtgmgpefegmlnoaaDoor.Out
open Go.ChangeShapes Go.WideShapes Go.ChangeAt Go.RowKit Num Mem Band

/-- A command handed in. -/
structure CmAt (w0 : World) (c : Nat → Int) (w : World) : Prop where
  below : Below w0.heap.size w0 w
  hc : Blk w w0.heap.size (cA c) 26
theorem cm_box (w : World) (c : Nat → Int) : CmAt w c (w.alloc (.cells (cA c) 26)) := ⟨allocs w _, blk_alloc w _ _⟩
theorem cm_call {w0 w w1 : World} {c : Nat → Int} (h : CmAt w0 c w) (b : Below w.heap.size w w1) : CmAt w0 c w1 := ⟨bthen h.below b, blk_kept h.hc b⟩
theorem cm_drew {w0 w : World} {c : Nat → Int} (h : CmAt w0 c w) : CmAt w0 c w.drew := ⟨below_drewN h.below 1, h.hc⟩

/-- The first k of them may be. -/
def upto (c : Nat → Int) (k : Nat) : Prop := ∀ j, j < k → lo j ≤ c j ∧ c j ≤ hi j
theorem upto_zero (c : Nat → Int) : upto c 0 := fun j h => by omega
theorem upto_next {c : Nat → Int} {k : Nat} (h : upto c k) (e : within (c k) (lo k) (hi k) = c k) : upto c (k + 1) := fun j hj => by
  by_cases g : j = k
  · subst g; have := br_bd c j; unfold br at this; rw [e] at this; exact this
  · exact h j (by omega)
theorem upto_all {c : Nat → Int} (h : upto c 3) : mayB c = true := (may_is c).2 h
theorem upto_no {c : Nat → Int} {k : Nat} (hk : k < 3) (e : within (c k) (lo k) (hi k) ≠ c k) : mayB c = false := by
  cases h : mayB c
  · rfl
  · exact absurd (br_same ((may_is c).1 h k hk)) e

section
attribute [local go_sem ↓] ldB_eq
set_option maxRecDepth 100000 in
set_option maxHeartbeats 4000000 in
theorem mayC (c : Nat → Int) (hc : InC c) (w : World) (T : BdAt w) : Calls Tryd.prog 5 #[.agg (cA c)] w fun e w' => e = .returned (.bool (mayB c)) ∧ Below w.heap.size w w' := by
  have HT := Lib.hid T
  have HC := Lib.hid hc
  clear T hc
  have K0 := Lib.hid (cm_box w c)
  go_enter Tryd.func5, Tryd.ntmps5
  go_upto_region 1 with (fail)
  generalize World.alloc w _ = W at *
  go_wp2_with fail
  refine (numbersC w.heap.size _).mono ?_
  rintro e w1 ⟨rfl, b1⟩
  have K1 := Lib.hid (cm_call K0.out b1)
  clear b1 K0
  go_wp2_with fail
  go_loopw [6] (fun i wr => ∃ k : Nat, i = .int .i64 k ∧ k ≤ 3 ∧ CmAt w c wr ∧ upto c k) (fun i _ => 3 - (intOf i).toNat)
  case atStart => exact ⟨0, rfl, by omega, K1.out, upto_zero c⟩
  case round =>
    rename_i wr
    obtain ⟨k, rfl, hk, H, U⟩ := hrel
    have HA := Lib.hid H
    have HU := Lib.hid U
    clear H U K1
    by_cases hk3 : k < 3
    · have k0 : (0 : Int) ≤ (k : Int) := Int.natCast_nonneg _
      have k3 : (k : Int) < 3 := by omega
      have HK := Lib.hid hk3
      have ip := fun V => ix_p w.heap.size V k hk3
      have WC := Lib.hid (fun V => witC k (c k) (HC.out k hk3) V)
      have CK : Hid (∀ V, CmAt w c V → V.cell? ⟨w.heap.size, k, none⟩ = some (.int .i64 (c k))) := Lib.hid fun V h => blk_cell h.hc (cA_at c k hk3)
      by_cases h : within (c k) (lo k) (hi k) = c k
      · have UN := Lib.hid (upto_next HU.out h)
        have tt : ((c k : Int) != c k) = false := by simp
        rw [h] at WC
        clear h hk3
        generalize c k = x at *
        go_upto_region 4 with (fail)
        clear ip
        have TA := Lib.hid (cm_drew HA.out)
        clear HA
        go_region_held3 (fun w' => (ldB (.pointer (some ⟨0, k * 3, none⟩))).run Tryd.prog w' = .ok (.agg (bdA k)) w' ∧ w'.cell? ⟨w.heap.size, k, none⟩ = some (.int .i64 x))
          (first
            | (with_reducible assumption)
            | exact ⟨ldB_tab (bd_kept HT.out TA.out.below) HK.out, CK.out _ TA.out⟩)
          (first
          | ((with_reducible refine (WC.out _).mono ?_); rintro e u ⟨rfl, bb⟩; replace TA := Lib.hid (cm_call TA.out bb); clear bb))
        all_goals
          go_wp2
          go_roundw
          case rel => exact ⟨k + 1, by go_num, by omega, TA.out, UN.out⟩
          case measure => simp [intOf]; omega
      · have HR := Lib.hid (upto_no HK.out h)
        generalize within (c k) (lo k) (hi k) = y at *
        generalize c k = x at *
        have tt : ((y : Int) != x) = true := by simpa using h
        clear h hk3
        go_upto_region 4 with (fail)
        clear ip
        have TA := Lib.hid (cm_drew HA.out)
        clear HA
        go_region_held3 (fun w' => (ldB (.pointer (some ⟨0, k * 3, none⟩))).run Tryd.prog w' = .ok (.agg (bdA k)) w' ∧ w'.cell? ⟨w.heap.size, k, none⟩ = some (.int .i64 x))
          (first
            | (with_reducible assumption)
            | exact ⟨ldB_tab (bd_kept HT.out TA.out.below) HK.out, CK.out _ TA.out⟩)
          (first
          | ((with_reducible refine (WC.out _).mono ?_); rintro e u ⟨rfl, bb⟩; replace TA := Lib.hid (cm_call TA.out bb); clear bb))
        all_goals
          go_wp2
          go_ret
          exact ⟨ret_bool HR.out, TA.out.below⟩
    · obtain rfl : k = 3 := by omega
      have HR := Lib.hid (upto_all HU.out)
      clear HU
      go_wp2
      go_ret
      exact ⟨ret_bool HR.out, HA.out.below⟩
end

end Go.Proofs.YtgmgpefegmlnoaaDoor.Out
