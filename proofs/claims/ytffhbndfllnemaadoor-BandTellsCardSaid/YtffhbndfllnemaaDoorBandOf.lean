/- Contracts of band's within, ofHeight, Of, On, Wide, Low, and of the document's own. Conditions: the table of edges lies there; those that each row names. -/
import Derived.Test.YtffhbndfllnemaaDoorBandRow
namespace Go.Proofs.YtffhbndfllnemaaDoor.Band
open Go.ChangeShapes Go.WideShapes Go.ChangeAt Go.RowKit Num Mem
attribute [local go_sem ↓] ldE_eq

theorem withinC (n r : Int) (h0 : 0 ≤ r) (h1 : r ≤ 500) (w : World) : Calls Tryd.prog 18 #[.int .i64 n, .int .i64 r] w fun e w' => e = .returned (.bool (wi n r)) ∧ w = w' := by
  by_cases h : -r ≤ n
  · by_cases g : n ≤ r
    · have HW := Lib.hid (wi_yes h g)
      go_enter Tryd.func18, Tryd.ntmps18
      go_wp2
      go_ret
      exact ⟨ret_bool HW.out, rfl⟩
    · have HW := Lib.hid (wi_hi (n := n) (r := r) (by omega))
      go_enter Tryd.func18, Tryd.ntmps18
      go_wp2
      go_ret
      exact ⟨ret_bool HW.out, rfl⟩
  · have HW := Lib.hid (wi_lo (n := n) (r := r) (by omega))
    go_enter Tryd.func18, Tryd.ntmps18
    go_wp2
    go_ret
    exact ⟨ret_bool HW.out, rfl⟩

theorem heightC (n : Int) (w : World) (T : EdAt w) : Calls Tryd.prog 17 #[.int .i64 n] w fun e w' => e = .returned (.int .u8 (bnd n)) ∧ Below w.heap.size w w' := by
  have q := ldE_tab T
  clear T
  go_enter Tryd.func17, Tryd.ntmps17
  go_wp2
  clear q
  go_loopw [6] (fun i wr => ∃ k : Nat, i = .int .i64 k ∧ k ≤ 3 ∧ over n k ∧ Below w.heap.size w wr) (fun i _ => 3 - (intOf i).toNat)
  case atStart => exact ⟨0, rfl, by omega, fun _ h => absurd h (by omega), Below.refl _ _⟩
  case round =>
    rename_i wr
    obtain ⟨k, rfl, hk, O, B⟩ := hrel
    have HB := Lib.hid B
    have HO := Lib.hid O
    clear B O
    by_cases hk3 : k < 3
    · have k0 : (0 : Int) ≤ (k : Int) := Int.natCast_nonneg _
      have k3 : (k : Int) < 3 := by omega
      have jx := fun W => ix_e W k hk3
      by_cases h : ab k < n
      · have HR := Lib.hid (bnd_hit hk3 HO.out h)
        go_wp2
        go_ret
        exact ⟨ret_int HR.out, below_new HB.out _⟩
      · have HR := Lib.hid (over_next HO.out (by omega))
        go_wp2
        go_roundw
        case rel => exact ⟨k + 1, by go_num, by omega, HR.out, below_new HB.out _⟩
        case measure => simp [intOf]; omega
    · obtain rfl : k = 3 := by omega
      have HR := Lib.hid (bnd_none HO.out)
      clear hk hk3
      go_wp2
      go_ret
      exact ⟨ret_int HR.out, HB.out⟩

theorem ofC (V : Vt) (wh : Bool) (w : World) (T : EdAt w) : Calls Tryd.prog 5 #[.agg (vtA V), .bool wh] w fun e w' => e = .returned (.int .u8 (band V wh)) ∧ Below w.heap.size w w' := by
  have HT := Lib.hid T
  clear T
  obtain ⟨b, v, o⟩ := V
  cases wh
  · cases b
    · go_enter Tryd.func5, Tryd.ntmps5
      go_wp2
      go_ret
      exact ⟨rfl, allocs _ _⟩
    · go_enter Tryd.func5, Tryd.ntmps5
      go_wp2_with fail
      refine (heightC v _ (ed_kept HT.out (allocs _ _))).mono ?_
      rintro e w1 ⟨rfl, bb⟩
      have K1 := Lib.hid (below_alloc bb)
      clear bb
      go_wp2
      go_ret
      exact ⟨rfl, K1.out⟩
  · go_enter Tryd.func5, Tryd.ntmps5
    go_wp2
    go_ret
    exact ⟨rfl, allocs _ _⟩

theorem onC (V : Vt) (w : World) : Calls Tryd.prog 7 #[.agg (vtA V)] w fun e w' => e = .returned (.bool (onB V)) ∧ Below w.heap.size w w' := by
  obtain ⟨b, v, o⟩ := V
  cases b
  · go_enter Tryd.func7, Tryd.ntmps7
    go_wp2
    go_ret
    exact ⟨rfl, allocs _ _⟩
  · go_enter Tryd.func7, Tryd.ntmps7
    go_wp2_with fail
    refine (withinC v 300 (by decide) (by decide) _).mono ?_
    rintro e w1 ⟨rfl, rfl⟩
    go_wp2
    go_ret
    exact ⟨rfl, allocs _ _⟩
theorem wideC (V : Vt) (w : World) : Calls Tryd.prog 9 #[.agg (vtA V)] w fun e w' => e = .returned (.bool (wideB V)) ∧ Below w.heap.size w w' := by
  obtain ⟨b, v, o⟩ := V
  cases b
  · go_enter Tryd.func9, Tryd.ntmps9
    go_wp2
    go_ret
    exact ⟨rfl, allocs _ _⟩
  · go_enter Tryd.func9, Tryd.ntmps9
    go_wp2_with fail
    refine (withinC v 500 (by decide) (by decide) _).mono ?_
    rintro e w1 ⟨rfl, rfl⟩
    go_wp2
    go_ret
    exact ⟨rfl, allocs _ _⟩

theorem lowC (b : Int) (w : World) : Calls Tryd.prog 11 #[.int .u8 b] w fun e w' => e = .returned (.bool (lowB b)) ∧ w = w' := by
  by_cases h : b = 1 ∨ b = 2 ∨ b = 3 ∨ b = 4
  · rcases h with rfl | rfl | rfl | rfl
    all_goals
      go_enter Tryd.func11, Tryd.ntmps11
      go_wp2
      go_ret
      exact ⟨rfl, rfl⟩
  · have HL : Hid (lowB b = false) := decide_eq_false (by omega)
    have h1 : ((b : Int) == 1) = false := by simp; omega
    have h2 : ((b : Int) == 2) = false := by simp; omega
    have h3 : ((b : Int) == 3) = false := by simp; omega
    have h4 : ((b : Int) == 4) = false := by simp; omega
    clear h
    go_enter Tryd.func11, Tryd.ntmps11
    go_wp2
    go_ret
    exact ⟨ret_bool HL.out, rfl⟩

theorem rOfC (V : Vt) (wh : Bool) (w : World) : Calls Tryd.prog 6 #[.agg (vtA V), .bool wh] w fun e w' => e = .returned (.int .u8 (band V wh)) ∧ Below w.heap.size w w' := by
  obtain ⟨b, v, o⟩ := V
  cases wh
  · cases b
    · go_enter Tryd.func6, Tryd.ntmps6
      go_wp2
      go_ret
      exact ⟨rfl, allocs _ _⟩
    · by_cases h : 6096 < v
      · have HR := Lib.hid (bnd_0 h)
        go_enter Tryd.func6, Tryd.ntmps6
        go_wp2
        go_ret
        exact ⟨ret_int HR.out, allocs _ _⟩
      by_cases g : 1524 < v
      · have HR := Lib.hid (bnd_1 (n := v) (by omega) g)
        go_enter Tryd.func6, Tryd.ntmps6
        go_wp2
        go_ret
        exact ⟨ret_int HR.out, allocs _ _⟩
      by_cases k : 300 < v
      · have HR := Lib.hid (bnd_2 (n := v) (by omega) k)
        go_enter Tryd.func6, Tryd.ntmps6
        go_wp2
        go_ret
        exact ⟨ret_int HR.out, allocs _ _⟩
      · have HR := Lib.hid (bnd_3 (n := v) (by omega))
        go_enter Tryd.func6, Tryd.ntmps6
        go_wp2
        go_ret
        exact ⟨ret_int HR.out, allocs _ _⟩
  · go_enter Tryd.func6, Tryd.ntmps6
    go_wp2
    go_ret
    exact ⟨rfl, allocs _ _⟩

theorem rOnC (V : Vt) (w : World) : Calls Tryd.prog 8 #[.agg (vtA V)] w fun e w' => e = .returned (.bool (onB V)) ∧ Below w.heap.size w w' := by
  obtain ⟨b, v, o⟩ := V
  cases b
  · go_enter Tryd.func8, Tryd.ntmps8
    go_wp2
    go_ret
    exact ⟨rfl, allocs _ _⟩
  · by_cases h : v < -300
    · have HW : Hid (onB ⟨true, v, o⟩ = false) := wi_lo h
      go_enter Tryd.func8, Tryd.ntmps8
      go_wp2
      go_ret
      exact ⟨ret_bool HW.out, allocs _ _⟩
    by_cases g : 300 < v
    · have HW : Hid (onB ⟨true, v, o⟩ = decide (v ≤ 300)) := (wi_hi g).trans (decide_eq_false (by omega)).symm
      go_enter Tryd.func8, Tryd.ntmps8
      go_wp2
      go_ret
      exact ⟨ret_bool HW.out, allocs _ _⟩
    · have HW : Hid (onB ⟨true, v, o⟩ = true) := wi_yes (n := v) (by omega) (by omega)
      go_enter Tryd.func8, Tryd.ntmps8
      go_wp2
      go_ret
      exact ⟨ret_bool HW.out, allocs _ _⟩
theorem not_true {x : Bool} (h : x = true) : (!x) = false := by rw [h]; rfl
theorem not_false {x : Bool} (h : x = false) : (!x) = true := by rw [h]; rfl
theorem rWideC (V : Vt) (w : World) : Calls Tryd.prog 10 #[.agg (vtA V)] w fun e w' => e = .returned (.bool (wideB V)) ∧ Below w.heap.size w w' := by
  obtain ⟨b, v, o⟩ := V
  cases b
  · go_enter Tryd.func10, Tryd.ntmps10
    go_wp2
    go_ret
    exact ⟨rfl, allocs _ _⟩
  · by_cases h : v < -500
    · have HW : Hid (wideB ⟨true, v, o⟩ = true) := not_false (wi_lo h)
      go_enter Tryd.func10, Tryd.ntmps10
      go_wp2
      go_ret
      exact ⟨ret_bool HW.out, allocs _ _⟩
    by_cases g : 500 < v
    · have HW : Hid (wideB ⟨true, v, o⟩ = true) := not_false (wi_hi g)
      go_enter Tryd.func10, Tryd.ntmps10
      go_wp2
      go_ret
      exact ⟨ret_bool HW.out, allocs _ _⟩
    · have HW : Hid (wideB ⟨true, v, o⟩ = false) := not_true (wi_yes (n := v) (by omega) (by omega))
      go_enter Tryd.func10, Tryd.ntmps10
      go_wp2
      go_ret
      exact ⟨ret_bool HW.out, allocs _ _⟩

theorem rLowC (b : Int) (w : World) : Calls Tryd.prog 12 #[.int .u8 b] w fun e w' => e = .returned (.bool (lowB b)) ∧ w = w' := by
  by_cases h : b = 1 ∨ b = 2 ∨ b = 3 ∨ b = 4
  · rcases h with rfl | rfl | rfl | rfl
    all_goals
      go_enter Tryd.func12, Tryd.ntmps12
      go_wp2
      go_ret
      exact ⟨rfl, rfl⟩
  · have HL : Hid (lowB b = false) := decide_eq_false (by omega)
    have h1 : ((b : Int) == 1) = false := by simp; omega
    have h2 : ((b : Int) == 2) = false := by simp; omega
    have h3 : ((b : Int) == 3) = false := by simp; omega
    have h4 : ((b : Int) == 4) = false := by simp; omega
    clear h
    go_enter Tryd.func12, Tryd.ntmps12
    go_wp2
    go_ret
    exact ⟨ret_bool HL.out, rfl⟩

end Go.Proofs.YtffhbndfllnemaaDoor.Band
