/- Contracts of side's Side and Turn, and of the document's own; the law's at. Conditions: a signal's number and the command ahead are int64 numbers; a mode is a byte. -/
import Derived.Test.YtgmgpefegmlnoaaDoorSideOf
namespace Go.Proofs.YtgmgpefegmlnoaaDoor.Sd
open Go.ChangeShapes Go.WideShapes Go.ChangeAt Go.RowKit Num Mem Band

section
attribute [local go_sem ↓] ldV_eq
set_option maxRecDepth 100000 in
set_option maxHeartbeats 4000000 in
theorem sidMid (m : Int) (L H : Vt) (p : Int) (hL : Vin L) (hp : In p) (hm : m = 2 ∨ m = 3 ∨ m = 4) (w : World) :
    Calls Tryd.prog 18 #[.int .u8 m, .agg (vtA L), .agg (vtA H), .int .i64 p] w fun e w' => e = .returned (.int .i64 (sidW m L H p)) ∧ Below w.heap.size w w' := by
  have K0 := Lib.hid (tw_box w L H)
  have CL := Lib.hid (fun W => clampC p 20 W hp ⟨by decide, by decide⟩)
  have GA := Lib.hid (fun W => gainC H W)
  have AG := Lib.hid (fun W => againstC L (gn H) 20 (clamp p 20) hL (gn_bd H).1 (gn_bd H).2 (by decide) (by decide) W)
  have HR : Hid (sidW m L H p = ag L (gn H) 20 (clamp p 20)) := sid_mid L H p (by omega)
  generalize ag L (gn H) 20 (clamp p 20) = r at *
  generalize clamp p 20 = c at *
  generalize gn H = g at *
  clear hL hp
  rcases hm with rfl | rfl | rfl
  all_goals
    go_enter Tryd.func18, Tryd.ntmps18
    go_upto_region 1 with (fail)
    generalize World.alloc (World.alloc w _) _ = W at *
    go_wp2_with fail
    refine (CL.out _).mono ?_
    rintro e w1 ⟨rfl, rfl⟩
    go_upto_region 6 with (fail)
    have TA := Lib.hid (tw_drew K0.out)
    clear K0
    go_region_held3 (fun w' => (ldV (.pointer (some ⟨w.heap.size, 0, none⟩))).run Tryd.prog w' = .ok (.agg (vtA L)) w' ∧ (ldV (.pointer (some ⟨w.heap.size + 1, 0, none⟩))).run Tryd.prog w' = .ok (.agg (vtA H)) w')
      (first
        | (with_reducible assumption)
        | exact ⟨ldV_blk TA.out.hl, ldV_blk TA.out.hh⟩)
      (first
      | ((with_reducible refine (GA.out _).mono ?_); rintro e u ⟨rfl, bb⟩; replace TA := Lib.hid (tw_call TA.out bb); clear bb)
      | ((with_reducible refine (AG.out _).mono ?_); rintro e u ⟨rfl, bb⟩; replace TA := Lib.hid (tw_call TA.out bb); clear bb))
    all_goals
      go_wp2
      go_ret
      exact ⟨ret_int HR.out, TA.out.below⟩

set_option maxHeartbeats 1000000 in
theorem sideC (m : Int) (L H : Vt) (p : Int) (hL : Vin L) (hp : In p) (w : World) :
    Calls Tryd.prog 18 #[.int .u8 m, .agg (vtA L), .agg (vtA H), .int .i64 p] w fun e w' => e = .returned (.int .i64 (sidW m L H p)) ∧ Below w.heap.size w w' := by
  by_cases hm : m = 2 ∨ m = 3 ∨ m = 4
  · exact sidMid m L H p hL hp hm w
  have K0 := Lib.hid (tw_box w L H)
  have CL := Lib.hid (fun W => clampC p 20 W hp ⟨by decide, by decide⟩)
  have AG := Lib.hid (fun W => againstC L 4 10 (clamp p 20) hL (by decide) (by decide) (by decide) (by decide) W)
  by_cases h5 : m = 5
  · subst h5
    have HR : Hid (sidW 5 L H p = ag L 4 10 (clamp p 20)) := sid_five L H p
    generalize ag L 4 10 (clamp p 20) = r at *
    generalize clamp p 20 = c at *
    clear hm hL hp
    go_enter Tryd.func18, Tryd.ntmps18
    go_upto_region 1 with (fail)
    generalize World.alloc (World.alloc w _) _ = W at *
    have q := ldV_blk K0.out.hl
    go_wp2_with fail
    refine (CL.out _).mono ?_
    rintro e w1 ⟨rfl, rfl⟩
    go_wp2_with fail
    refine (AG.out _).mono ?_
    rintro e w1 ⟨rfl, bb⟩
    have TA := Lib.hid (tw_call K0.out bb)
    clear bb q
    go_wp2
    go_ret
    exact ⟨ret_int HR.out, TA.out.below⟩
  · have HR : Hid (sidW m L H p = 0) := sid_none L H p (by omega)
    have h1 : ((m : Int) == 2) = false := by simp; omega
    have h2 : ((m : Int) == 3) = false := by simp; omega
    have h3 : ((m : Int) == 4) = false := by simp; omega
    have h4 : ((m : Int) == 5) = false := by simp; omega
    generalize clamp p 20 = c at *
    clear hm h5 hL hp AG
    go_enter Tryd.func18, Tryd.ntmps18
    go_upto_region 1 with (fail)
    generalize World.alloc (World.alloc w _) _ = W at *
    go_wp2_with fail
    refine (CL.out _).mono ?_
    rintro e w1 ⟨rfl, rfl⟩
    go_wp2
    go_ret
    exact ⟨ret_int HR.out, K0.out.below⟩

set_option maxHeartbeats 2000000 in
theorem turnC (m : Int) (D : Vt) (p : Int) (hD : Vin D) (hp : In p) (w : World) :
    Calls Tryd.prog 20 #[.int .u8 m, .agg (vtA D), .int .i64 p] w fun e w' => e = .returned (.int .i64 (trnW m D p)) ∧ Below w.heap.size w w' := by
  have K0 := Lib.hid (bx_box w D)
  have CL := Lib.hid (fun W => clampC p 500 W hp ⟨by decide, by decide⟩)
  have AG := Lib.hid (fun W => againstC D 4 500 (clamp p 500) hD (by decide) (by decide) (by decide) (by decide) W)
  by_cases hm : m = 4 ∨ m = 5
  · have HR : Hid (trnW m D p = ag D 4 500 (clamp p 500)) := trn_yes D p hm
    generalize ag D 4 500 (clamp p 500) = r at *
    generalize clamp p 500 = c at *
    clear hD hp
    rcases hm with rfl | rfl
    all_goals
      go_enter Tryd.func20, Tryd.ntmps20
      go_upto_region 1 with (fail)
      generalize World.alloc w _ = W at *
      go_upto_region 4 with (fail)
      have TA := Lib.hid (bx_drew K0.out)
      clear K0
      go_region_held3 (fun w' => (ldV (.pointer (some ⟨w.heap.size, 0, none⟩))).run Tryd.prog w' = .ok (.agg (vtA D)) w')
        (first
          | (with_reducible assumption)
          | exact ldV_blk TA.out.hb)
        (first
        | ((with_reducible refine (CL.out _).mono ?_); rintro e u ⟨rfl, rfl⟩)
        | ((with_reducible refine (AG.out _).mono ?_); rintro e u ⟨rfl, bb⟩; replace TA := Lib.hid (bx_call TA.out bb); clear bb))
      all_goals
        go_wp2
        go_ret
        exact ⟨ret_int HR.out, TA.out.below⟩
  · have HR : Hid (trnW m D p = 0) := trn_none D p (by omega)
    have h3 : ((m : Int) == 4) = false := by simp; omega
    have h4 : ((m : Int) == 5) = false := by simp; omega
    clear hm hD hp AG CL
    go_enter Tryd.func20, Tryd.ntmps20
    go_wp2
    go_ret
    exact ⟨ret_int HR.out, K0.out.below⟩
end

section
attribute [local go_sem ↓] ldV_eq
set_option maxHeartbeats 2000000 in
theorem rSideNone (m : Int) (L H : Vt) (p : Int) (hm : m < 2 ∨ 5 < m) (w : World) :
    Calls Tryd.prog 21 #[.int .u8 m, .agg (vtA L), .agg (vtA H), .int .i64 p] w fun e w' => e = .returned (.int .i64 (sidW m L H p)) ∧ Below w.heap.size w w' := by
  have K0 := Lib.hid (tw_box w L H)
  have HR : Hid (sidW m L H p = 0) := sid_none L H p hm
  rcases hm with hm | hm
  all_goals
    go_enter Tryd.func21, Tryd.ntmps21
    go_wp2
    go_ret
    exact ⟨ret_int HR.out, K0.out.below⟩

set_option maxHeartbeats 2000000 in
theorem rSideC (m : Int) (L H : Vt) (p : Int) (hL : Vin L) (hp : In p) (w : World) :
    Calls Tryd.prog 21 #[.int .u8 m, .agg (vtA L), .agg (vtA H), .int .i64 p] w fun e w' => e = .returned (.int .i64 (sidW m L H p)) ∧ Below w.heap.size w w' := by
  by_cases hn : m < 2 ∨ 5 < m
  · exact rSideNone m L H p hn w
  have K0 := Lib.hid (tw_box w L H)
  have CL := Lib.hid (fun W => rclamp p 20 W hp ⟨by decide, by decide⟩)
  have GA := Lib.hid (fun W => rGainC H W)
  obtain ⟨g0, g1⟩ := gn_bd H
  obtain ⟨b, v, o⟩ := L
  have hv : In v := hL
  have BG := Lib.hid (fun W => byC v (gn H) 20 hv g0 g1 (by decide) (by decide) W)
  have B4 := Lib.hid (fun W => byC v 4 10 hv (by decide) (by decide) (by decide) (by decide) W)
  have HR : Hid (2 ≤ m ∧ m ≤ 4 → sidW m ⟨b, v, o⟩ H p = ag ⟨b, v, o⟩ (gn H) 20 (clamp p 20)) := sid_mid _ H p
  have HF : Hid (m = 5 → sidW m ⟨b, v, o⟩ H p = ag ⟨b, v, o⟩ 4 10 (clamp p 20)) := fun h => by rw [h]; exact sid_five _ H p
  have hm : m = 2 ∨ m = 3 ∨ m = 4 ∨ m = 5 := by omega
  generalize gn H = g at *
  clear hL hp hn hv g0 g1
  cases b
  · have HR' : Hid (2 ≤ m ∧ m ≤ 4 → sidW m ⟨false, v, o⟩ H p = clamp p 20) := fun h => by rw [HR.out h]; rfl
    have HF' : Hid (m = 5 → sidW m ⟨false, v, o⟩ H p = clamp p 20) := fun h => by rw [HF.out h]; rfl
    generalize clamp p 20 = c at *
    clear HR HF BG B4
    rcases hm with rfl | rfl | rfl | rfl
    all_goals
      go_enter Tryd.func21, Tryd.ntmps21
      go_upto_region 1 with (fail)
      generalize World.alloc (World.alloc w _) _ = W at *
      have q := ldV_blk K0.out.hh
      go_wp2_with fail
      refine (GA.out _).mono ?_
      rintro e w1 ⟨rfl, bb⟩
      have TA := Lib.hid (tw_call K0.out bb)
      clear bb q
      have l0 := blk_cell TA.out.hl (o := 0) (v := .bool false) rfl
      go_wp2_with fail
      refine (CL.out _).mono ?_
      rintro e w2 ⟨rfl, rfl⟩
      clear l0
      go_wp2
      go_ret
      exact ⟨ret_int (by first | exact HR'.out ⟨by decide, by decide⟩ | exact HF'.out (by trivial)), TA.out.below⟩
  · have HR' : Hid (2 ≤ m ∧ m ≤ 4 → sidW m ⟨true, v, o⟩ H p = stp v g 20) := fun h => by rw [HR.out h]; rfl
    have HF' : Hid (m = 5 → sidW m ⟨true, v, o⟩ H p = stp v 4 10) := fun h => by rw [HF.out h]; rfl
    clear HR HF CL
    generalize stp v g 20 = r1 at *
    generalize stp v 4 10 = r2 at *
    rcases hm with rfl | rfl | rfl | rfl
    all_goals
      go_enter Tryd.func21, Tryd.ntmps21
      go_upto_region 1 with (fail)
      generalize World.alloc (World.alloc w _) _ = W at *
      have q := ldV_blk K0.out.hh
      go_wp2_with fail
      refine (GA.out _).mono ?_
      rintro e w1 ⟨rfl, bb⟩
      have TA := Lib.hid (tw_call K0.out bb)
      clear bb q
      have l0 := blk_cell TA.out.hl (o := 0) (v := .bool true) rfl
      have l1 := blk_cell TA.out.hl (o := 1) (v := .int .i64 v) rfl
      go_wp2_with fail
      first
        | ((with_reducible refine (BG.out _).mono ?_); rintro e w2 ⟨rfl, rfl⟩)
        | ((with_reducible refine (B4.out _).mono ?_); rintro e w2 ⟨rfl, rfl⟩)
      clear l0 l1
      go_wp2
      go_ret
      exact ⟨ret_int (by first | exact HR'.out ⟨by decide, by decide⟩ | exact HF'.out (by trivial)), TA.out.below⟩
end

set_option maxHeartbeats 2000000 in
theorem rTurnC (m : Int) (D : Vt) (p : Int) (hD : Vin D) (hp : In p) (w : World) :
    Calls Tryd.prog 23 #[.int .u8 m, .agg (vtA D), .int .i64 p] w fun e w' => e = .returned (.int .i64 (trnW m D p)) ∧ Below w.heap.size w w' := by
  have K0 := Lib.hid (bx_box w D)
  have CL := Lib.hid (fun W => rclamp p 500 W hp ⟨by decide, by decide⟩)
  obtain ⟨b, v, o⟩ := D
  have hv : In v := hD
  have B4 := Lib.hid (fun W => byC v 4 500 hv (by decide) (by decide) (by decide) (by decide) W)
  by_cases hm : m = 4 ∨ m = 5
  · have HR : Hid (trnW m ⟨b, v, o⟩ p = ag ⟨b, v, o⟩ 4 500 (clamp p 500)) := trn_yes _ p hm
    clear hD hp hv
    cases b
    · have HR' : Hid (trnW m ⟨false, v, o⟩ p = clamp p 500) := HR.out
      clear HR B4
      generalize clamp p 500 = c at *
      rcases hm with rfl | rfl
      all_goals
        go_enter Tryd.func23, Tryd.ntmps23
        go_upto_region 1 with (fail)
        generalize World.alloc w _ = W at *
        have l0 := blk_cell K0.out.hb (o := 0) (v := .bool false) rfl
        go_wp2_with fail
        refine (CL.out _).mono ?_
        rintro e w2 ⟨rfl, rfl⟩
        clear l0
        go_wp2
        go_ret
        exact ⟨ret_int HR'.out, K0.out.below⟩
    · have HR' : Hid (trnW m ⟨true, v, o⟩ p = stp v 4 500) := HR.out
      clear HR CL
      generalize stp v 4 500 = r at *
      rcases hm with rfl | rfl
      all_goals
        go_enter Tryd.func23, Tryd.ntmps23
        go_upto_region 1 with (fail)
        generalize World.alloc w _ = W at *
        have l0 := blk_cell K0.out.hb (o := 0) (v := .bool true) rfl
        have l1 := blk_cell K0.out.hb (o := 1) (v := .int .i64 v) rfl
        go_wp2_with fail
        refine (B4.out _).mono ?_
        rintro e w2 ⟨rfl, rfl⟩
        clear l0 l1
        go_wp2
        go_ret
        exact ⟨ret_int HR'.out, K0.out.below⟩
  · have HR : Hid (trnW m ⟨b, v, o⟩ p = 0) := trn_none _ p (by omega)
    have h3 : ((m : Int) != 4) = true := by simp; omega
    have h4 : ((m : Int) != 5) = true := by simp; omega
    clear hm hD hp hv B4 CL
    go_enter Tryd.func23, Tryd.ntmps23
    go_wp2
    go_ret
    exact ⟨ret_int HR.out, K0.out.below⟩

end Go.Proofs.YtgmgpefegmlnoaaDoor.Sd
