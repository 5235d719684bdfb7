/- Contracts of sink's Sink, and of the document's own; the law's at. Conditions: a signal's number and the one ahead are int64 numbers; a mode is a byte. -/
import Derived.Test.YtgmgpefegmlnoaaDoorSinkOf
namespace Go.Proofs.YtgmgpefegmlnoaaDoor.Sk
open Go.ChangeShapes Go.WideShapes Go.ChangeAt Go.RowKit Num Mem Band

section
attribute [local go_sem ↓] ldV_eq
set_option maxRecDepth 100000 in
set_option maxHeartbeats 4000000 in
theorem sinkC (m : Int) (G H : Vt) (p : Int) (hG : Vin G) (hH : Vin H) (hp : In p) (w : World) :
    Calls Tryd.prog 19 #[.int .u8 m, .agg (vtA G), .agg (vtA H), .int .i64 p] w fun e w' => e = .returned (.int .i64 (snk m G H p)) ∧ Below w.heap.size w w' := by
  have K0 := Lib.hid (tw_box w G H)
  by_cases h2 : m = 2
  · subst h2
    have HR := Lib.hid (snk_two G H p)
    have FC := Lib.hid (fun W => followC G 8 18 12 24 p hG hp (by decide) (by decide) (by decide) (by decide) W)
    generalize fol G 8 18 12 24 p = r at *
    clear hG hH hp
    go_enter Tryd.func19, Tryd.ntmps19
    go_upto_region 1 with (fail)
    generalize World.alloc (World.alloc w _) _ = W at *
    have q := ldV_blk K0.out.hl
    go_wp2_with fail
    refine (approachC G _).mono ?_
    rintro e w1 ⟨rfl, b1⟩
    have T1 := Lib.hid (tw_call K0.out b1)
    clear b1 q K0
    go_wp2_with fail
    refine (FC.out _).mono ?_
    rintro e w2 ⟨rfl, b2⟩
    have T2 := Lib.hid (tw_call T1.out b2)
    clear b2 T1
    go_wp2
    go_ret
    exact ⟨ret_int HR.out, T2.out.below⟩
  by_cases h34 : m = 3 ∨ m = 4
  · have HR := Lib.hid (snk_mid G H p h34)
    have FC := Lib.hid (fun W => followC H 100 3 3 18 p hH hp (by decide) (by decide) (by decide) (by decide) W)
    generalize fol H 100 3 3 18 p = r at *
    clear hG hH hp h2
    rcases h34 with rfl | rfl
    all_goals
      go_enter Tryd.func19, Tryd.ntmps19
      go_upto_region 1 with (fail)
      generalize World.alloc (World.alloc w _) _ = W at *
      have q := ldV_blk K0.out.hh
      go_wp2_with fail
      refine (flareC H _).mono ?_
      rintro e w1 ⟨rfl, b1⟩
      have T1 := Lib.hid (tw_call K0.out b1)
      clear b1 q K0
      go_wp2_with fail
      refine (FC.out _).mono ?_
      rintro e w2 ⟨rfl, b2⟩
      have T2 := Lib.hid (tw_call T1.out b2)
      clear b2 T1
      go_wp2
      go_ret
      exact ⟨ret_int HR.out, T2.out.below⟩
  by_cases h6 : m = 6
  · subst h6
    clear hG hH hp h2 h34
    go_enter Tryd.func19, Tryd.ntmps19
    go_wp2
    go_ret
    exact ⟨ret_int (snk_six G H p), K0.out.below⟩
  · have HR := Lib.hid (snk_none G H p (m := m) (by omega))
    have c2 : ((m : Int) == 2) = false := by simp; omega
    have c3 : ((m : Int) == 3) = false := by simp; omega
    have c4 : ((m : Int) == 4) = false := by simp; omega
    have c6 : ((m : Int) == 6) = false := by simp; omega
    clear hG hH hp h2 h34 h6
    go_enter Tryd.func19, Tryd.ntmps19
    go_wp2
    go_ret
    exact ⟨ret_int HR.out, K0.out.below⟩
end

set_option maxRecDepth 100000 in
set_option maxHeartbeats 4000000 in
theorem rSinkC (m : Int) (G H : Vt) (p : Int) (hG : Vin G) (hH : Vin H) (hp : In p) (w : World) :
    Calls Tryd.prog 22 #[.int .u8 m, .agg (vtA G), .agg (vtA H), .int .i64 p] w fun e w' => e = .returned (.int .i64 (snk m G H p)) ∧ Below w.heap.size w w' := by
  have K0 := Lib.hid (tw_box w G H)
  have HC := Lib.hid (fun W => rHeldC p hp W)
  by_cases h2 : m = 2
  · subst h2
    have HR := Lib.hid (snk_two G H p)
    obtain ⟨t, v, o⟩ := G
    cases t
    · replace HR := Lib.hid (HR.out.trans (fol_no (V := ⟨false, v, o⟩) 8 18 12 24 p rfl))
      clear hG hH hp
      go_enter Tryd.func22, Tryd.ntmps22
      go_upto_region 1 with (fail)
      generalize World.alloc (World.alloc w _) _ = W at *
      have l0 := blk_cell K0.out.hl (o := 0) (v := .bool false) rfl
      go_wp2_with fail
      refine (HC.out _).mono ?_
      rintro e w1 ⟨rfl, rfl⟩
      clear l0
      go_wp2
      go_ret
      exact ⟨ret_int HR.out, K0.out.below⟩
    · replace HR := Lib.hid (HR.out.trans (fol_beam (x := v) o p))
      have hq := quo_in (n := v) (g := 8) (by decide) hG
      have hw := within_bd (n := v.tdiv 8) (show (-6 : Int) ≤ 6 by decide)
      obtain ⟨q, eq⟩ : ∃ q, v.tdiv 8 = q := ⟨_, rfl⟩
      rw [eq] at hq HR hw
      obtain ⟨q0, q1⟩ := hq
      have WC := Lib.hid (fun W => rWithinC q (-6) 6 ⟨by omega, by omega⟩ ⟨by decide, by decide⟩ ⟨by decide, by decide⟩ (by decide) W)
      generalize within q (-6) 6 = x at *
      obtain ⟨x0, x1⟩ := hw
      clear hG hH hp HC
      go_enter Tryd.func22, Tryd.ntmps22
      go_upto_region 1 with (fail)
      generalize World.alloc (World.alloc w _) _ = W at *
      have l0 := blk_cell K0.out.hl (o := 0) (v := .bool true) rfl
      have l1 := blk_cell K0.out.hl (o := 1) (v := .int .i64 v) rfl
      go_wp2_with fail
      refine (WC.out _).mono ?_
      rintro e w1 ⟨rfl, rfl⟩
      clear l0 l1
      go_wp2
      go_ret
      exact ⟨ret_int HR.out, K0.out.below⟩
  by_cases h34 : m = 3 ∨ m = 4
  · have HR := Lib.hid (snk_mid G H p h34)
    obtain ⟨t, v, o⟩ := H
    cases t
    · replace HR := Lib.hid (HR.out.trans (fol_no (V := ⟨false, v, o⟩) 100 3 3 18 p rfl))
      clear hG hH hp h2
      rcases h34 with rfl | rfl
      all_goals
        go_enter Tryd.func22, Tryd.ntmps22
        go_upto_region 1 with (fail)
        generalize World.alloc (World.alloc w _) _ = W at *
        have l0 := blk_cell K0.out.hh (o := 0) (v := .bool false) rfl
        go_wp2_with fail
        refine (HC.out _).mono ?_
        rintro e w1 ⟨rfl, rfl⟩
        clear l0
        go_wp2
        go_ret
        exact ⟨ret_int HR.out, K0.out.below⟩
    · replace HR := Lib.hid (HR.out.trans (fol_flr v o p))
      have FC := Lib.hid (fun W => rFlaredC v hH W)
      generalize flr v = x at *
      clear hG hH hp h2 HC
      rcases h34 with rfl | rfl
      all_goals
        go_enter Tryd.func22, Tryd.ntmps22
        go_upto_region 1 with (fail)
        generalize World.alloc (World.alloc w _) _ = W at *
        have l0 := blk_cell K0.out.hh (o := 0) (v := .bool true) rfl
        have l1 := blk_cell K0.out.hh (o := 1) (v := .int .i64 v) rfl
        go_wp2_with fail
        refine (FC.out _).mono ?_
        rintro e w1 ⟨rfl, rfl⟩
        clear l0 l1
        go_wp2
        go_ret
        exact ⟨ret_int HR.out, K0.out.below⟩
  by_cases h6 : m = 6
  · subst h6
    clear hG hH hp h2 h34 HC
    go_enter Tryd.func22, Tryd.ntmps22
    go_wp2
    go_ret
    exact ⟨ret_int (snk_six G H p), K0.out.below⟩
  · have HR := Lib.hid (snk_none G H p (m := m) (by omega))
    have c2 : ((m : Int) == 2) = false := by simp; omega
    have c3 : ((m : Int) == 3) = false := by simp; omega
    have c4 : ((m : Int) == 4) = false := by simp; omega
    have c6 : ((m : Int) == 6) = false := by simp; omega
    clear hG hH hp h2 h34 h6 HC
    go_enter Tryd.func22, Tryd.ntmps22
    go_wp2
    go_ret
    exact ⟨ret_int HR.out, K0.out.below⟩

end Go.Proofs.YtgmgpefegmlnoaaDoor.Sk
