/- Contracts of sink's Held, follow, approach, flare, Flared, and of the document's own. Conditions: a signal's number and the one ahead are int64 numbers; those that each row names. -/
import Derived.Test.YtgmgpefegmlnoaaDoorSinkNum
namespace Go.Proofs.YtgmgpefegmlnoaaDoor.Sk
open Go.ChangeShapes Go.WideShapes Go.ChangeAt Go.RowKit Num Mem Band

theorem dv_in (a b : Int) (w : World) (ha : In a) (hb : 0 < b) :
    Calls Tryd.prog 42 #[.int .i64 a, .int .i64 b] w fun e w' => e = .returned (.tuple #[.int .i64 (a.tdiv b), .int .i64 0]) ∧ w' = w :=
  (div a b w ha).mono fun e w' ⟨he, hw⟩ => ⟨by rw [he, divN_n (by omega) (by omega), divE_n (by omega) (by omega)], hw.symm⟩

theorem heldC (p : Int) (hp : In p) (w : World) : Calls Tryd.prog 45 #[.int .i64 p] w fun e w' => e = .returned (.int .i64 (hld p)) ∧ w = w' := by
  have WC := Lib.hid (fun W => withinC p (-20) 24 W hp ⟨by decide, by decide⟩ ⟨by decide, by decide⟩)
  clear hp
  go_enter Tryd.func45, Tryd.ntmps45
  go_wp2_with fail
  refine (WC.out _).mono ?_
  rintro e w1 ⟨rfl, rfl⟩
  go_wp2
  go_ret
  exact ⟨rfl, rfl⟩

set_option maxHeartbeats 400000 in
theorem rWithinC (n l h : Int) (hn : In n) (hl : In l) (hh : In h) (c : l ≤ h) (w : World) :
    Calls Tryd.prog 38 #[.int .i64 n, .int .i64 l, .int .i64 h] w fun e w' => e = .returned (.int .i64 (within n l h)) ∧ w = w' := by
  obtain ⟨ha1, ha2⟩ := hn
  obtain ⟨hb1, hb2⟩ := hl
  obtain ⟨hc1, hc2⟩ := hh
  go_enter Tryd.func38, Tryd.ntmps38
  go_wp2
  all_goals
    go_ret
    exact ⟨ret_int (by first | exact within_a (by omega) | exact within_b (by omega) (by omega) | exact within_c (by omega) (by omega)), rfl⟩

theorem rHeldC (p : Int) (hp : In p) (w : World) : Calls Tryd.prog 37 #[.int .i64 p] w fun e w' => e = .returned (.int .i64 (hld p)) ∧ w = w' := by
  have WC := Lib.hid (fun W => rWithinC p (-20) 24 hp ⟨by decide, by decide⟩ ⟨by decide, by decide⟩ (by decide) W)
  clear hp
  go_enter Tryd.func37, Tryd.ntmps37
  go_wp2_with fail
  refine (WC.out _).mono ?_
  rintro e w1 ⟨rfl, rfl⟩
  go_wp2
  go_ret
  exact ⟨rfl, rfl⟩

set_option maxHeartbeats 1000000 in
theorem rFlaredC (x : Int) (hx : In x) (w : World) : Calls Tryd.prog 39 #[.int .i64 x] w fun e w' => e = .returned (.int .i64 (flr x)) ∧ w = w' := by
  have hq := quo_in (g := 100) (by decide) hx
  have HR := Lib.hid (flr_eq x)
  obtain ⟨q, eq⟩ : ∃ q, x.tdiv 100 = q := ⟨_, rfl⟩
  rw [eq] at hq HR
  obtain ⟨q0, q1⟩ := hq
  have WC := Lib.hid (fun W => rWithinC (3 + q) 3 18 ⟨by omega, by omega⟩ ⟨by decide, by decide⟩ ⟨by decide, by decide⟩ (by decide) W)
  clear hx
  go_enter Tryd.func39, Tryd.ntmps39
  go_wp2_with fail
  refine (WC.out _).mono ?_
  rintro e w1 ⟨rfl, rfl⟩
  go_wp2
  go_ret
  exact ⟨ret_int HR.out, rfl⟩

set_option maxRecDepth 100000 in
set_option maxHeartbeats 4000000 in
theorem followC (V : Vt) (p b l m h : Int) (hv : Vin V) (hh : In h) (hp : 4 ≤ p ∧ p ≤ 100) (hb : 0 ≤ b ∧ b ≤ 18) (hl : 0 ≤ l ∧ l ≤ 24) (hm : 0 ≤ m ∧ m ≤ 24) (w : World) :
    Calls Tryd.prog 32 #[.agg (coA V p b l m), .int .i64 h] w fun e w' => e = .returned (.int .i64 (fol V p b l m h)) ∧ Below w.heap.size w w' := by
  obtain ⟨t, v, o⟩ := V
  cases t
  · have HH := Lib.hid (fun W => heldC h hh W)
    clear hh hp hb hl hm hv
    go_enter Tryd.func32, Tryd.ntmps32
    go_wp2_with fail
    refine (HH.out _).mono ?_
    rintro e w1 ⟨rfl, rfl⟩
    go_wp2
    go_ret
    exact ⟨rfl, allocs _ _⟩
  · have K0 := Lib.hid (co_box w ⟨true, v, o⟩ p b l m)
    have hq := quo_in (g := p) (by omega) hv
    have DV := Lib.hid (fun W => dv_in v p W hv (by omega))
    have HR := Lib.hid (fol_yes (V := ⟨true, v, o⟩) p b l m h rfl)
    replace HR : Hid (fol ⟨true, v, o⟩ p b l m h = within (b + v.tdiv p) l m) := HR
    generalize v.tdiv p = q at *
    obtain ⟨q0, q1⟩ := hq
    have AD : Hid (∀ W, Calls Tryd.prog 40 #[.int .i64 b, .int .i64 q] W fun e w' => e = .returned (.int .i64 (b + q)) ∧ W = w') := fun W => by
      have := add b q W ⟨by omega, by omega⟩ ⟨by omega, by omega⟩
      rwa [sat_in (by omega) (by omega)] at this
    have WC := Lib.hid (fun W => withinC (b + q) l m W ⟨by omega, by omega⟩ ⟨by omega, by omega⟩ ⟨by omega, by omega⟩)
    clear hh hp hb hl hm hv q0 q1
    go_enter Tryd.func32, Tryd.ntmps32
    go_wp2_with fail
    refine (DV.out _).mono ?_
    rintro e w1 ⟨rfl, rfl⟩
    go_upto_region 4 with (fail)
    generalize World.alloc w _ = W at *
    have TA := Lib.hid (co_drew K0.out)
    clear K0
    go_region_held3 (fun w' => w'.cell? ⟨w.heap.size, 4, none⟩ = some (.int .i64 b) ∧ w'.cell? ⟨w.heap.size, 5, none⟩ = some (.int .i64 l) ∧ w'.cell? ⟨w.heap.size, 6, none⟩ = some (.int .i64 m))
      (first
        | (with_reducible assumption)
        | exact ⟨blk_cell TA.out.hb rfl, blk_cell TA.out.hb rfl, blk_cell TA.out.hb rfl⟩)
      (first
      | ((with_reducible refine (AD.out _).mono ?_); rintro e u ⟨rfl, rfl⟩)
      | ((with_reducible refine (WC.out _).mono ?_); rintro e u ⟨rfl, rfl⟩))
    all_goals
      go_wp2
      go_ret
      exact ⟨ret_int HR.out, TA.out.below⟩

set_option maxHeartbeats 1000000 in
theorem approachC (V : Vt) (w : World) : Calls Tryd.prog 33 #[.agg (vtA V)] w fun e w' => e = .returned (.agg (coA V 8 18 12 24)) ∧ Below w.heap.size w w' := by
  obtain ⟨t, v, o⟩ := V
  go_enter Tryd.func33, Tryd.ntmps33
  go_wp2
  refine bodyPost_ret (v := .agg (coA ⟨t, v, o⟩ 8 18 12 24)) (by simp [results, Tryd.results33, go_sem]) rfl ⟨rfl, ?_⟩
  exact below_new (allocs _ _) _

set_option maxHeartbeats 1000000 in
theorem flareC (V : Vt) (w : World) : Calls Tryd.prog 34 #[.agg (vtA V)] w fun e w' => e = .returned (.agg (coA V 100 3 3 18)) ∧ Below w.heap.size w w' := by
  obtain ⟨t, v, o⟩ := V
  go_enter Tryd.func34, Tryd.ntmps34
  go_wp2
  refine bodyPost_ret (v := .agg (coA ⟨t, v, o⟩ 100 3 3 18)) (by simp [results, Tryd.results34, go_sem]) rfl ⟨rfl, ?_⟩
  exact below_new (allocs _ _) _

end Go.Proofs.YtgmgpefegmlnoaaDoor.Sk
