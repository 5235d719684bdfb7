/- Contract of plane's Step. Conditions: the tables of bounds lie there; the numbers are int64 numbers. -/
import Derived.Test.YtaicijhkchfcfaaDoorPlCalm
import Derived.Test.YtaicijhkchfcfaaDoorPlOf
namespace Go.Proofs.YtaicijhkchfcfaaDoor.Pl
open Go.ChangeShapes Go.WideShapes Go.ChangeAt Go.RowKit Num Mem

/-- What Step boxes: an aeroplane, a command, what the air does, a block for the answer. -/
structure SpAt (w0 : World) (p : Pt) (c q : Nat → Int) (r : Pt) (w : World) : Prop where
  below : Below w0.heap.size w0 w
  hp : Blk w w0.heap.size (ptA p) 23
  hc : Blk w (w0.heap.size + 1) (cA c) 25
  hg : Blk w (w0.heap.size + 1 + 1) (gA q) 29
  hr : Blk w (w0.heap.size + 1 + 1 + 1) (ptA r) 23
theorem sp_box (w : World) (p : Pt) (c q : Nat → Int) (r : Pt) : SpAt w p c q r ((((w.alloc (.cells (ptA p) 23)).alloc (.cells (cA c) 25)).alloc (.cells (gA q) 29)).alloc (.cells (ptA r) 23)) :=
  ⟨below_new (below_new (below_new (allocs w _) _) _) _, blk_kept (blk_kept (blk_kept (blk_alloc w _ _) (allocs _ _)) (allocs _ _)) (allocs _ _), blk_kept (blk_kept (blk_alloc2 w _ _ _) (allocs _ _)) (allocs _ _), blk_kept (blk_alloc3 w _ _ _ _) (allocs _ _), by
    have h := blk_alloc3 (w.alloc (.cells (ptA p) 23)) (.cells (cA c) 25) (.cells (gA q) 29) (ptA r) 23
    simpa using h⟩
section
variable {w0 w w1 : World} {p r : Pt} {c q : Nat → Int}
theorem sp_call (h : SpAt w0 p c q r w) (b : Below w.heap.size w w1) : SpAt w0 p c q r w1 := ⟨bthen h.below b, blk_kept h.hp b, blk_kept h.hc b, blk_kept h.hg b, blk_kept h.hr b⟩
theorem sp_drew (h : SpAt w0 p c q r w) : SpAt w0 p c q r w.drew := ⟨below_drewN h.below 1, h.hp, h.hc, h.hg, h.hr⟩
theorem sp_air (h : SpAt w0 p c q r w) (q' : Nat → Int) : SpAt w0 p c q' r (w.setRow (w0.heap.size + 1 + 1) (gA q')) :=
  ⟨below_row h.below (by omega) _, blk_row_far h.hp (by omega) _, blk_row_far h.hc (by omega) _, blk_row h.hg _, blk_row_far h.hr (by omega) _⟩
theorem sp_ret (h : SpAt w0 p c q r w) (r' : Pt) : SpAt w0 p c q r' (w.setRow (w0.heap.size + 1 + 1 + 1) (ptA r')) :=
  ⟨below_row h.below (by omega) _, blk_row_far h.hp (by omega) _, blk_row_far h.hc (by omega) _, blk_row_far h.hg (by omega) _, blk_row h.hr _⟩
theorem sp_set (h : SpAt w0 p c q r w) (o : Nat) (v : Value) {p' : Pt} (e : (ptA p).setIfInBounds o v = ptA p') : SpAt w0 p' c q r (w.setCell ⟨w0.heap.size, o, none⟩ v) :=
  ⟨h.below.setCell (Nat.le_refl _) _, blk_eq e (blk_set h.hp o v), blk_far h.hc o v (by omega), blk_far h.hg o v (by omega), blk_far h.hr o v (by omega)⟩
theorem sp_s (R : Pt) (h : SpAt w0 p c q r w) : (ldP (.pointer (some ⟨w0.heap.size, 0, none⟩))).run Tryd.prog w = .ok (.agg (ptA p)) w ∧ w.cell? ⟨w0.heap.size + 1, 1, none⟩ = some (.int .i64 (c 1)) ∧ w.cell? ⟨w0.heap.size + 1 + 1, 2, none⟩ = some (.int .i64 (q 2)) ∧ (stP (.pointer (some ⟨w0.heap.size + 1 + 1 + 1, 0, none⟩)) (.agg (ptA R))).run Tryd.prog w = .ok () (w.setRow (w0.heap.size + 1 + 1 + 1) (ptA R)) :=
  ⟨ldP_blk h.hp, blk_cell h.hc rfl, blk_cell h.hg rfl, stP_blk rfl R h.hr⟩
end
/-- How the aeroplane's numbers come about, out of what the air does brought within its bounds. -/
theorem nx_of (p : Pt) (c q : Nat → Int) : nx p c (ofq q) = ⟨sat (p.x - (360 + calq q 0)), sat (p.y + sat (c 0 + calq q 1)), nh p (sat (c 1 + calq q 2)), sat (p.t + sat (c 2 + calq q 3)), nd p (sat (c 1 + calq q 2)), ns p (sat (c 1 + calq q 2))⟩ := rfl
theorem calq_0 (q : Nat → Int) : -20 ≤ calq q 0 ∧ calq q 0 ≤ 20 := cl_bd (by decide)

section
attribute [local go_sem ↓] ldP_eq stP_eq ldG_eq stG_eq
set_option maxRecDepth 100000 in
set_option maxHeartbeats 8000000 in
theorem stepC (p : Pt) (c q : Nat → Int) (hp : Pin p) (hc : InC c) (hq : ∀ j, j < 16 → In (q j)) (w : World) (T : TbAt w) : Calls Tryd.prog 7 #[.agg (ptA p), .agg (cA c), .agg (gA q)] w fun e w' => e = .returned (.agg (ptA (nx p c (ofq q)))) ∧ Below w.heap.size w w' := by
  have HT := Lib.hid T
  have CC := Lib.hid (fun W (U : TbAt W) => calmC q hq W U)
  have ER := nx_of p c q
  have b0 := calq_0 q
  have A0 : Hid (∀ V, Calls Tryd.prog 18 #[.int .i64 360, .int .i64 (calq q 0)] V fun e w' => e = .returned (.int .i64 (360 + calq q 0)) ∧ V = w') := Lib.hid fun V => by
    have h := add 360 (calq q 0) V ⟨by decide, by decide⟩ (calq_In q 0)
    rwa [sat_in (by omega) (by omega)] at h
  have A1 := Lib.hid (fun V => sub p.x (360 + calq q 0) V hp.x ⟨by omega, by omega⟩)
  have A2 := Lib.hid (fun V => add (c 0) (calq q 1) V (hc 0 (by decide)) (calq_In q 1))
  have A3 := Lib.hid (fun V => add p.y (sat (c 0 + calq q 1)) V hp.y (Pl.sat_In _))
  have A4 := Lib.hid (fun V => add (c 2) (calq q 3) V (hc 2 (by decide)) (calq_In q 3))
  have A5 := Lib.hid (fun V => add p.t (sat (c 2 + calq q 3)) V hp.t (Pl.sat_In _))
  have A6 := Lib.hid (fun V => add (c 1) (calq q 2) V (hc 1 (by decide)) (calq_In q 2))
  have A7 := Lib.hid (fun V => sunkC ⟨sat (p.x - (360 + calq q 0)), sat (p.y + sat (c 0 + calq q 1)), p.h, sat (p.t + sat (c 2 + calq q 3)), p.d, p.s⟩ (sat (c 1 + calq q 2)) ⟨Pl.sat_In _, Pl.sat_In _, hp.h, Pl.sat_In _, hp.s⟩ (Pl.sat_In _) V)
  replace A7 : Hid (∀ V, Calls Tryd.prog 19 #[.agg (ptA ⟨sat (p.x - (360 + calq q 0)), sat (p.y + sat (c 0 + calq q 1)), p.h, sat (p.t + sat (c 2 + calq q 3)), p.d, p.s⟩), .int .i64 (sat (c 1 + calq q 2))] V fun e w' => e = .returned (.agg (ptA (nx p c (ofq q)))) ∧ Below V.heap.size V w') := A7
  clear ER b0 hp hc hq T
  generalize nx p c (ofq q) = R at *
  have K0 := Lib.hid (sp_box w p c q zP)
  generalize calq q = r at *
  generalize sat (p.x - (360 + r 0)) = x at *
  generalize sat (p.y + sat (c 0 + r 1)) = y at *
  generalize sat (p.t + sat (c 2 + r 3)) = t at *
  generalize sat (c 0 + r 1) = y1 at *
  generalize sat (c 2 + r 3) = t1 at *
  generalize sat (c 1 + r 2) = k at *
  generalize 360 + r 0 = x1 at *
  go_enter Tryd.func7, Tryd.ntmps7
  go_upto_region 1 with (fail)
  generalize World.alloc _ _ = W at *
  have l1 := ldG_blk K0.out.hg
  go_wp2_with fail
  refine (CC.out _ (tb_kept HT.out K0.out.below)).mono ?_
  rintro e w1 ⟨rfl, b1⟩
  have K1 := Lib.hid (sp_call K0.out b1)
  clear l1 b1 K0
  have s1 := stG_blk rfl r K1.out.hg
  have K2 := Lib.hid (sp_air K1.out r)
  go_upto_region 2 with (fail)
  clear s1 K1
  generalize World.setRow _ _ _ = W2 at *
  have c0 := blk_cell K2.out.hp (o := 0) (v := .int .i64 p.x) rfl
  have g0 := blk_cell K2.out.hg (o := 0) (v := .int .i64 (r 0)) rfl
  go_still_tail 7, (by kernel_rfl)
  still_call ((A0.out _).mono fun _ _ h => ⟨h.1, h.2.symm⟩)
  repeat still_step
  still_call ((A1.out _).mono fun _ _ h => ⟨h.1, h.2.symm⟩)
  repeat still_step
  refine wpStill_nil ?_
  change wpList _ _ _ _ _ W2.drew
  have K3 := Lib.hid (sp_drew K2.out)
  clear K2 c0 g0
  generalize World.drew W2 = V at *
  have c0 := blk_cell K3.out.hp (o := 0) (v := .int .i64 p.x) rfl
  have f0 := blk_free K3.out.hp 0
  have K4 := Lib.hid (sp_set K3.out 0 (.int .i64 x) (p' := ⟨x, p.y, p.h, p.t, p.d, p.s⟩) rfl)
  go_upto_region 3 with (fail)
  clear c0 f0 K3
  generalize World.setCell _ _ _ = W4 at *
  have c0 := blk_cell K4.out.hp (o := 1) (v := .int .i64 p.y) rfl
  have c1 := blk_cell K4.out.hc (o := 0) (v := .int .i64 (c 0)) rfl
  have g0 := blk_cell K4.out.hg (o := 1) (v := .int .i64 (r 1)) rfl
  go_still_tail 9, (by kernel_rfl)
  still_call ((A2.out _).mono fun _ _ h => ⟨h.1, h.2.symm⟩)
  repeat still_step
  still_call ((A3.out _).mono fun _ _ h => ⟨h.1, h.2.symm⟩)
  repeat still_step
  refine wpStill_nil ?_
  change wpList _ _ _ _ _ W4.drew
  have K5 := Lib.hid (sp_drew K4.out)
  clear K4 c0 c1 g0 V
  generalize World.drew W4 = V at *
  have c0 := blk_cell K5.out.hp (o := 1) (v := .int .i64 p.y) rfl
  have f0 := blk_free K5.out.hp 1
  have K6 := Lib.hid (sp_set K5.out 1 (.int .i64 y) (p' := ⟨x, y, p.h, p.t, p.d, p.s⟩) rfl)
  go_upto_region 4 with (fail)
  clear c0 f0 K5
  generalize World.setCell _ _ _ = W6 at *
  have c0 := blk_cell K6.out.hp (o := 3) (v := .int .i64 p.t) rfl
  have c1 := blk_cell K6.out.hc (o := 2) (v := .int .i64 (c 2)) rfl
  have g0 := blk_cell K6.out.hg (o := 3) (v := .int .i64 (r 3)) rfl
  go_still_tail 9, (by kernel_rfl)
  still_call ((A4.out _).mono fun _ _ h => ⟨h.1, h.2.symm⟩)
  repeat still_step
  still_call ((A5.out _).mono fun _ _ h => ⟨h.1, h.2.symm⟩)
  repeat still_step
  refine wpStill_nil ?_
  change wpList _ _ _ _ _ W6.drew
  have K7 := Lib.hid (sp_drew K6.out)
  clear K6 c0 c1 g0 V
  generalize World.drew W6 = V at *
  have c0 := blk_cell K7.out.hp (o := 3) (v := .int .i64 p.t) rfl
  have f0 := blk_free K7.out.hp 3
  have K8 := Lib.hid (sp_set K7.out 3 (.int .i64 t) (p' := ⟨x, y, p.h, t, p.d, p.s⟩) rfl)
  go_upto_region 5 with (fail)
  clear c0 f0 K7
  generalize World.setCell _ _ _ = W8 at *
  have TA := Lib.hid (sp_drew K8.out)
  clear K8 V
  go_region_held3 (fun w' => (ldP (.pointer (some ⟨w.heap.size, 0, none⟩))).run Tryd.prog w' = .ok (.agg (ptA ⟨x, y, p.h, t, p.d, p.s⟩)) w' ∧ w'.cell? ⟨w.heap.size + 1, 1, none⟩ = some (.int .i64 (c 1)) ∧ w'.cell? ⟨w.heap.size + 1 + 1, 2, none⟩ = some (.int .i64 (r 2)) ∧ (stP (.pointer (some ⟨w.heap.size + 1 + 1 + 1, 0, none⟩)) (.agg (ptA R))).run Tryd.prog w' = .ok () (w'.setRow (w.heap.size + 1 + 1 + 1) (ptA R)))
    (first
      | (with_reducible assumption)
      | exact sp_s R TA.out
      | exact sp_s R (sp_ret TA.out R))
    (first
    | ((with_reducible refine (A6.out _).mono ?_); rintro e u ⟨rfl, rfl⟩)
    | ((with_reducible refine (A7.out _).mono ?_); rintro e u ⟨rfl, bb⟩; replace TA := Lib.hid (sp_call TA.out bb); clear bb))
  all_goals
    have TB := Lib.hid (sp_ret TA.out R)
    go_wp2
    refine bodyPost_ret (v := .agg (ptA R)) ?_ rfl ⟨rfl, TB.out.below⟩
    exact retP Tryd.results7 _ _ (w.heap.size + 1 + 1 + 1) R rfl TB.out.hr
end

end Go.Proofs.YtaicijhkchfcfaaDoor.Pl
