/- Contract of the document's Step. Conditions: the numbers are int64 numbers. -/
import Derived.Test.YtaicijhkchfcfaaDoorPlRCalm
import Derived.Test.YtaicijhkchfcfaaDoorPlStep
namespace Go.Proofs.YtaicijhkchfcfaaDoor.Pl
open Go.ChangeShapes Go.WideShapes Go.ChangeAt Go.RowKit Num Mem

/-- What becomes of the height. -/
theorem sink_ways (p : Pt) (k : Int) : (p.d = true ∧ nh p k = 0 ∧ nd p k = true ∧ ns p k = p.s) ∨ (p.d = false ∧ sat (p.h - k) ≤ 0 ∧ nh p k = 0 ∧ nd p k = true ∧ ns p k = k) ∨ (p.d = false ∧ 0 < sat (p.h - k) ∧ nh p k = sat (p.h - k) ∧ nd p k = false ∧ ns p k = p.s) := by
  cases e : p.d
  · by_cases h : sat (p.h - k) ≤ 0
    · exact .inr (.inl ⟨rfl, h, nh_hit e h, nd_hit h, ns_hit e h⟩)
    · have h' : 0 < sat (p.h - k) := by omega
      exact .inr (.inr ⟨rfl, h', nh_up e h', nd_up e h', ns_up e h'⟩)
  · exact .inl ⟨rfl, nh_dn k e, nd_dn k e, ns_dn k e⟩

section
attribute [local go_sem ↓] ldP_eq stP_eq ldG_eq stG_eq
set_option maxRecDepth 100000 in
set_option maxHeartbeats 8000000 in
theorem rStepC (p : Pt) (c q : Nat → Int) (hp : Pin p) (hc : InC c) (hq : ∀ j, j < 16 → In (q j)) (w : World) : Calls Tryd.prog 8 #[.agg (ptA p), .agg (cA c), .agg (gA q)] w fun e w' => e = .returned (.agg (ptA (nx p c (ofq q)))) ∧ Below w.heap.size w w' := by
  have CC := Lib.hid (fun W => rCalmC q hq W)
  have ER := Lib.hid (nx_of p c q)
  obtain ⟨b0, b1⟩ := calq_0 q
  have A1 := Lib.hid (fun V => rsub p.x (360 + calq q 0) V hp.x ⟨by omega, by omega⟩)
  have A2 := Lib.hid (fun V => radd (c 0) (calq q 1) V (hc 0 (by decide)) (calq_In q 1))
  have A3 := Lib.hid (fun V => radd p.y (sat (c 0 + calq q 1)) V hp.y (Pl.sat_In _))
  have A4 := Lib.hid (fun V => radd (c 2) (calq q 3) V (hc 2 (by decide)) (calq_In q 3))
  have A5 := Lib.hid (fun V => radd p.t (sat (c 2 + calq q 3)) V hp.t (Pl.sat_In _))
  have A6 := Lib.hid (fun V => radd (c 1) (calq q 2) V (hc 1 (by decide)) (calq_In q 2))
  have A7 := Lib.hid (fun V => rsub p.h (sat (c 1 + calq q 2)) V hp.h (Pl.sat_In _))
  have way := sink_ways p (sat (c 1 + calq q 2))
  clear hp hc hq
  have K0 := Lib.hid (sp_box w p c q zP)
  generalize nx p c (ofq q) = R at *
  generalize calq q = r at *
  generalize sat (p.x - (360 + r 0)) = x at *
  generalize sat (p.y + sat (c 0 + r 1)) = y at *
  generalize sat (p.t + sat (c 2 + r 3)) = t at *
  generalize sat (c 0 + r 1) = y1 at *
  generalize sat (c 2 + r 3) = t1 at *
  generalize sat (c 1 + r 2) = k at *
  generalize nh p k = nh' at *
  generalize nd p k = nd' at *
  generalize ns p k = ns' at *
  obtain ⟨px, py, h, pt, d, s⟩ := p
  dsimp only at *
  generalize sat (h - k) = sh at *
  have HW := Lib.hid way
  clear way
  go_enter Tryd.func8, Tryd.ntmps8
  go_upto_region 1 with (fail)
  generalize World.alloc _ _ = W at *
  have l1 := ldG_blk K0.out.hg
  go_wp2_with fail
  refine (CC.out _).mono ?_
  rintro e w1 ⟨rfl, b1⟩
  have K1 := Lib.hid (sp_call K0.out b1)
  clear l1 b1 K0
  have s1 := stG_blk rfl r K1.out.hg
  have K2 := Lib.hid (sp_air K1.out r)
  go_upto_region 2 with (fail)
  clear s1 K1
  generalize World.setRow _ _ _ = W2 at *
  have c0 := blk_cell K2.out.hp (o := 0) (v := .int .i64 px) rfl
  have f0 := blk_free K2.out.hp 0
  have g0 := blk_cell K2.out.hg (o := 0) (v := .int .i64 (r 0)) rfl
  go_wp2_with fail
  refine (A1.out _).mono ?_
  rintro e w1 ⟨rfl, rfl⟩
  have K4 := Lib.hid (sp_set K2.out 0 (.int .i64 x) (p' := ⟨x, py, h, pt, d, s⟩) rfl)
  go_upto_region 3 with (fail)
  clear c0 f0 g0 K2
  generalize World.setCell _ _ _ = W4 at *
  have c0 := blk_cell K4.out.hp (o := 1) (v := .int .i64 py) rfl
  have c1 := blk_cell K4.out.hc (o := 0) (v := .int .i64 (c 0)) rfl
  have g0 := blk_cell K4.out.hg (o := 1) (v := .int .i64 (r 1)) rfl
  go_still_tail 9, (by kernel_rfl)
  still_call ((A2.out _).mono fun _ _ h => ⟨h.1, h.2.symm⟩)
  repeat still_step
  still_call ((A3.out _).mono fun _ _ h => ⟨h.1, h.2.symm⟩)
  repeat still_step
  refine wpStill_nil ?_
  change wpList _ _ _ _ _ W4.drew
  have K5 := Lib.hid (sp_drew K4.out)
  clear K4 c0 c1 g0
  generalize World.drew W4 = V at *
  have c0 := blk_cell K5.out.hp (o := 1) (v := .int .i64 py) rfl
  have f0 := blk_free K5.out.hp 1
  have K6 := Lib.hid (sp_set K5.out 1 (.int .i64 y) (p' := ⟨x, y, h, pt, d, s⟩) rfl)
  go_upto_region 4 with (fail)
  clear c0 f0 K5
  generalize World.setCell _ _ _ = W6 at *
  have c0 := blk_cell K6.out.hp (o := 3) (v := .int .i64 pt) rfl
  have c1 := blk_cell K6.out.hc (o := 2) (v := .int .i64 (c 2)) rfl
  have g0 := blk_cell K6.out.hg (o := 3) (v := .int .i64 (r 3)) rfl
  go_still_tail 9, (by kernel_rfl)
  still_call ((A4.out _).mono fun _ _ h => ⟨h.1, h.2.symm⟩)
  repeat still_step
  still_call ((A5.out _).mono fun _ _ h => ⟨h.1, h.2.symm⟩)
  repeat still_step
  refine wpStill_nil ?_
  change wpList _ _ _ _ _ W6.drew
  have K7 := Lib.hid (sp_drew K6.out)
  clear K6 c0 c1 g0 V
  generalize World.drew W6 = V at *
  have c0 := blk_cell K7.out.hp (o := 3) (v := .int .i64 pt) rfl
  have f0 := blk_free K7.out.hp 3
  have K8 := Lib.hid (sp_set K7.out 3 (.int .i64 t) (p' := ⟨x, y, h, t, d, s⟩) rfl)
  go_upto_region 5 with (fail)
  clear c0 f0 K7
  generalize World.setCell _ _ _ = W8 at *
  have way := HW.out
  clear HW V
  rcases way with ⟨rfl, rfl, rfl, rfl⟩ | ⟨rfl, hr, rfl, rfl, rfl⟩ | ⟨rfl, hr, rfl, rfl, rfl⟩
  · have c2 := blk_cell K8.out.hp (o := 2) (v := .int .i64 h) rfl
    have c4 := blk_cell K8.out.hp (o := 4) (v := .bool true) rfl
    have f2 := blk_free K8.out.hp 2
    have K9 := Lib.hid (sp_set K8.out 2 (.int .i64 0) (p' := R) (by rw [ER.out]; rfl))
    have l1 := ldP_blk K9.out.hp
    have s1 := stP_blk rfl R K9.out.hr
    have TB := Lib.hid (sp_ret K9.out R)
    clear ER K9 K8
    go_wp2
    refine bodyPost_ret (v := .agg (ptA R)) ?_ rfl ⟨rfl, TB.out.below⟩
    exact retP Tryd.results8 _ _ (w.heap.size + 1 + 1 + 1) R rfl TB.out.hr
  · have c1 := blk_cell K8.out.hc (o := 1) (v := .int .i64 (c 1)) rfl
    have g2 := blk_cell K8.out.hg (o := 2) (v := .int .i64 (r 2)) rfl
    have c2 := blk_cell K8.out.hp (o := 2) (v := .int .i64 h) rfl
    have c4 := blk_cell K8.out.hp (o := 4) (v := .bool false) rfl
    have c5 := blk_cell K8.out.hp (o := 5) (v := .int .i64 s) rfl
    have f2 := blk_free K8.out.hp 2
    have f4 := blk_free K8.out.hp 4
    have f5 := blk_free K8.out.hp 5
    go_wp2_with fail
    refine (A6.out _).mono ?_
    rintro e w1 ⟨rfl, rfl⟩
    go_wp2_with fail
    refine (A7.out _).mono ?_
    rintro e w1 ⟨rfl, rfl⟩
    have K9 := Lib.hid (sp_set (sp_set (sp_set (sp_set K8.out 2 (.int .i64 sh) (p' := ⟨x, y, sh, t, false, s⟩) rfl) 2 (.int .i64 0) (p' := ⟨x, y, 0, t, false, s⟩) rfl) 4 (.bool true) (p' := ⟨x, y, 0, t, true, s⟩) rfl) 5 (.int .i64 ns') (p' := R) (by rw [ER.out]; rfl))
    have l1 := ldP_blk K9.out.hp
    have s1 := stP_blk rfl R K9.out.hr
    have TB := Lib.hid (sp_ret K9.out R)
    clear ER K9 K8
    go_wp2
    refine bodyPost_ret (v := .agg (ptA R)) ?_ rfl ⟨rfl, TB.out.below⟩
    exact retP Tryd.results8 _ _ (w.heap.size + 1 + 1 + 1) R rfl TB.out.hr
  · have c1 := blk_cell K8.out.hc (o := 1) (v := .int .i64 (c 1)) rfl
    have g2 := blk_cell K8.out.hg (o := 2) (v := .int .i64 (r 2)) rfl
    have c2 := blk_cell K8.out.hp (o := 2) (v := .int .i64 h) rfl
    have c4 := blk_cell K8.out.hp (o := 4) (v := .bool false) rfl
    have f2 := blk_free K8.out.hp 2
    go_wp2_with fail
    refine (A6.out _).mono ?_
    rintro e w1 ⟨rfl, rfl⟩
    go_wp2_with fail
    refine (A7.out _).mono ?_
    rintro e w1 ⟨rfl, rfl⟩
    have K9 := Lib.hid (sp_set K8.out 2 (.int .i64 nh') (p' := R) (by rw [ER.out]; rfl))
    have l1 := ldP_blk K9.out.hp
    have s1 := stP_blk rfl R K9.out.hr
    have TB := Lib.hid (sp_ret K9.out R)
    clear ER K9 K8
    go_wp2
    refine bodyPost_ret (v := .agg (ptA R)) ?_ rfl ⟨rfl, TB.out.below⟩
    exact retP Tryd.results8 _ _ (w.heap.size + 1 + 1 + 1) R rfl TB.out.hr
end

end Go.Proofs.YtaicijhkchfcfaaDoor.Pl
