/- PlaneCalm: what is calm stays so; what is not calm counts for no more than what it is brought to. Conditions: the tables of bounds lie there; the numbers are int64 numbers. -/
import Derived.Test.YtaicijhkchfcfaaDoorPlLaw
namespace Go.Proofs.YtaicijhkchfcfaaDoor.Pl
open Go.ChangeShapes Go.WideShapes Go.ChangeAt Go.RowKit Num Mem

/-- The same, with what is calm. -/
structure TcAt (w0 : World) (p : Pt) (c q r : Nat → Int) (g : Nat) (w : World) : Prop where
  tl : TlAt w0 p c q w
  hr : Blk w g (gA r) 29
section
variable {w0 w w1 : World} {p : Pt} {c q r : Nat → Int} {g : Nat}
theorem tc_of (h : TlAt w0 p c q w) (r : Nat → Int) : TcAt w0 p c q r w.heap.size ((w.alloc (.cells (gA zG) 29)).setRow w.heap.size (gA r)) := by
  have k := tl_call h (allocs w (.cells (gA zG) 29))
  have z := blk_lt h.hq
  exact ⟨⟨below_row k.below (by omega) _, blk_row_far k.hp (by omega) _, blk_row_far k.hc (by omega) _, blk_row_far k.hq (by omega) _⟩, blk_row (blk_alloc _ _ _) _⟩
theorem tc_call (h : TcAt w0 p c q r g w) (b : Below w.heap.size w w1) : TcAt w0 p c q r g w1 := ⟨tl_call h.tl b, blk_kept h.hr b⟩
theorem tc_drew (h : TcAt w0 p c q r g w) : TcAt w0 p c q r g w.drew := ⟨tl_drew h.tl, h.hr⟩
theorem tc_s (h : TcAt w0 p c q r g w) : (ldP (.pointer (some ⟨w0.heap.size, 0, none⟩))).run Tryd.prog w = .ok (.agg (ptA p)) w ∧ (ldC (.pointer (some ⟨w0.heap.size + 1, 0, none⟩))).run Tryd.prog w = .ok (.agg (cA c)) w ∧ (ldG (.pointer (some ⟨w0.heap.size + 1 + 1, 0, none⟩))).run Tryd.prog w = .ok (.agg (gA q)) w ∧ (ldG (.pointer (some ⟨g, 0, none⟩))).run Tryd.prog w = .ok (.agg (gA r)) w :=
  ⟨ldP_blk h.tl.hp, ldC_blk h.tl.hc, ldG_blk h.tl.hq, ldG_blk h.hr⟩
end

section
attribute [local go_sem ↓] ldP_eq ldC_eq ldG_eq stG_eq
set_option maxRecDepth 100000 in
set_option maxHeartbeats 8000000 in
theorem calmLaw (p : Pt) (c q : Nat → Int) (hp : Pin p) (hc : InC c) (hq : ∀ j, j < 16 → In (q j)) (w : World) (T : TbAt w) :
    Calls Tryd.prog 4 #[.agg (ptA p), .agg (cA c), .agg (gA q)] w fun e w' => e = .returned (.bool true) ∧ Below w.heap.size w w' := by
  have HT := Lib.hid T
  have K0 := Lib.hid (tl_box w p c q)
  have hr : ∀ j, j < 16 → In (calq q j) := fun j _ => calq_In q j
  have TC := Lib.hid (fun W (U : TbAt W) => stepC p c q hp hc hq W U)
  have TD := Lib.hid (fun W (U : TbAt W) => stepC p c (calq q) hp hc hr W U)
  have SC := Lib.hid (fun W (U : TbAt W) => saysC p q hp hq W U)
  have SD := Lib.hid (fun W (U : TbAt W) => saysC p (calq q) hp hr W U)
  have CC := Lib.hid (fun W (U : TbAt W) => calmC q hq W U)
  have CD := Lib.hid (fun W (U : TbAt W) => calmC (calq q) hr W U)
  rw [calq_twice] at CD
  rw [sayq_cal] at SD
  rw [← cal_of, nx_cal] at TD
  have eT := fun W => eqP (nx p c (ofq q)) W
  have eS := fun W => eqW (sayq p q) W
  have eC := fun W => eqG (calq q) W
  obtain ⟨a0, a1⟩ : -20 ≤ calq q 0 ∧ calq q 0 ≤ 20 := cl_bd (by decide)
  obtain ⟨a2, a3⟩ : -2 ≤ calq q 1 ∧ calq q 1 ≤ 2 := cl_bd (by decide)
  obtain ⟨a4, a5⟩ : -1 ≤ calq q 2 ∧ calq q 2 ≤ 1 := cl_bd (by decide)
  obtain ⟨a6, a7⟩ : -50 ≤ calq q 3 ∧ calq q 3 ≤ 50 := cl_bd (by decide)
  generalize nx p c (ofq q) = x at *
  generalize sayq p q = y at *
  generalize calq q = z at *
  clear hp hc hq T hr
  go_enter Tryd.func4, Tryd.ntmps4
  go_upto_region 1 with (fail)
  generalize World.alloc _ _ = W at *
  have l1 := ldG_blk K0.out.hq
  go_wp2_with fail
  refine (CC.out _ (tb_kept HT.out K0.out.below)).mono ?_
  rintro e w1 ⟨rfl, b1⟩
  have K1 := Lib.hid (tl_call K0.out b1)
  clear l1 b1 K0
  have s1 := stG_blk (us := gA zG) rfl z (blk_alloc w1 _ 29)
  have K2 := Lib.hid (tc_of K1.out z)
  go_upto_region 2 with (fail)
  clear s1 K1
  generalize World.setRow _ _ _ = W2 at *
  generalize w1.heap.size = g at *
  have c0 := blk_cell K2.out.hr (o := 0) (v := .int .i64 (z 0)) rfl
  have c1 := blk_cell K2.out.hr (o := 1) (v := .int .i64 (z 1)) rfl
  have c2 := blk_cell K2.out.hr (o := 2) (v := .int .i64 (z 2)) rfl
  have c3 := blk_cell K2.out.hr (o := 3) (v := .int .i64 (z 3)) rfl
  go_upto_region 4 with (fail)
  clear c0 c1 c2 c3 a0 a1 a2 a3 a4 a5 a6 a7
  have TA := Lib.hid (tc_drew K2.out)
  clear K2
  go_region_held3 (fun w' => (ldP (.pointer (some ⟨w.heap.size, 0, none⟩))).run Tryd.prog w' = .ok (.agg (ptA p)) w' ∧ (ldC (.pointer (some ⟨w.heap.size + 1, 0, none⟩))).run Tryd.prog w' = .ok (.agg (cA c)) w' ∧ (ldG (.pointer (some ⟨w.heap.size + 1 + 1, 0, none⟩))).run Tryd.prog w' = .ok (.agg (gA q)) w' ∧ (ldG (.pointer (some ⟨g, 0, none⟩))).run Tryd.prog w' = .ok (.agg (gA z)) w')
    (first
      | (with_reducible assumption)
      | exact tc_s TA.out)
    (first
    | ((with_reducible refine (CD.out _ (tb_kept HT.out TA.out.tl.below)).mono ?_); rintro e u ⟨rfl, bb⟩; replace TA := Lib.hid (tc_call TA.out bb); clear bb)
    | ((with_reducible refine (TC.out _ (tb_kept HT.out TA.out.tl.below)).mono ?_); rintro e u ⟨rfl, bb⟩; replace TA := Lib.hid (tc_call TA.out bb); clear bb)
    | ((with_reducible refine (TD.out _ (tb_kept HT.out TA.out.tl.below)).mono ?_); rintro e u ⟨rfl, bb⟩; replace TA := Lib.hid (tc_call TA.out bb); clear bb)
    | ((with_reducible refine (SC.out _ (tb_kept HT.out TA.out.tl.below)).mono ?_); rintro e u ⟨rfl, bb⟩; replace TA := Lib.hid (tc_call TA.out bb); clear bb)
    | ((with_reducible refine (SD.out _ (tb_kept HT.out TA.out.tl.below)).mono ?_); rintro e u ⟨rfl, bb⟩; replace TA := Lib.hid (tc_call TA.out bb); clear bb)
    | ((with_reducible refine (lives _ (tb_kept HT.out TA.out.tl.below)).mono ?_); rintro e u ⟨rfl, bb⟩; replace TA := Lib.hid (tc_call TA.out bb); clear bb))
  all_goals
    go_wp2
    go_ret
    exact ⟨rfl, TA.out.tl.below⟩
end

end Go.Proofs.YtaicijhkchfcfaaDoor.Pl
