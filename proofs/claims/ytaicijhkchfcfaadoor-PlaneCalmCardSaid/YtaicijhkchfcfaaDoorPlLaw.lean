/- PlaneFlies: where any aeroplane is a frame behind, what sources say of it, where the beam is, and what the air does, are the document's. Conditions: the tables of bounds lie there; the numbers are int64 numbers. -/
import Derived.Test.YtaicijhkchfcfaaDoorPlLives
import Derived.Test.YtaicijhkchfcfaaDoorPlRStep
import Derived.Test.YtaicijhkchfcfaaDoorPlRSays
namespace Go.Proofs.YtaicijhkchfcfaaDoor.Pl
open Go.ChangeShapes Go.WideShapes Go.ChangeAt Go.RowKit Num Mem

/-- What the laws box. -/
structure TlAt (w0 : World) (p : Pt) (c q : Nat → Int) (w : World) : Prop where
  below : Below w0.heap.size w0 w
  hp : Blk w w0.heap.size (ptA p) 23
  hc : Blk w (w0.heap.size + 1) (cA c) 25
  hq : Blk w (w0.heap.size + 1 + 1) (gA q) 29
theorem tl_box (w : World) (p : Pt) (c q : Nat → Int) : TlAt w p c q (((w.alloc (.cells (ptA p) 23)).alloc (.cells (cA c) 25)).alloc (.cells (gA q) 29)) :=
  ⟨below_new (below_new (allocs w _) _) _, blk_kept (blk_kept (blk_alloc w _ _) (allocs _ _)) (allocs _ _), blk_kept (blk_alloc2 w _ _ _) (allocs _ _), blk_alloc3 w _ _ _ _⟩
section
variable {w0 w w1 : World} {p : Pt} {c q : Nat → Int}
theorem tl_call (h : TlAt w0 p c q w) (b : Below w.heap.size w w1) : TlAt w0 p c q w1 := ⟨bthen h.below b, blk_kept h.hp b, blk_kept h.hc b, blk_kept h.hq b⟩
theorem tl_drew (h : TlAt w0 p c q w) : TlAt w0 p c q w.drew := ⟨below_drewN h.below 1, h.hp, h.hc, h.hq⟩
theorem tl_s (h : TlAt w0 p c q w) : (ldP (.pointer (some ⟨w0.heap.size, 0, none⟩))).run Tryd.prog w = .ok (.agg (ptA p)) w ∧ (ldC (.pointer (some ⟨w0.heap.size + 1, 0, none⟩))).run Tryd.prog w = .ok (.agg (cA c)) w ∧ (ldG (.pointer (some ⟨w0.heap.size + 1 + 1, 0, none⟩))).run Tryd.prog w = .ok (.agg (gA q)) w ∧ w.cell? ⟨w0.heap.size, 0, none⟩ = some (.int .i64 p.x) :=
  ⟨ldP_blk h.hp, ldC_blk h.hc, ldG_blk h.hq, blk_cell h.hp rfl⟩
end

section
attribute [local go_sem ↓] ldP_eq ldC_eq ldG_eq
set_option maxRecDepth 100000 in
set_option maxHeartbeats 8000000 in
theorem fliesLaw (p : Pt) (c q : Nat → Int) (hp : Pin p) (hc : InC c) (hq : ∀ j, j < 16 → In (q j)) (w : World) (T : TbAt w) :
    Calls Tryd.prog 3 #[.agg (ptA p), .agg (cA c), .agg (gA q)] w fun e w' => e = .returned (.bool true) ∧ Below w.heap.size w w' := by
  have HT := Lib.hid T
  have K0 := Lib.hid (tl_box w p c q)
  have TC := Lib.hid (fun W (U : TbAt W) => stepC p c q hp hc hq W U)
  have TR := Lib.hid (fun W => rStepC p c q hp hc hq W)
  have SC := Lib.hid (fun W (U : TbAt W) => saysC p q hp hq W U)
  have SR := Lib.hid (fun W => rSaysC p q hp hq W)
  have BC := Lib.hid (fun W => beamC p.x hp.x W)
  have BR := Lib.hid (fun W => rBeamC p.x hp.x W)
  have CC := Lib.hid (fun W (U : TbAt W) => calmC q hq W U)
  have CR := Lib.hid (fun W => rCalmC q hq W)
  have eT := fun W => eqP (nx p c (ofq q)) W
  have eS := fun W => eqW (sayq p q) W
  have eC := fun W => eqG (calq q) W
  generalize nx p c (ofq q) = x at *
  generalize sayq p q = y at *
  generalize calq q = z at *
  generalize p.x.tdiv 20 = b at *
  clear hp hc hq T
  go_enter Tryd.func3, Tryd.ntmps3
  go_upto_region 1 with (fail)
  generalize World.alloc _ _ = W at *
  have TA := Lib.hid (tl_drew K0.out)
  clear K0
  go_region_held3 (fun w' => (ldP (.pointer (some ⟨w.heap.size, 0, none⟩))).run Tryd.prog w' = .ok (.agg (ptA p)) w' ∧ (ldC (.pointer (some ⟨w.heap.size + 1, 0, none⟩))).run Tryd.prog w' = .ok (.agg (cA c)) w' ∧ (ldG (.pointer (some ⟨w.heap.size + 1 + 1, 0, none⟩))).run Tryd.prog w' = .ok (.agg (gA q)) w' ∧ w'.cell? ⟨w.heap.size, 0, none⟩ = some (.int .i64 p.x))
    (first
      | (with_reducible assumption)
      | exact tl_s TA.out)
    (first
    | ((with_reducible refine (TC.out _ (tb_kept HT.out TA.out.below)).mono ?_); rintro e u ⟨rfl, bb⟩; replace TA := Lib.hid (tl_call TA.out bb); clear bb)
    | ((with_reducible refine (TR.out _).mono ?_); rintro e u ⟨rfl, bb⟩; replace TA := Lib.hid (tl_call TA.out bb); clear bb)
    | ((with_reducible refine (SC.out _ (tb_kept HT.out TA.out.below)).mono ?_); rintro e u ⟨rfl, bb⟩; replace TA := Lib.hid (tl_call TA.out bb); clear bb)
    | ((with_reducible refine (SR.out _).mono ?_); rintro e u ⟨rfl, bb⟩; replace TA := Lib.hid (tl_call TA.out bb); clear bb)
    | ((with_reducible refine (BC.out _).mono ?_); rintro e u ⟨rfl, rfl⟩)
    | ((with_reducible refine (BR.out _).mono ?_); rintro e u ⟨rfl, rfl⟩)
    | ((with_reducible refine (CC.out _ (tb_kept HT.out TA.out.below)).mono ?_); rintro e u ⟨rfl, bb⟩; replace TA := Lib.hid (tl_call TA.out bb); clear bb)
    | ((with_reducible refine (CR.out _).mono ?_); rintro e u ⟨rfl, bb⟩; replace TA := Lib.hid (tl_call TA.out bb); clear bb)
    | ((with_reducible refine (lives _ (tb_kept HT.out TA.out.below)).mono ?_); rintro e u ⟨rfl, bb⟩; replace TA := Lib.hid (tl_call TA.out bb); clear bb))
  all_goals
    go_wp2
    go_ret
    exact ⟨rfl, TA.out.below⟩
end

end Go.Proofs.YtaicijhkchfcfaaDoor.Pl
