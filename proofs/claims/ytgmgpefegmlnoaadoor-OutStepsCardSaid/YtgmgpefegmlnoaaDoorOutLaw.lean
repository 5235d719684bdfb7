/- OutTells: whether any commands may be, those that come of others, and those of a frame, is the document's. Conditions: the table of bounds lies there; the signals' numbers and the commands' are int64 numbers. -/
import Derived.Test.YtgmgpefegmlnoaaDoorOutLives
namespace Go.Proofs.YtgmgpefegmlnoaaDoor.Out
open Go.ChangeShapes Go.WideShapes Go.ChangeAt Go.RowKit Num Mem Band

/-- What the laws box. -/
structure TlAt (w0 : World) (X : Nat → Vt) (p q : Nat → Int) (w : World) : Prop where
  below : Below w0.heap.size w0 w
  hx : Blk w w0.heap.size (v12 X) 24
  hp : Blk w (w0.heap.size + 1) (cA p) 26
  hq : Blk w (w0.heap.size + 1 + 1) (cA q) 26
theorem tl_box (w : World) (X : Nat → Vt) (p q : Nat → Int) : TlAt w X p q (((w.alloc (.cells (v12 X) 24)).alloc (.cells (cA p) 26)).alloc (.cells (cA q) 26)) :=
  ⟨below_new (below_new (allocs w _) _) _, blk_kept (blk_kept (blk_alloc w _ _) (allocs _ _)) (allocs _ _), blk_kept (blk_alloc2 w _ _ _) (allocs _ _), blk_alloc3 w _ _ _ _⟩
section
variable {w0 w w1 : World} {X : Nat → Vt} {p q : Nat → Int}
theorem tl_call (h : TlAt w0 X p q w) (b : Below w.heap.size w w1) : TlAt w0 X p q w1 := ⟨bthen h.below b, blk_kept h.hx b, blk_kept h.hp b, blk_kept h.hq b⟩
theorem tl_drew (h : TlAt w0 X p q w) : TlAt w0 X p q w.drew := ⟨below_drewN h.below 1, h.hx, h.hp, h.hq⟩
theorem tl_s (h : TlAt w0 X p q w) : (ldX (.pointer (some ⟨w0.heap.size, 0, none⟩))).run Tryd.prog w = .ok (.agg (v12 X)) w ∧ (ldC (.pointer (some ⟨w0.heap.size + 1, 0, none⟩))).run Tryd.prog w = .ok (.agg (cA p)) w ∧ (ldC (.pointer (some ⟨w0.heap.size + 1 + 1, 0, none⟩))).run Tryd.prog w = .ok (.agg (cA q)) w :=
  ⟨ldX_blk h.hx, ldC_blk h.hp, ldC_blk h.hq⟩
end

section
attribute [local go_sem ↓] ldC_eq stC_eq ldX_eq
set_option maxRecDepth 100000 in
set_option maxHeartbeats 8000000 in
theorem tellsLaw (m : Int) (X : Nat → Vt) (p q : Nat → Int) (hX : InX X) (hp : InC p) (hq : InC q) (w : World) (T : BdAt w) :
    Calls Tryd.prog 3 #[.int .u8 m, .agg (v12 X), .agg (cA p), .agg (cA q)] w fun e w' => e = .returned (.bool true) ∧ Below w.heap.size w w' := by
  have HT := Lib.hid T
  have K0 := Lib.hid (tl_box w X p q)
  have MC := Lib.hid (fun W (U : BdAt W) => mayC p hp W U)
  have MR := Lib.hid (fun W => rMayC p hp W)
  have LC := Lib.hid (fun W (U : BdAt W) => limC p q hp hq W U)
  have LR := Lib.hid (fun W => rLimC p q hp hq W)
  have GC := Lib.hid (fun W (U : BdAt W) => guideC m X p hX hp W U)
  have GR := Lib.hid (fun W => rGuideC m X p hX hp W)
  have eL := fun W => eq_c (lim p q) W
  have eG := fun W => eq_c (gd m X p) W
  generalize mayB p = x at *
  generalize lim p q = y at *
  generalize gd m X p = z at *
  clear hX hp hq T
  go_enter Tryd.func3, Tryd.ntmps3
  go_upto_region 1 with (fail)
  generalize World.alloc _ _ = W at *
  have TA := Lib.hid (tl_drew K0.out)
  clear K0
  go_region_held3 (fun w' => (ldX (.pointer (some ⟨w.heap.size, 0, none⟩))).run Tryd.prog w' = .ok (.agg (v12 X)) w' ∧ (ldC (.pointer (some ⟨w.heap.size + 1, 0, none⟩))).run Tryd.prog w' = .ok (.agg (cA p)) w' ∧ (ldC (.pointer (some ⟨w.heap.size + 1 + 1, 0, none⟩))).run Tryd.prog w' = .ok (.agg (cA q)) w')
    (first
      | (with_reducible assumption)
      | exact tl_s TA.out)
    (first
    | ((with_reducible refine (MC.out _ (bd_kept HT.out TA.out.below)).mono ?_); rintro e u ⟨rfl, bb⟩; replace TA := Lib.hid (tl_call TA.out bb); clear bb)
    | ((with_reducible refine (MR.out _).mono ?_); rintro e u ⟨rfl, bb⟩; replace TA := Lib.hid (tl_call TA.out bb); clear bb)
    | ((with_reducible refine (LC.out _ (bd_kept HT.out TA.out.below)).mono ?_); rintro e u ⟨rfl, bb⟩; replace TA := Lib.hid (tl_call TA.out bb); clear bb)
    | ((with_reducible refine (LR.out _).mono ?_); rintro e u ⟨rfl, bb⟩; replace TA := Lib.hid (tl_call TA.out bb); clear bb)
    | ((with_reducible refine (GC.out _ (bd_kept HT.out TA.out.below)).mono ?_); rintro e u ⟨rfl, bb⟩; replace TA := Lib.hid (tl_call TA.out bb); clear bb)
    | ((with_reducible refine (GR.out _).mono ?_); rintro e u ⟨rfl, bb⟩; replace TA := Lib.hid (tl_call TA.out bb); clear bb)
    | ((with_reducible refine (lives _ (bd_kept HT.out TA.out.below)).mono ?_); rintro e u ⟨rfl, bb⟩; replace TA := Lib.hid (tl_call TA.out bb); clear bb))
  all_goals
    go_wp2
    go_ret
    exact ⟨rfl, TA.out.below⟩
end

end Go.Proofs.YtgmgpefegmlnoaaDoor.Out
