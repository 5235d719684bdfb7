/- SideTells: the gain of any height, and the commands along and around, of any mode, is the document's. Conditions: the signals' numbers and the command ahead are int64 numbers. -/
import Derived.Test.YtcoogkhhicbkeaaSideLives
namespace Go.Proofs.Ytcoogkhhicbkeaa.Sd
open Go.ChangeShapes Go.WideShapes Go.ChangeAt Go.RowKit Num Mem Band
attribute [local go_sem ↓] ldV_eq

/-- What the law boxes. -/
structure TlAt (w0 : World) (L D H : Vt) (w : World) : Prop where
  below : Below w0.heap.size w0 w
  hl : Blk w w0.heap.size (vtA L) 23
  hd : Blk w (w0.heap.size + 1) (vtA D) 23
  hh : Blk w (w0.heap.size + 1 + 1) (vtA H) 23
theorem tl_box (w : World) (L D H : Vt) : TlAt w L D H (((w.alloc (.cells (vtA L) 23)).alloc (.cells (vtA D) 23)).alloc (.cells (vtA H) 23)) :=
  ⟨below_new (below_new (allocs w _) _) _, blk_kept (blk_kept (blk_alloc w _ _) (allocs _ _)) (allocs _ _), blk_kept (blk_alloc2 w _ _ _) (allocs _ _), blk_alloc3 w _ _ _ _⟩
theorem tl_call {w0 w w1 : World} {L D H : Vt} (h : TlAt w0 L D H w) (b : Below w.heap.size w w1) : TlAt w0 L D H w1 := ⟨bthen h.below b, blk_kept h.hl b, blk_kept h.hd b, blk_kept h.hh b⟩
theorem tl_drew {w0 w : World} {L D H : Vt} (h : TlAt w0 L D H w) : TlAt w0 L D H w.drew := ⟨below_drewN h.below 1, h.hl, h.hd, h.hh⟩

set_option maxRecDepth 100000 in
set_option maxHeartbeats 16000000 in
theorem tellsLaw (m : Int) (L D H : Vt) (p : Int) (hL : Vin L) (hD : Vin D) (hp : In p) (w : World) :
    Calls Try.prog 3 #[.int .u8 m, .agg (vtA L), .agg (vtA D), .agg (vtA H), .int .i64 p] w fun e w' => e = .returned (.bool true) ∧ Below w.heap.size w w' := by
  have K0 := Lib.hid (tl_box w L D H)
  have GC := Lib.hid (fun W => gainC H W)
  have RG := Lib.hid (fun W => rGainC H W)
  have SC := Lib.hid (fun W => sideC m L H p hL hp W)
  have RS := Lib.hid (fun W => rSideC m L H p hL hp W)
  have TC := Lib.hid (fun W => turnC m D p hD hp W)
  have RT := Lib.hid (fun W => rTurnC m D p hD hp W)
  generalize gn H = g at *
  generalize sidW m L H p = c at *
  generalize trnW m D p = t at *
  clear hL hD hp
  go_enter Try.func3, Try.ntmps3
  go_upto_region 1 with (fail)
  generalize World.alloc (World.alloc (World.alloc w _) _) _ = W at *
  have TA := Lib.hid (tl_drew K0.out)
  clear K0
  go_region_held3 (fun w' => (ldV (.pointer (some ⟨w.heap.size, 0, none⟩))).run Try.prog w' = .ok (.agg (vtA L)) w' ∧ (ldV (.pointer (some ⟨w.heap.size + 1, 0, none⟩))).run Try.prog w' = .ok (.agg (vtA D)) w' ∧ (ldV (.pointer (some ⟨w.heap.size + 1 + 1, 0, none⟩))).run Try.prog w' = .ok (.agg (vtA H)) w')
    (first
      | (with_reducible assumption)
      | exact ⟨ldV_blk TA.out.hl, ldV_blk TA.out.hd, ldV_blk TA.out.hh⟩)
    (first
    | ((with_reducible refine (GC.out _).mono ?_); rintro e u ⟨rfl, bb⟩; replace TA := Lib.hid (tl_call TA.out bb); clear bb)
    | ((with_reducible refine (RG.out _).mono ?_); rintro e u ⟨rfl, bb⟩; replace TA := Lib.hid (tl_call TA.out bb); clear bb)
    | ((with_reducible refine (SC.out _).mono ?_); rintro e u ⟨rfl, bb⟩; replace TA := Lib.hid (tl_call TA.out bb); clear bb)
    | ((with_reducible refine (RS.out _).mono ?_); rintro e u ⟨rfl, bb⟩; replace TA := Lib.hid (tl_call TA.out bb); clear bb)
    | ((with_reducible refine (TC.out _).mono ?_); rintro e u ⟨rfl, bb⟩; replace TA := Lib.hid (tl_call TA.out bb); clear bb)
    | ((with_reducible refine (RT.out _).mono ?_); rintro e u ⟨rfl, bb⟩; replace TA := Lib.hid (tl_call TA.out bb); clear bb)
    | ((with_reducible refine (lives _).mono ?_); rintro e u ⟨rfl, bb⟩; replace TA := Lib.hid (tl_call TA.out bb); clear bb))
  all_goals
    go_wp2
    go_ret
    exact ⟨rfl, TA.out.below⟩

end Go.Proofs.Ytcoogkhhicbkeaa.Sd
