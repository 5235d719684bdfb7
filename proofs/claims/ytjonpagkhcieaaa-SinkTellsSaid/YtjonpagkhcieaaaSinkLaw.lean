/- SinkTells: how fast it is to sink, of any mode, what a height comes to, what is held, is the document's. Conditions: the signals' numbers and the one ahead are int64 numbers. -/
import Derived.Test.YtjonpagkhcieaaaSinkLives
namespace Go.Proofs.Ytjonpagkhcieaaa.Sk
open Go.ChangeShapes Go.WideShapes Go.ChangeAt Go.RowKit Num Mem Band
attribute [local go_sem ↓] ldV_eq

set_option maxRecDepth 100000 in
set_option maxHeartbeats 16000000 in
theorem tellsLaw (m : Int) (G H : Vt) (p : Int) (hG : Vin G) (hH : Vin H) (hp : In p) (w : World) :
    Calls Try.prog 3 #[.int .u8 m, .agg (vtA G), .agg (vtA H), .int .i64 p] w fun e w' => e = .returned (.bool true) ∧ Below w.heap.size w w' := by
  have K0 := Lib.hid (tw_box w G H)
  have SC := Lib.hid (fun W => sinkC m G H p hG hH hp W)
  have RS := Lib.hid (fun W => rSinkC m G H p hG hH hp W)
  have FC := Lib.hid (fun W => flaredC H.v hH W)
  have RF := Lib.hid (fun W => rFlaredC H.v hH W)
  have HC := Lib.hid (fun W => heldC p hp W)
  have RH := Lib.hid (fun W => rHeldC p hp W)
  generalize snk m G H p = s at *
  generalize flr H.v = f at *
  generalize hld p = h at *
  clear hG hH hp
  go_enter Try.func3, Try.ntmps3
  go_upto_region 1 with (fail)
  generalize World.alloc (World.alloc w _) _ = W at *
  have TA := Lib.hid (tw_drew K0.out)
  clear K0
  go_region_held3 (fun w' => (ldV (.pointer (some ⟨w.heap.size, 0, none⟩))).run Try.prog w' = .ok (.agg (vtA G)) w' ∧ (ldV (.pointer (some ⟨w.heap.size + 1, 0, none⟩))).run Try.prog w' = .ok (.agg (vtA H)) w' ∧ w'.cell? ⟨w.heap.size + 1, 1, none⟩ = some (.int .i64 H.v))
    (first
      | (with_reducible assumption)
      | exact ⟨ldV_blk TA.out.hl, ldV_blk TA.out.hh, blk_cell TA.out.hh rfl⟩)
    (first
    | ((with_reducible refine (SC.out _).mono ?_); rintro e u ⟨rfl, bb⟩; replace TA := Lib.hid (tw_call TA.out bb); clear bb)
    | ((with_reducible refine (RS.out _).mono ?_); rintro e u ⟨rfl, bb⟩; replace TA := Lib.hid (tw_call TA.out bb); clear bb)
    | ((with_reducible refine (FC.out _).mono ?_); rintro e u ⟨rfl, bb⟩; replace TA := Lib.hid (tw_call TA.out bb); clear bb)
    | ((with_reducible refine (RF.out _).mono ?_); rintro e u ⟨rfl, rfl⟩)
    | ((with_reducible refine (HC.out _).mono ?_); rintro e u ⟨rfl, rfl⟩)
    | ((with_reducible refine (RH.out _).mono ?_); rintro e u ⟨rfl, rfl⟩)
    | ((with_reducible refine (lives _).mono ?_); rintro e u ⟨rfl, bb⟩; replace TA := Lib.hid (tw_call TA.out bb); clear bb))
  all_goals
    go_wp2
    go_ret
    exact ⟨rfl, TA.out.below⟩

end Go.Proofs.Ytjonpagkhcieaaa.Sk
