/- SinkFlares: in Flare and Align it sinks by 3 to 18, the less, the lower it is; what it tells is what is held. Conditions: the signals' numbers, the heights and the one ahead are int64 numbers. -/
import Derived.Test.YtjonpagkhcieaaaSinkLives
namespace Go.Proofs.Ytjonpagkhcieaaa.Sk
open Go.ChangeShapes Go.WideShapes Go.ChangeAt Go.RowKit Num Mem Band
attribute [local go_sem ↓] ldV_eq

theorem gmin_In {a b : Int} (ha : In a) (hb : In b) : In (gmin a b) := by rcases gmin_cases a b with ⟨e, _⟩ | ⟨e, _⟩ <;> rw [e] <;> assumption
theorem gmax_In {a b : Int} (ha : In a) (hb : In b) : In (gmax a b) := by rcases gmax_cases a b with ⟨e, _⟩ | ⟨e, _⟩ <;> rw [e] <;> assumption
theorem gmin_gmax (a b : Int) : gmin a b ≤ gmax a b := by
  have h := gmin_cases a b
  have k := gmax_cases a b
  omega

set_option maxRecDepth 100000 in
set_option maxHeartbeats 16000000 in
theorem flaresLaw (m : Int) (G H : Vt) (a b p : Int) (hG : Vin G) (hH : Vin H) (ha : In a) (hb : In b) (hp : In p) (w : World) :
    Calls Try.prog 4 #[.int .u8 m, .agg (vtA G), .agg (vtA H), .int .i64 a, .int .i64 b, .int .i64 p] w fun e w' => e = .returned (.bool true) ∧ Below w.heap.size w w' := by
  have K0 := Lib.hid (tw_box w G H)
  have SC := Lib.hid (fun W => sinkC m G H p hG hH hp W)
  have FL := Lib.hid (fun W => flaredC (gmin a b) (gmin_In ha hb) W)
  have FH := Lib.hid (fun W => flaredC (gmax a b) (gmax_In ha hb) W)
  have s0 := snk_bd m G H p
  have e0 := hld_same s0
  have HC : Hid (∀ W, Calls Try.prog 10 #[.int .i64 (snk m G H p)] W fun e w' => e = .returned (.int .i64 (snk m G H p)) ∧ W = w') := fun W => by
    have := heldC (snk m G H p) ⟨by omega, by omega⟩ W
    rwa [e0] at this
  have l0 := (flr_bd (gmin a b)).1
  have l1 := (flr_bd (gmax a b)).2
  have l2 := flr_rise (gmin_gmax a b)
  generalize snk m G H p = s at *
  generalize flr (gmin a b) = x at *
  generalize flr (gmax a b) = y at *
  obtain ⟨s0, s1⟩ := s0
  clear hG hH ha hb hp e0
  go_enter Try.func4, Try.ntmps4
  go_upto_region 1 with (fail)
  generalize World.alloc (World.alloc w _) _ = W at *
  go_wp2_with fail
  refine (FL.out _).mono ?_
  rintro e w1 ⟨rfl, bb⟩
  have T1 := Lib.hid (tw_call K0.out bb)
  clear bb K0
  go_wp2_with fail
  refine (FH.out _).mono ?_
  rintro e w2 ⟨rfl, bb⟩
  have T2 := Lib.hid (tw_call T1.out bb)
  clear bb T1
  have q1 := ldV_blk T2.out.hl
  have q2 := ldV_blk T2.out.hh
  go_wp2_with fail
  refine (SC.out _).mono ?_
  rintro e w3 ⟨rfl, bb⟩
  have T3 := Lib.hid (tw_call T2.out bb)
  clear bb T2 q1 q2
  go_wp2_with fail
  refine (HC.out _).mono ?_
  rintro e w4 ⟨rfl, rfl⟩
  go_wp2_with fail
  refine (lives _).mono ?_
  rintro e w5 ⟨rfl, bb⟩
  have T4 := Lib.hid (tw_call T3.out bb)
  clear bb T3
  go_wp2
  go_ret
  exact ⟨rfl, T4.out.below⟩

end Go.Proofs.Ytjonpagkhcieaaa.Sk
