/- The law's lives: commands that the document tells, read off the contracts. Conditions: none. -/
import Derived.Test.YtjonpagkhcieaaaSinkAll
namespace Go.Proofs.Ytjonpagkhcieaaa.Sk
open Go.ChangeShapes Go.WideShapes Go.ChangeAt Go.RowKit Num Mem Band

/-- The same, read at one answer. -/
theorem flaredIs (x r : Int) (hx : In x) (h : flr x = r) (w : World) : Calls Try.prog 8 #[.int .i64 x] w fun e w' => e = .returned (.int .i64 r) ∧ Below w.heap.size w w' := by subst h; exact flaredC x hx w
theorem heldIs (x r : Int) (hx : In x) (h : hld x = r) (w : World) : Calls Try.prog 10 #[.int .i64 x] w fun e w' => e = .returned (.int .i64 r) ∧ w = w' := by subst h; exact heldC x hx w
theorem sinkIs (m : Int) (G H : Vt) (p r : Int) (hG : Vin G) (hH : Vin H) (hp : In p) (h : snk m G H p = r) (w : World) : Calls Try.prog 6 #[.int .u8 m, .agg (vtA G), .agg (vtA H), .int .i64 p] w fun e w' => e = .returned (.int .i64 r) ∧ Below w.heap.size w w' := by subst h; exact sinkC m G H p hG hH hp w

set_option maxRecDepth 100000 in
set_option maxHeartbeats 4000000 in
theorem lives (w : World) : Calls Try.prog 12 #[] w fun e w' => e = .returned (.bool true) ∧ Below w.heap.size w w' := by
  have K := Lib.hid (Below.refl w.heap.size w)
  go_enter Try.func12, Try.ntmps12
  go_wp2_with (first
    | ((with_reducible refine (atC _ _).mono ?_); rintro e v ⟨rfl, bb⟩; replace K := Lib.hid (bthen K.out bb); clear bb)
    | ((with_reducible refine (flaredIs 1524 18 (inI (by decide)) (by decide +kernel) _).mono ?_); rintro e v ⟨rfl, bb⟩; replace K := Lib.hid (bthen K.out bb); clear bb)
    | ((with_reducible refine (flaredIs 99 3 (inI (by decide)) (by decide +kernel) _).mono ?_); rintro e v ⟨rfl, bb⟩; replace K := Lib.hid (bthen K.out bb); clear bb)
    | ((with_reducible refine (flaredIs (-500) 3 (inI (by decide)) (by decide +kernel) _).mono ?_); rintro e v ⟨rfl, bb⟩; replace K := Lib.hid (bthen K.out bb); clear bb)
    | ((with_reducible refine (heldIs 99 24 (inI (by decide)) (by decide +kernel) _).mono ?_); rintro e v ⟨rfl, rfl⟩)
    | ((with_reducible refine (sinkIs 2 ⟨true, 100, 3⟩ ⟨true, 9000, 3⟩ 0 24 (inI (by decide)) (inI (by decide)) (inI (by decide)) (by decide +kernel) _).mono ?_); rintro e v ⟨rfl, bb⟩; replace K := Lib.hid (bthen K.out bb); clear bb)
    | ((with_reducible refine (sinkIs 2 ⟨true, -20, 3⟩ ⟨true, 9000, 3⟩ 0 16 (inI (by decide)) (inI (by decide)) (inI (by decide)) (by decide +kernel) _).mono ?_); rintro e v ⟨rfl, bb⟩; replace K := Lib.hid (bthen K.out bb); clear bb)
    | ((with_reducible refine (sinkIs 3 ⟨true, 0, 3⟩ ⟨false, 0, 0⟩ 12 12 (inI (by decide)) (inI (by decide)) (inI (by decide)) (by decide +kernel) _).mono ?_); rintro e v ⟨rfl, bb⟩; replace K := Lib.hid (bthen K.out bb); clear bb)
    | ((with_reducible refine (sinkIs 6 ⟨true, 0, 3⟩ ⟨true, 0, 3⟩ 0 (-20) (inI (by decide)) (inI (by decide)) (inI (by decide)) (by decide +kernel) _).mono ?_); rintro e v ⟨rfl, bb⟩; replace K := Lib.hid (bthen K.out bb); clear bb)
    | ((with_reducible refine (sinkIs 5 ⟨true, 0, 3⟩ ⟨true, 0, 3⟩ 9 0 (inI (by decide)) (inI (by decide)) (inI (by decide)) (by decide +kernel) _).mono ?_); rintro e v ⟨rfl, bb⟩; replace K := Lib.hid (bthen K.out bb); clear bb))
  go_ret
  exact ⟨rfl, K.out⟩

end Go.Proofs.Ytjonpagkhcieaaa.Sk
