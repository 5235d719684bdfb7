/- The law's lives: gains and commands that the document tells, read off the contracts. Conditions: none. -/
import Derived.Test.YtcoogkhhicbkeaaSideAll
namespace Go.Proofs.Ytcoogkhhicbkeaa.Sd
open Go.ChangeShapes Go.WideShapes Go.ChangeAt Go.RowKit Num Mem Band

theorem inI {n : Int} (h : -1000000 ≤ n ∧ n ≤ 1000000) : In n := ⟨by omega, by omega⟩
/-- The same, read at one answer. -/
theorem gainIs (V : Vt) (r : Int) (h : gn V = r) (w : World) : Calls Try.prog 6 #[.agg (vtA V)] w fun e w' => e = .returned (.int .i64 r) ∧ Below w.heap.size w w' := by subst h; exact gainC V w
theorem sideIs (m : Int) (L H : Vt) (p r : Int) (hL : Vin L) (hp : In p) (h : sidW m L H p = r) (w : World) : Calls Try.prog 8 #[.int .u8 m, .agg (vtA L), .agg (vtA H), .int .i64 p] w fun e w' => e = .returned (.int .i64 r) ∧ Below w.heap.size w w' := by subst h; exact sideC m L H p hL hp w
theorem turnIs (m : Int) (D : Vt) (p r : Int) (hD : Vin D) (hp : In p) (h : trnW m D p = r) (w : World) : Calls Try.prog 10 #[.int .u8 m, .agg (vtA D), .int .i64 p] w fun e w' => e = .returned (.int .i64 r) ∧ Below w.heap.size w w' := by subst h; exact turnC m D p hD hp w

set_option maxRecDepth 100000 in
set_option maxHeartbeats 4000000 in
theorem lives (w : World) : Calls Try.prog 12 #[] w fun e w' => e = .returned (.bool true) ∧ Below w.heap.size w w' := by
  have K := Lib.hid (Below.refl w.heap.size w)
  go_enter Try.func12, Try.ntmps12
  go_wp2_with (first
    | ((with_reducible refine (atC _ _).mono ?_); rintro e v ⟨rfl, bb⟩; replace K := Lib.hid (bthen K.out bb); clear bb)
    | ((with_reducible refine (gainIs ⟨true, 762, 3⟩ 6 (by decide +kernel) _).mono ?_); rintro e v ⟨rfl, bb⟩; replace K := Lib.hid (bthen K.out bb); clear bb)
    | ((with_reducible refine (gainIs ⟨false, 0, 0⟩ 16 (by decide +kernel) _).mono ?_); rintro e v ⟨rfl, bb⟩; replace K := Lib.hid (bthen K.out bb); clear bb)
    | ((with_reducible refine (sideIs 2 ⟨true, 100, 3⟩ ⟨true, 762, 3⟩ 0 (-16) (inI (by decide)) (inI (by decide)) (by decide +kernel) _).mono ?_); rintro e v ⟨rfl, bb⟩; replace K := Lib.hid (bthen K.out bb); clear bb)
    | ((with_reducible refine (sideIs 2 ⟨true, -900, 3⟩ ⟨true, 762, 3⟩ 0 20 (inI (by decide)) (inI (by decide)) (by decide +kernel) _).mono ?_); rintro e v ⟨rfl, bb⟩; replace K := Lib.hid (bthen K.out bb); clear bb)
    | ((with_reducible refine (sideIs 5 ⟨true, 100, 3⟩ ⟨true, 0, 3⟩ 0 (-10) (inI (by decide)) (inI (by decide)) (by decide +kernel) _).mono ?_); rintro e v ⟨rfl, bb⟩; replace K := Lib.hid (bthen K.out bb); clear bb)
    | ((with_reducible refine (sideIs 3 ⟨false, 0, 0⟩ ⟨true, 762, 3⟩ 7 7 (inI (by decide)) (inI (by decide)) (by decide +kernel) _).mono ?_); rintro e v ⟨rfl, bb⟩; replace K := Lib.hid (bthen K.out bb); clear bb)
    | ((with_reducible refine (sideIs 0 ⟨true, 100, 3⟩ ⟨true, 0, 3⟩ 3 0 (inI (by decide)) (inI (by decide)) (by decide +kernel) _).mono ?_); rintro e v ⟨rfl, bb⟩; replace K := Lib.hid (bthen K.out bb); clear bb)
    | ((with_reducible refine (turnIs 4 ⟨true, -4000, 3⟩ 0 500 (inI (by decide)) (inI (by decide)) (by decide +kernel) _).mono ?_); rintro e v ⟨rfl, bb⟩; replace K := Lib.hid (bthen K.out bb); clear bb)
    | ((with_reducible refine (turnIs 3 ⟨true, 9, 3⟩ 9 0 (inI (by decide)) (inI (by decide)) (by decide +kernel) _).mono ?_); rintro e v ⟨rfl, bb⟩; replace K := Lib.hid (bthen K.out bb); clear bb))
  go_ret
  exact ⟨rfl, K.out⟩

end Go.Proofs.Ytcoogkhhicbkeaa.Sd
