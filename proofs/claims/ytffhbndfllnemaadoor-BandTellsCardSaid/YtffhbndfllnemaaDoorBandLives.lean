/- The law's at; its lives: bands that the document tells, read off the contracts. Conditions: the table of edges lies there. -/
import Derived.Test.YtffhbndfllnemaaDoorBandSense
namespace Go.Proofs.YtffhbndfllnemaaDoor.Band
open Go.ChangeShapes Go.WideShapes Go.ChangeAt Go.RowKit Num Mem

/-- The same, read at one answer. -/
theorem ofIs (V : Vt) (wh : Bool) (r : Int) (h : band V wh = r) (w : World) (T : EdAt w) : Calls Tryd.prog 5 #[.agg (vtA V), .bool wh] w fun e w' => e = .returned (.int .u8 r) ∧ Below w.heap.size w w' := by subst h; exact ofC V wh w T
theorem onIs (V : Vt) (r : Bool) (h : onB V = r) (w : World) : Calls Tryd.prog 7 #[.agg (vtA V)] w fun e w' => e = .returned (.bool r) ∧ Below w.heap.size w w' := by subst h; exact onC V w
theorem wideIs (V : Vt) (r : Bool) (h : wideB V = r) (w : World) : Calls Tryd.prog 9 #[.agg (vtA V)] w fun e w' => e = .returned (.bool r) ∧ Below w.heap.size w w' := by subst h; exact wideC V w
theorem lowIs (b : Int) (r : Bool) (h : lowB b = r) (w : World) : Calls Tryd.prog 11 #[.int .u8 b] w fun e w' => e = .returned (.bool r) ∧ w = w' := by subst h; exact lowC b w

theorem atC (n : Int) (w : World) : Calls Tryd.prog 16 #[.int .i64 n] w fun e w' => e = .returned (.agg (vtA ⟨true, n, 3⟩)) ∧ Below w.heap.size w w' := by
  go_enter Tryd.func16, Tryd.ntmps16
  go_wp2
  refine bodyPost_ret (v := .agg (vtA ⟨true, n, 3⟩)) (by simp [results, Tryd.results16, go_sem]) rfl ⟨rfl, ?_⟩
  exact allocs _ _

set_option maxRecDepth 100000 in
set_option maxHeartbeats 4000000 in
theorem lives (w : World) (T : EdAt w) : Calls Tryd.prog 15 #[] w fun e w' => e = .returned (.bool true) ∧ Below w.heap.size w w' := by
  have HT := Lib.hid T
  clear T
  have K := Lib.hid (Below.refl w.heap.size w)
  go_enter Tryd.func15, Tryd.ntmps15
  go_wp2_with (first
    | ((with_reducible refine (atC _ _).mono ?_); rintro e v ⟨rfl, bb⟩; replace K := Lib.hid (bthen K.out bb); clear bb)
    | ((with_reducible refine (ofIs ⟨true, 6097, 3⟩ false 0 (by decide +kernel) _ (ed_kept HT.out K.out)).mono ?_); rintro e v ⟨rfl, bb⟩; replace K := Lib.hid (bthen K.out bb); clear bb)
    | ((with_reducible refine (ofIs ⟨true, 6096, 3⟩ false 1 (by decide +kernel) _ (ed_kept HT.out K.out)).mono ?_); rintro e v ⟨rfl, bb⟩; replace K := Lib.hid (bthen K.out bb); clear bb)
    | ((with_reducible refine (ofIs ⟨true, 1524, 3⟩ false 2 (by decide +kernel) _ (ed_kept HT.out K.out)).mono ?_); rintro e v ⟨rfl, bb⟩; replace K := Lib.hid (bthen K.out bb); clear bb)
    | ((with_reducible refine (ofIs ⟨true, 300, 3⟩ false 3 (by decide +kernel) _ (ed_kept HT.out K.out)).mono ?_); rintro e v ⟨rfl, bb⟩; replace K := Lib.hid (bthen K.out bb); clear bb)
    | ((with_reducible refine (ofIs ⟨false, 0, 0⟩ false 5 (by decide +kernel) _ (ed_kept HT.out K.out)).mono ?_); rintro e v ⟨rfl, bb⟩; replace K := Lib.hid (bthen K.out bb); clear bb)
    | ((with_reducible refine (ofIs ⟨true, 9000, 3⟩ true 4 (by decide +kernel) _ (ed_kept HT.out K.out)).mono ?_); rintro e v ⟨rfl, bb⟩; replace K := Lib.hid (bthen K.out bb); clear bb)
    | ((with_reducible refine (lowIs 1 true (by decide +kernel) _).mono ?_); rintro e v ⟨rfl, rfl⟩)
    | ((with_reducible refine (lowIs 5 false (by decide +kernel) _).mono ?_); rintro e v ⟨rfl, rfl⟩)
    | ((with_reducible refine (onIs ⟨true, 300, 3⟩ true (by decide +kernel) _).mono ?_); rintro e v ⟨rfl, bb⟩; replace K := Lib.hid (bthen K.out bb); clear bb)
    | ((with_reducible refine (onIs ⟨true, -301, 3⟩ false (by decide +kernel) _).mono ?_); rintro e v ⟨rfl, bb⟩; replace K := Lib.hid (bthen K.out bb); clear bb)
    | ((with_reducible refine (wideIs ⟨true, 501, 3⟩ true (by decide +kernel) _).mono ?_); rintro e v ⟨rfl, bb⟩; replace K := Lib.hid (bthen K.out bb); clear bb)
    | ((with_reducible refine (wideIs ⟨true, -500, 3⟩ false (by decide +kernel) _).mono ?_); rintro e v ⟨rfl, bb⟩; replace K := Lib.hid (bthen K.out bb); clear bb))
  go_ret
  exact ⟨rfl, K.out⟩

end Go.Proofs.YtffhbndfllnemaaDoor.Band
