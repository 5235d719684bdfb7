/- BandFalls: a lesser height is never a higher band; what is on the beam is not wide; a signal's other side is like it. Conditions: the numbers are int64s; the table of edges lies there. -/
import Derived.Test.YtffhbndfllnemaaDoorBandLives
namespace Go.Proofs.YtffhbndfllnemaaDoor.Band
open Go.ChangeShapes Go.WideShapes Go.ChangeAt Go.RowKit Num Mem

theorem on_neg (n o : Int) : onB ⟨true, -n, o⟩ = onB ⟨true, n, o⟩ := by
  show (true && wi (-n) 300) = (true && wi n 300)
  rw [wi_neg]
theorem wide_neg (n o : Int) : wideB ⟨true, -n, o⟩ = wideB ⟨true, n, o⟩ := by
  show (true && !wi (-n) 500) = (true && !wi n 500)
  rw [wi_neg]
theorem band_at (n o : Int) : band ⟨true, n, o⟩ false = bnd n := rfl

set_option maxRecDepth 100000 in
set_option maxHeartbeats 8000000 in
theorem fallsC (a b : Int) (ha : In a) (w : World) (T : EdAt w) :
    Calls Tryd.prog 4 #[.int .i64 a, .int .i64 b] w fun e w' => e = .returned (.bool true) ∧ Below w.heap.size w w' := by
  have HT := Lib.hid T
  clear T
  have K := Lib.hid (Below.refl w.heap.size w)
  have HA := Lib.hid ha
  clear ha
  have lh : gmin a b ≤ gmax a b := by
    have := gmin_cases a b
    have := gmax_cases a b
    omega
  have hf := bnd_falls lh
  clear lh
  have OL := Lib.hid (fun V (U : EdAt V) => ofC ⟨true, gmin a b, 3⟩ false V U)
  have OH := Lib.hid (fun V (U : EdAt V) => ofC ⟨true, gmax a b, 3⟩ false V U)
  simp only [band_at] at OL OH
  generalize bnd (gmin a b) = p at *
  generalize bnd (gmax a b) = q at *
  have ON := Lib.hid (fun V => onC ⟨true, a, 3⟩ V)
  have WD := Lib.hid (fun V => wideC ⟨true, a, 3⟩ V)
  have MN := Lib.hid (fun V => onC ⟨true, -a, 3⟩ V)
  have MD := Lib.hid (fun V => wideC ⟨true, -a, 3⟩ V)
  rw [on_neg] at MN
  rw [wide_neg] at MD
  have OW := Lib.hid (fun h => on_wide (V := ⟨true, a, 3⟩) h)
  generalize onB ⟨true, a, 3⟩ = x at *
  generalize wideB ⟨true, a, 3⟩ = y at *
  by_cases hm : a = -9223372036854775808
  · subst hm
    clear MN MD
    cases x
    all_goals
      first
        | (have oy := OW.out rfl; subst oy)
        | skip
      clear OW
      go_enter Tryd.func4, Tryd.ntmps4
      go_wp2_with (first
          | ((with_reducible refine (atC _ _).mono ?_); rintro e v ⟨rfl, bb⟩; replace K := Lib.hid (bthen K.out bb); clear bb)
          | ((with_reducible refine (OL.out _ (ed_kept HT.out K.out)).mono ?_); rintro e v ⟨rfl, bb⟩; replace K := Lib.hid (bthen K.out bb); clear bb)
          | ((with_reducible refine (OH.out _ (ed_kept HT.out K.out)).mono ?_); rintro e v ⟨rfl, bb⟩; replace K := Lib.hid (bthen K.out bb); clear bb)
          | ((with_reducible refine (ON.out _).mono ?_); rintro e v ⟨rfl, bb⟩; replace K := Lib.hid (bthen K.out bb); clear bb)
          | ((with_reducible refine (WD.out _).mono ?_); rintro e v ⟨rfl, bb⟩; replace K := Lib.hid (bthen K.out bb); clear bb)
          | ((with_reducible refine (lives _ (ed_kept HT.out K.out)).mono ?_); rintro e v ⟨rfl, bb⟩; replace K := Lib.hid (bthen K.out bb); clear bb))
      go_ret
      exact ⟨rfl, K.out⟩
  · have h1 : -9223372036854775808 ≤ -a := by have := HA.out; unfold In at this; omega
    have h2 : -a ≤ 9223372036854775807 := by have := HA.out; unfold In at this; omega
    have em : ((a : Int) == -9223372036854775808) = false := by simp; omega
    clear hm
    cases x
    all_goals
      first
        | (have oy := OW.out rfl; subst oy)
        | skip
      clear OW
      go_enter Tryd.func4, Tryd.ntmps4
      go_wp2_with (first
          | ((with_reducible refine (atC _ _).mono ?_); rintro e v ⟨rfl, bb⟩; replace K := Lib.hid (bthen K.out bb); clear bb)
          | ((with_reducible refine (OL.out _ (ed_kept HT.out K.out)).mono ?_); rintro e v ⟨rfl, bb⟩; replace K := Lib.hid (bthen K.out bb); clear bb)
          | ((with_reducible refine (OH.out _ (ed_kept HT.out K.out)).mono ?_); rintro e v ⟨rfl, bb⟩; replace K := Lib.hid (bthen K.out bb); clear bb)
          | ((with_reducible refine (ON.out _).mono ?_); rintro e v ⟨rfl, bb⟩; replace K := Lib.hid (bthen K.out bb); clear bb)
          | ((with_reducible refine (WD.out _).mono ?_); rintro e v ⟨rfl, bb⟩; replace K := Lib.hid (bthen K.out bb); clear bb)
          | ((with_reducible refine (MN.out _).mono ?_); rintro e v ⟨rfl, bb⟩; replace K := Lib.hid (bthen K.out bb); clear bb)
          | ((with_reducible refine (MD.out _).mono ?_); rintro e v ⟨rfl, bb⟩; replace K := Lib.hid (bthen K.out bb); clear bb)
          | ((with_reducible refine (lives _ (ed_kept HT.out K.out)).mono ?_); rintro e v ⟨rfl, bb⟩; replace K := Lib.hid (bthen K.out bb); clear bb))
      go_ret
      exact ⟨rfl, K.out⟩

end Go.Proofs.YtffhbndfllnemaaDoor.Band
