/- An argument that is an array of four arrays of three numbers of 32 bits: its value written out. -/
import Derived.Test.YtjkfpnplocmhiaaPortAll
import Derived.OpenShut
import Derived.Laws.IdiomArrays
namespace Go.Proofs.Ytjkfpnplocmhiaa.Port
open Go.ChangeShapes Go.WideShapes Go.ChangeAt Go.RowKit

theorem okWide_array {P : Program} {W : World} {r : Reach} {b0 n : Nat} {t e : TypeId} {v : Value} (ht : P.underlying t = some (.array n e)) (h : Value.okWide P W r b0 t v) : ∃ cs, v = .agg cs ∧ cs.size = P.cellsOf t := by
  simp only [Value.okWide, ht] at h
  obtain ⟨cs, h1, h2, _⟩ := h
  exact ⟨cs, h1, h2⟩

theorem open_words {H : Type} {enc : TypeId × Value → H} {P : Program} {W : World} {base b0 : Nat} {spare : Nat → Bool} {held : Bool} {r : Reach} {t e i : TypeId} {v : Value} {d : DataW H} {p : List MemPlace}
    (ht : P.underlying t = some (.array 4 e)) (he : P.underlying e = some (.array 3 i)) (hi : P.underlying i = some (.int .u32)) (ct : P.cellsOf t = 12) (ce : P.cellsOf e = 3) (ci : P.cellsOf i = 1)
    (hv : Value.okWide P W r b0 t v) (h : DataW.Trod enc P W base spare held t v d p) :
    ∃ X : Nat → Int, v = .agg (wordsA X) ∧ ∀ m, 0 ≤ X m ∧ X m < 4294967296 := by
  obtain ⟨cs, rfl, hsz⟩ := okWide_array ht hv
  rw [ct] at hsz
  obtain ⟨l⟩ := cs
  match l, hsz with
  | [c0, c1, c2, c3, c4, c5, c6, c7, c8, c9, c10, c11], _ =>
    obtain ⟨fuel, hf⟩ := h
    obtain ⟨xs, k, _, _, _, hxl, hel⟩ := DataW.trod_array ht hf
    match xs, hxl with
    | [y0, y1, y2, y3], _ =>
      have g0 := hel 0 (by omega)
      simp [Value.cells, ce] at g0
      obtain ⟨z0, z1, z2, n0, _, t0, t1, t2⟩ := trod_array3 he ci g0
      have g1 := hel 1 (by omega)
      simp [Value.cells, ce] at g1
      obtain ⟨z3, z4, z5, n1, _, t3, t4, t5⟩ := trod_array3 he ci g1
      have g2 := hel 2 (by omega)
      simp [Value.cells, ce] at g2
      obtain ⟨z6, z7, z8, n2, _, t6, t7, t8⟩ := trod_array3 he ci g2
      have g3 := hel 3 (by omega)
      simp [Value.cells, ce] at g3
      obtain ⟨z9, z10, z11, n3, _, t9, t10, t11⟩ := trod_array3 he ci g3
      obtain ⟨a0, e0, _, w0⟩ := DataW.trod_int hi t0
      obtain ⟨a1, e1, _, w1⟩ := DataW.trod_int hi t1
      obtain ⟨a2, e2, _, w2⟩ := DataW.trod_int hi t2
      obtain ⟨a3, e3, _, w3⟩ := DataW.trod_int hi t3
      obtain ⟨a4, e4, _, w4⟩ := DataW.trod_int hi t4
      obtain ⟨a5, e5, _, w5⟩ := DataW.trod_int hi t5
      obtain ⟨a6, e6, _, w6⟩ := DataW.trod_int hi t6
      obtain ⟨a7, e7, _, w7⟩ := DataW.trod_int hi t7
      obtain ⟨a8, e8, _, w8⟩ := DataW.trod_int hi t8
      obtain ⟨a9, e9, _, w9⟩ := DataW.trod_int hi t9
      obtain ⟨a10, e10, _, w10⟩ := DataW.trod_int hi t10
      obtain ⟨a11, e11, _, w11⟩ := DataW.trod_int hi t11
      simp only [List.cons.injEq, and_true] at e0 e1 e2 e3 e4 e5 e6 e7 e8 e9 e10 e11
      subst e0 e1 e2 e3 e4 e5 e6 e7 e8 e9 e10 e11
      refine ⟨fun m => match m with | 0 => a0 | 1 => a1 | 2 => a2 | 3 => a3 | 4 => a4 | 5 => a5 | 6 => a6 | 7 => a7 | 8 => a8 | 9 => a9 | 10 => a10 | 11 => a11 | _ => 0, rfl, fun m => ?_⟩
      match m with
      | 0 => exact ⟨(bounds_u32 w0).1, by have := (bounds_u32 w0).2; show a0 < _; omega⟩
      | 1 => exact ⟨(bounds_u32 w1).1, by have := (bounds_u32 w1).2; show a1 < _; omega⟩
      | 2 => exact ⟨(bounds_u32 w2).1, by have := (bounds_u32 w2).2; show a2 < _; omega⟩
      | 3 => exact ⟨(bounds_u32 w3).1, by have := (bounds_u32 w3).2; show a3 < _; omega⟩
      | 4 => exact ⟨(bounds_u32 w4).1, by have := (bounds_u32 w4).2; show a4 < _; omega⟩
      | 5 => exact ⟨(bounds_u32 w5).1, by have := (bounds_u32 w5).2; show a5 < _; omega⟩
      | 6 => exact ⟨(bounds_u32 w6).1, by have := (bounds_u32 w6).2; show a6 < _; omega⟩
      | 7 => exact ⟨(bounds_u32 w7).1, by have := (bounds_u32 w7).2; show a7 < _; omega⟩
      | 8 => exact ⟨(bounds_u32 w8).1, by have := (bounds_u32 w8).2; show a8 < _; omega⟩
      | 9 => exact ⟨(bounds_u32 w9).1, by have := (bounds_u32 w9).2; show a9 < _; omega⟩
      | 10 => exact ⟨(bounds_u32 w10).1, by have := (bounds_u32 w10).2; show a10 < _; omega⟩
      | 11 => exact ⟨(bounds_u32 w11).1, by have := (bounds_u32 w11).2; show a11 < _; omega⟩
      | _ + 12 => exact ⟨Int.le_refl 0, show (0 : Int) < 4294967296 by decide⟩

end Go.Proofs.Ytjkfpnplocmhiaa.Port
