/- Arguments: four signals, their values written out; the table of edges: what its reading says of memory. -/
import Derived.Test.YtmkdnkgbnnmniaaBandRow
import Derived.LaidMore
import Derived.ChangeArms
import Derived.FnData
import Derived.OpenShut
import Derived.Lib.SmallJoins
import Derived.Deep.Strs
import Derived.Laws.IdiomArrays
namespace Go.Proofs.Ytmkdnkgbnnmniaa.Band
open Go.ChangeShapes Go.WideShapes Go.ChangeAt Go.RowKit Num Mem

theorem okWide_array {P : Program} {W : World} {r : Reach} {b0 n : Nat} {t e : TypeId} {v : Value} (ht : P.underlying t = some (.array n e)) (h : Value.okWide P W r b0 t v) : ∃ cs, v = .agg cs ∧ cs.size = P.cellsOf t := by
  simp only [Value.okWide, ht] at h
  obtain ⟨cs, h1, h2, _⟩ := h
  exact ⟨cs, h1, h2⟩

section
variable {X : Type} {enc : TypeId × Value → X} {W : World} {base b0 : Nat} {spare : Nat → Bool} {held : Bool} {r : Reach} {m : Nat}

theorem ce_bool : Try.prog.cellsOf 4 = 1 := by kernel_rfl

theorem ce_int64 : Try.prog.cellsOf 2 = 1 := by kernel_rfl

theorem ce_int : Try.prog.cellsOf 3 = 1 := by kernel_rfl

theorem ce_api_Voted : Try.prog.cellsOf 24 = 3 := by kernel_rfl
set_option maxRecDepth 100000 in
set_option maxHeartbeats 2000000 in
theorem at_api_Voted {c0 c1 c2 : Value} {x : DataW X × List MemPlace} (h : DataW.trod enc Try.prog W base spare held m 24 [c0, c1, c2] = some x) : ∃ (a0 : Bool) (a1 : Int) (a2 : Int), [c0, c1, c2] = [.bool a0, .int .i64 a1, .int .i64 a2] ∧ In a1 ∧ In a2 := by
  obtain ⟨xs, k, _, _, _, hxl, hel⟩ := DataW.trod_struct Try.underlying24 h
  match xs, hxl with
  | [y0, y1, y2], _ =>
    have g0 : DataW.trod enc Try.prog W base spare held k 4 ((([c0, c1, c2] : List Value).drop 0).take (Try.prog.cellsOf 4)) = some y0 := hel 0 _ rfl
    rw [ce_bool] at g0
    replace g0 : DataW.trod enc Try.prog W base spare held k 4 [c0] = some y0 := g0
    obtain ⟨a0, e0, _⟩ := DataW.trod_bool Try.underlying4 g0
    have g1 : DataW.trod enc Try.prog W base spare held k 2 ((([c0, c1, c2] : List Value).drop 1).take (Try.prog.cellsOf 2)) = some y1 := hel 1 _ rfl
    rw [ce_int64] at g1
    replace g1 : DataW.trod enc Try.prog W base spare held k 2 [c1] = some y1 := g1
    obtain ⟨a1, e1, _, w1⟩ := DataW.trod_int Try.underlying2 g1
    replace w1 : In a1 := In_wf w1
    have g2 : DataW.trod enc Try.prog W base spare held k 3 ((([c0, c1, c2] : List Value).drop 2).take (Try.prog.cellsOf 3)) = some y2 := hel 2 _ rfl
    rw [ce_int] at g2
    replace g2 : DataW.trod enc Try.prog W base spare held k 3 [c2] = some y2 := g2
    obtain ⟨a2, e2, _, w2⟩ := DataW.trod_int Try.underlying3 g2
    replace w2 : In a2 := In_wf w2
    exact ⟨a0, a1, a2, (show ([c0, c1, c2] : List Value) = (([c0] : List Value) ++ (([c1] : List Value) ++ ([c2] : List Value))) from rfl).trans (by rw [e0, e1, e2]; rfl), w1, w2⟩

theorem ce__4_api_Voted : Try.prog.cellsOf 25 = 12 := by kernel_rfl
set_option maxRecDepth 100000 in
set_option maxHeartbeats 2000000 in
theorem at__4_api_Voted {c0 c1 c2 c3 c4 c5 c6 c7 c8 c9 c10 c11 : Value} {x : DataW X × List MemPlace} (h : DataW.trod enc Try.prog W base spare held m 25 [c0, c1, c2, c3, c4, c5, c6, c7, c8, c9, c10, c11] = some x) : ∃ (a0 : Bool) (a1 : Int) (a2 : Int) (a3 : Bool) (a4 : Int) (a5 : Int) (a6 : Bool) (a7 : Int) (a8 : Int) (a9 : Bool) (a10 : Int) (a11 : Int), [c0, c1, c2, c3, c4, c5, c6, c7, c8, c9, c10, c11] = [.bool a0, .int .i64 a1, .int .i64 a2, .bool a3, .int .i64 a4, .int .i64 a5, .bool a6, .int .i64 a7, .int .i64 a8, .bool a9, .int .i64 a10, .int .i64 a11] ∧ In a1 ∧ In a2 ∧ In a4 ∧ In a5 ∧ In a7 ∧ In a8 ∧ In a10 ∧ In a11 := by
  obtain ⟨xs, k, _, _, _, hxl, hel⟩ := DataW.trod_array Try.underlying25 h
  match xs, hxl with
  | [y0, y1, y2, y3], _ =>
    have g0 := hel 0 (by omega)
    simp only [ce_api_Voted] at g0
    replace g0 : DataW.trod enc Try.prog W base spare held k 24 [c0, c1, c2] = some y0 := g0
    obtain ⟨a0, a1, a2, e0, w1, w2⟩ := at_api_Voted g0
    have g1 := hel 1 (by omega)
    simp only [ce_api_Voted] at g1
    replace g1 : DataW.trod enc Try.prog W base spare held k 24 [c3, c4, c5] = some y1 := g1
    obtain ⟨a3, a4, a5, e1, w4, w5⟩ := at_api_Voted g1
    have g2 := hel 2 (by omega)
    simp only [ce_api_Voted] at g2
    replace g2 : DataW.trod enc Try.prog W base spare held k 24 [c6, c7, c8] = some y2 := g2
    obtain ⟨a6, a7, a8, e2, w7, w8⟩ := at_api_Voted g2
    have g3 := hel 3 (by omega)
    simp only [ce_api_Voted] at g3
    replace g3 : DataW.trod enc Try.prog W base spare held k 24 [c9, c10, c11] = some y3 := g3
    obtain ⟨a9, a10, a11, e3, w10, w11⟩ := at_api_Voted g3
    exact ⟨a0, a1, a2, a3, a4, a5, a6, a7, a8, a9, a10, a11, (show ([c0, c1, c2, c3, c4, c5, c6, c7, c8, c9, c10, c11] : List Value) = (([c0, c1, c2] : List Value) ++ (([c3, c4, c5] : List Value) ++ (([c6, c7, c8] : List Value) ++ ([c9, c10, c11] : List Value)))) from rfl).trans (by rw [e0, e1, e2, e3]; rfl), w1, w2, w4, w5, w7, w8, w10, w11⟩

set_option maxRecDepth 100000 in
set_option maxHeartbeats 2000000 in
theorem open_v4 {v : Value} {d : DataW X} {p : List MemPlace} (hv : Value.okWide Try.prog W r b0 25 v) (h : DataW.Trod enc Try.prog W base spare held 25 v d p) : ∃ Y : Nat → Vt, v = .agg (v12 Y) := by
  obtain ⟨cs, rfl, hsz⟩ := okWide_array Try.underlying25 hv
  rw [ce__4_api_Voted] at hsz
  obtain ⟨l⟩ := cs
  replace hsz : l.length = 12 := hsz
  rcases l with _ | ⟨c0, l⟩
  · simp at hsz
  rcases l with _ | ⟨c1, l⟩
  · simp at hsz
  rcases l with _ | ⟨c2, l⟩
  · simp at hsz
  rcases l with _ | ⟨c3, l⟩
  · simp at hsz
  rcases l with _ | ⟨c4, l⟩
  · simp at hsz
  rcases l with _ | ⟨c5, l⟩
  · simp at hsz
  rcases l with _ | ⟨c6, l⟩
  · simp at hsz
  rcases l with _ | ⟨c7, l⟩
  · simp at hsz
  rcases l with _ | ⟨c8, l⟩
  · simp at hsz
  rcases l with _ | ⟨c9, l⟩
  · simp at hsz
  rcases l with _ | ⟨c10, l⟩
  · simp at hsz
  rcases l with _ | ⟨c11, l⟩
  · simp at hsz
  rcases l with _ | ⟨cx, l⟩
  · obtain ⟨fuel, hf⟩ := h
    obtain ⟨a0, a1, a2, a3, a4, a5, a6, a7, a8, a9, a10, a11, e, w1, w2, w4, w5, w7, w8, w10, w11⟩ := at__4_api_Voted hf
    exact ⟨fun i => match i with | 0 => ⟨a0, a1, a2⟩ | 1 => ⟨a3, a4, a5⟩ | 2 => ⟨a6, a7, a8⟩ | _ => ⟨a9, a10, a11⟩, congrArg (fun l => Value.agg ⟨l⟩) e⟩
  · simp at hsz

theorem ce_uint8 : Try.prog.cellsOf 5 = 1 := by kernel_rfl

end

end Go.Proofs.Ytmkdnkgbnnmniaa.Band
