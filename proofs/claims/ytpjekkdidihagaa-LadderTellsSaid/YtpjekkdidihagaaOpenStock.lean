/- Arguments: four signals' healths, three bools, an inventory: their values written out. -/
import Derived.Test.YtpjekkdidihagaaEquipRow
import Derived.OpenShut
import Derived.Lib.SmallJoins
import Derived.Deep.Strs
import Derived.Laws.IdiomArrays
namespace Go.Proofs.Ytpjekkdidihagaa.Equip
open Go.ChangeShapes Go.WideShapes Go.ChangeAt Go.RowKit Num Pers Vote Lanes

theorem okWide_array {P : Program} {W : World} {r : Reach} {b0 n : Nat} {t e : TypeId} {v : Value} (ht : P.underlying t = some (.array n e)) (h : Value.okWide P W r b0 t v) : ∃ cs, v = .agg cs ∧ cs.size = P.cellsOf t := by
  simp only [Value.okWide, ht] at h
  obtain ⟨cs, h1, h2, _⟩ := h
  exact ⟨cs, h1, h2⟩

section
variable {X : Type} {enc : TypeId × Value → X} {W : World} {base b0 : Nat} {spare : Nat → Bool} {held : Bool} {r : Reach} {m : Nat}

theorem ce_int : Try.prog.cellsOf 3 = 1 := by kernel_rfl

theorem ce_bool : Try.prog.cellsOf 4 = 1 := by kernel_rfl

theorem ce__4_int : Try.prog.cellsOf 22 = 4 := by kernel_rfl
set_option maxRecDepth 100000 in
set_option maxHeartbeats 2000000 in
theorem at__4_int {c0 c1 c2 c3 : Value} {x : DataW X × List MemPlace} (h : DataW.trod enc Try.prog W base spare held m 22 [c0, c1, c2, c3] = some x) : ∃ (a0 : Int) (a1 : Int) (a2 : Int) (a3 : Int), [c0, c1, c2, c3] = [.int .i64 a0, .int .i64 a1, .int .i64 a2, .int .i64 a3] ∧ In a0 ∧ In a1 ∧ In a2 ∧ In a3 := by
  obtain ⟨xs, k, _, _, _, hxl, hel⟩ := DataW.trod_array Try.underlying22 h
  match xs, hxl with
  | [y0, y1, y2, y3], _ =>
    have g0 := hel 0 (by omega)
    simp only [ce_int] at g0
    replace g0 : DataW.trod enc Try.prog W base spare held k 3 [c0] = some y0 := g0
    obtain ⟨a0, e0, _, w0⟩ := DataW.trod_int Try.underlying3 g0
    replace w0 : In a0 := In_wf w0
    have g1 := hel 1 (by omega)
    simp only [ce_int] at g1
    replace g1 : DataW.trod enc Try.prog W base spare held k 3 [c1] = some y1 := g1
    obtain ⟨a1, e1, _, w1⟩ := DataW.trod_int Try.underlying3 g1
    replace w1 : In a1 := In_wf w1
    have g2 := hel 2 (by omega)
    simp only [ce_int] at g2
    replace g2 : DataW.trod enc Try.prog W base spare held k 3 [c2] = some y2 := g2
    obtain ⟨a2, e2, _, w2⟩ := DataW.trod_int Try.underlying3 g2
    replace w2 : In a2 := In_wf w2
    have g3 := hel 3 (by omega)
    simp only [ce_int] at g3
    replace g3 : DataW.trod enc Try.prog W base spare held k 3 [c3] = some y3 := g3
    obtain ⟨a3, e3, _, w3⟩ := DataW.trod_int Try.underlying3 g3
    replace w3 : In a3 := In_wf w3
    exact ⟨a0, a1, a2, a3, (show ([c0, c1, c2, c3] : List Value) = (([c0] : List Value) ++ (([c1] : List Value) ++ (([c2] : List Value) ++ ([c3] : List Value)))) from rfl).trans (by rw [e0, e1, e2, e3]; rfl), w0, w1, w2, w3⟩

theorem ce_api_Stock : Try.prog.cellsOf 24 = 8 := by kernel_rfl
set_option maxRecDepth 100000 in
set_option maxHeartbeats 2000000 in
theorem at_api_Stock {c0 c1 c2 c3 c4 c5 c6 c7 : Value} {x : DataW X × List MemPlace} (h : DataW.trod enc Try.prog W base spare held m 24 [c0, c1, c2, c3, c4, c5, c6, c7] = some x) : ∃ (a0 : Int) (a1 : Int) (a2 : Int) (a3 : Int) (a4 : Int) (a5 : Int) (a6 : Bool) (a7 : Bool), [c0, c1, c2, c3, c4, c5, c6, c7] = [.int .i64 a0, .int .i64 a1, .int .i64 a2, .int .i64 a3, .int .i64 a4, .int .i64 a5, .bool a6, .bool a7] ∧ In a0 ∧ In a1 ∧ In a2 ∧ In a3 ∧ In a4 ∧ In a5 := by
  obtain ⟨xs, k, _, _, _, hxl, hel⟩ := DataW.trod_struct Try.underlying24 h
  match xs, hxl with
  | [y0, y1, y2, y3, y4], _ =>
    have g0 : DataW.trod enc Try.prog W base spare held k 22 ((([c0, c1, c2, c3, c4, c5, c6, c7] : List Value).drop 0).take (Try.prog.cellsOf 22)) = some y0 := hel 0 _ rfl
    rw [ce__4_int] at g0
    replace g0 : DataW.trod enc Try.prog W base spare held k 22 [c0, c1, c2, c3] = some y0 := g0
    obtain ⟨a0, a1, a2, a3, e0, w0, w1, w2, w3⟩ := at__4_int g0
    have g1 : DataW.trod enc Try.prog W base spare held k 3 ((([c0, c1, c2, c3, c4, c5, c6, c7] : List Value).drop 4).take (Try.prog.cellsOf 3)) = some y1 := hel 1 _ rfl
    rw [ce_int] at g1
    replace g1 : DataW.trod enc Try.prog W base spare held k 3 [c4] = some y1 := g1
    obtain ⟨a4, e1, _, w4⟩ := DataW.trod_int Try.underlying3 g1
    replace w4 : In a4 := In_wf w4
    have g2 : DataW.trod enc Try.prog W base spare held k 3 ((([c0, c1, c2, c3, c4, c5, c6, c7] : List Value).drop 5).take (Try.prog.cellsOf 3)) = some y2 := hel 2 _ rfl
    rw [ce_int] at g2
    replace g2 : DataW.trod enc Try.prog W base spare held k 3 [c5] = some y2 := g2
    obtain ⟨a5, e2, _, w5⟩ := DataW.trod_int Try.underlying3 g2
    replace w5 : In a5 := In_wf w5
    have g3 : DataW.trod enc Try.prog W base spare held k 4 ((([c0, c1, c2, c3, c4, c5, c6, c7] : List Value).drop 6).take (Try.prog.cellsOf 4)) = some y3 := hel 3 _ rfl
    rw [ce_bool] at g3
    replace g3 : DataW.trod enc Try.prog W base spare held k 4 [c6] = some y3 := g3
    obtain ⟨a6, e3, _⟩ := DataW.trod_bool Try.underlying4 g3
    have g4 : DataW.trod enc Try.prog W base spare held k 4 ((([c0, c1, c2, c3, c4, c5, c6, c7] : List Value).drop 7).take (Try.prog.cellsOf 4)) = some y4 := hel 4 _ rfl
    rw [ce_bool] at g4
    replace g4 : DataW.trod enc Try.prog W base spare held k 4 [c7] = some y4 := g4
    obtain ⟨a7, e4, _⟩ := DataW.trod_bool Try.underlying4 g4
    exact ⟨a0, a1, a2, a3, a4, a5, a6, a7, (show ([c0, c1, c2, c3, c4, c5, c6, c7] : List Value) = (([c0, c1, c2, c3] : List Value) ++ (([c4] : List Value) ++ (([c5] : List Value) ++ (([c6] : List Value) ++ ([c7] : List Value))))) from rfl).trans (by rw [e0, e1, e2, e3, e4]; rfl), w0, w1, w2, w3, w4, w5⟩

set_option maxRecDepth 100000 in
set_option maxHeartbeats 2000000 in
theorem open_st {v : Value} {d : DataW X} {p : List MemPlace} (hv : Value.okWide Try.prog W r b0 24 v) (h : DataW.Trod enc Try.prog W base spare held 24 v d p) : ∃ S : St, v = .agg (stA S) ∧ Wf S := by
  obtain ⟨cs, rfl, hsz⟩ := okWide_struct Try.underlying24 hv
  rw [ce_api_Stock] at hsz
  obtain ⟨l⟩ := cs
  replace hsz : l.length = 8 := hsz
  rcases l with _ | ⟨c0, l⟩
  · simp at hsz
  rcases l with _ | ⟨c1, l⟩
  · simp at hsz
  rcases l with _ | ⟨c2, l⟩
  · simp at hsz
  rcases l with _ | ⟨c3, l⟩
  · simp at hsz
  rcases l with _ | ⟨c4, l⟩
  · simp at hsz
  rcases l with _ | ⟨c5, l⟩
  · simp at hsz
  rcases l with _ | ⟨c6, l⟩
  · simp at hsz
  rcases l with _ | ⟨c7, l⟩
  · simp at hsz
  rcases l with _ | ⟨cx, l⟩
  · obtain ⟨fuel, hf⟩ := h
    obtain ⟨a0, a1, a2, a3, a4, a5, a6, a7, e, w0, w1, w2, w3, w4, w5⟩ := at_api_Stock hf
    exact ⟨⟨fun i => match i with | 0 => a0 | 1 => a1 | 2 => a2 | _ => a3, a4, a5, a6, a7⟩, congrArg (fun l => Value.agg ⟨l⟩) e, ⟨fun i => match i with | 0 => w0 | 1 => w1 | 2 => w2 | _ + 3 => w3, w4, w5⟩⟩
  · simp at hsz

end

end Go.Proofs.Ytpjekkdidihagaa.Equip
