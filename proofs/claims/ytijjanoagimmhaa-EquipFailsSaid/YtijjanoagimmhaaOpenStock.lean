/- Arguments: four signals' healths, three bools, an inventory: their values written out. -/
import Derived.Test.YtijjanoagimmhaaEquipRow
import Derived.OpenShut
import Derived.Lib.SmallJoins
import Derived.Deep.Strs
import Derived.Laws.IdiomArrays
namespace Go.Proofs.Ytijjanoagimmhaa.Equip
open Go.ChangeShapes Go.WideShapes Go.ChangeAt Go.RowKit Num Pers Vote Lanes

theorem okWide_array {P : Program} {W : World} {r : Reach} {b0 n : Nat} {t e : TypeId} {v : Value} (ht : P.underlying t = some (.array n e)) (h : Value.okWide P W r b0 t v) : ∃ cs, v = .agg cs ∧ cs.size = P.cellsOf t := by
  simp only [Value.okWide, ht] at h
  obtain ⟨cs, h1, h2, _⟩ := h
  exact ⟨cs, h1, h2⟩

section
variable {X : Type} {enc : TypeId × Value → X} {W : World} {base b0 : Nat} {spare : Nat → Bool} {held : Bool} {r : Reach} {m : Nat}
theorem ce_int : Try.prog.cellsOf 3 = 1 := by kernel_rfl
theorem ce_bool : Try.prog.cellsOf 4 = 1 := by kernel_rfl
theorem ce_api_Health : Try.prog.cellsOf 23 = 3 := by kernel_rfl
set_option maxRecDepth 100000 in
set_option maxHeartbeats 2000000 in
theorem at_api_Health {c0 c1 c2 : Value} {x : DataW X × List MemPlace} (h : DataW.trod enc Try.prog W base spare held m 23 [c0, c1, c2] = some x) : ∃ (a0 : Int) (a1 : Bool) (a2 : Int), [c0, c1, c2] = [.int .i64 a0, .bool a1, .int .i64 a2] ∧ In a0 ∧ In a2 := by
  obtain ⟨xs, k, _, _, _, hxl, hel⟩ := DataW.trod_struct Try.underlying23 h
  match xs, hxl with
  | [y0, y1, y2], _ =>
    have g0 : DataW.trod enc Try.prog W base spare held k 3 ((([c0, c1, c2] : List Value).drop 0).take (Try.prog.cellsOf 3)) = some y0 := hel 0 _ rfl
    rw [ce_int] at g0
    replace g0 : DataW.trod enc Try.prog W base spare held k 3 [c0] = some y0 := g0
    obtain ⟨a0, e0, _, w0⟩ := DataW.trod_int Try.underlying3 g0
    replace w0 : In a0 := In_wf w0
    have g1 : DataW.trod enc Try.prog W base spare held k 4 ((([c0, c1, c2] : List Value).drop 1).take (Try.prog.cellsOf 4)) = some y1 := hel 1 _ rfl
    rw [ce_bool] at g1
    replace g1 : DataW.trod enc Try.prog W base spare held k 4 [c1] = some y1 := g1
    obtain ⟨a1, e1, _⟩ := DataW.trod_bool Try.underlying4 g1
    have g2 : DataW.trod enc Try.prog W base spare held k 3 ((([c0, c1, c2] : List Value).drop 2).take (Try.prog.cellsOf 3)) = some y2 := hel 2 _ rfl
    rw [ce_int] at g2
    replace g2 : DataW.trod enc Try.prog W base spare held k 3 [c2] = some y2 := g2
    obtain ⟨a2, e2, _, w2⟩ := DataW.trod_int Try.underlying3 g2
    replace w2 : In a2 := In_wf w2
    exact ⟨a0, a1, a2, (show ([c0, c1, c2] : List Value) = (([c0] : List Value) ++ (([c1] : List Value) ++ ([c2] : List Value))) from rfl).trans (by rw [e0, e1, e2]; rfl), w0, w2⟩
theorem ce__3_api_Health : Try.prog.cellsOf 24 = 9 := by kernel_rfl
set_option maxRecDepth 100000 in
set_option maxHeartbeats 2000000 in
theorem at__3_api_Health {c0 c1 c2 c3 c4 c5 c6 c7 c8 : Value} {x : DataW X × List MemPlace} (h : DataW.trod enc Try.prog W base spare held m 24 [c0, c1, c2, c3, c4, c5, c6, c7, c8] = some x) : ∃ (a0 : Int) (a1 : Bool) (a2 : Int) (a3 : Int) (a4 : Bool) (a5 : Int) (a6 : Int) (a7 : Bool) (a8 : Int), [c0, c1, c2, c3, c4, c5, c6, c7, c8] = [.int .i64 a0, .bool a1, .int .i64 a2, .int .i64 a3, .bool a4, .int .i64 a5, .int .i64 a6, .bool a7, .int .i64 a8] ∧ In a0 ∧ In a2 ∧ In a3 ∧ In a5 ∧ In a6 ∧ In a8 := by
  obtain ⟨xs, k, _, _, _, hxl, hel⟩ := DataW.trod_array Try.underlying24 h
  match xs, hxl with
  | [y0, y1, y2], _ =>
    have g0 := hel 0 (by omega)
    simp only [ce_api_Health] at g0
    replace g0 : DataW.trod enc Try.prog W base spare held k 23 [c0, c1, c2] = some y0 := g0
    obtain ⟨a0, a1, a2, e0, w0, w2⟩ := at_api_Health g0
    have g1 := hel 1 (by omega)
    simp only [ce_api_Health] at g1
    replace g1 : DataW.trod enc Try.prog W base spare held k 23 [c3, c4, c5] = some y1 := g1
    obtain ⟨a3, a4, a5, e1, w3, w5⟩ := at_api_Health g1
    have g2 := hel 2 (by omega)
    simp only [ce_api_Health] at g2
    replace g2 : DataW.trod enc Try.prog W base spare held k 23 [c6, c7, c8] = some y2 := g2
    obtain ⟨a6, a7, a8, e2, w6, w8⟩ := at_api_Health g2
    exact ⟨a0, a1, a2, a3, a4, a5, a6, a7, a8, (show ([c0, c1, c2, c3, c4, c5, c6, c7, c8] : List Value) = (([c0, c1, c2] : List Value) ++ (([c3, c4, c5] : List Value) ++ ([c6, c7, c8] : List Value))) from rfl).trans (by rw [e0, e1, e2]; rfl), w0, w2, w3, w5, w6, w8⟩
theorem ce__4__3_api_Health : Try.prog.cellsOf 25 = 36 := by kernel_rfl
set_option maxRecDepth 100000 in
set_option maxHeartbeats 2000000 in
theorem at__4__3_api_Health {c0 c1 c2 c3 c4 c5 c6 c7 c8 c9 c10 c11 c12 c13 c14 c15 c16 c17 c18 c19 c20 c21 c22 c23 c24 c25 c26 c27 c28 c29 c30 c31 c32 c33 c34 c35 : Value} {x : DataW X × List MemPlace} (h : DataW.trod enc Try.prog W base spare held m 25 [c0, c1, c2, c3, c4, c5, c6, c7, c8, c9, c10, c11, c12, c13, c14, c15, c16, c17, c18, c19, c20, c21, c22, c23, c24, c25, c26, c27, c28, c29, c30, c31, c32, c33, c34, c35] = some x) : ∃ (a0 : Int) (a1 : Bool) (a2 : Int) (a3 : Int) (a4 : Bool) (a5 : Int) (a6 : Int) (a7 : Bool) (a8 : Int) (a9 : Int) (a10 : Bool) (a11 : Int) (a12 : Int) (a13 : Bool) (a14 : Int) (a15 : Int) (a16 : Bool) (a17 : Int) (a18 : Int) (a19 : Bool) (a20 : Int) (a21 : Int) (a22 : Bool) (a23 : Int) (a24 : Int) (a25 : Bool) (a26 : Int) (a27 : Int) (a28 : Bool) (a29 : Int) (a30 : Int) (a31 : Bool) (a32 : Int) (a33 : Int) (a34 : Bool) (a35 : Int), [c0, c1, c2, c3, c4, c5, c6, c7, c8, c9, c10, c11, c12, c13, c14, c15, c16, c17, c18, c19, c20, c21, c22, c23, c24, c25, c26, c27, c28, c29, c30, c31, c32, c33, c34, c35] = [.int .i64 a0, .bool a1, .int .i64 a2, .int .i64 a3, .bool a4, .int .i64 a5, .int .i64 a6, .bool a7, .int .i64 a8, .int .i64 a9, .bool a10, .int .i64 a11, .int .i64 a12, .bool a13, .int .i64 a14, .int .i64 a15, .bool a16, .int .i64 a17, .int .i64 a18, .bool a19, .int .i64 a20, .int .i64 a21, .bool a22, .int .i64 a23, .int .i64 a24, .bool a25, .int .i64 a26, .int .i64 a27, .bool a28, .int .i64 a29, .int .i64 a30, .bool a31, .int .i64 a32, .int .i64 a33, .bool a34, .int .i64 a35] ∧ In a0 ∧ In a2 ∧ In a3 ∧ In a5 ∧ In a6 ∧ In a8 ∧ In a9 ∧ In a11 ∧ In a12 ∧ In a14 ∧ In a15 ∧ In a17 ∧ In a18 ∧ In a20 ∧ In a21 ∧ In a23 ∧ In a24 ∧ In a26 ∧ In a27 ∧ In a29 ∧ In a30 ∧ In a32 ∧ In a33 ∧ In a35 := by
  obtain ⟨xs, k, _, _, _, hxl, hel⟩ := DataW.trod_array Try.underlying25 h
  match xs, hxl with
  | [y0, y1, y2, y3], _ =>
    have g0 := hel 0 (by omega)
    simp only [ce__3_api_Health] at g0
    replace g0 : DataW.trod enc Try.prog W base spare held k 24 [c0, c1, c2, c3, c4, c5, c6, c7, c8] = some y0 := g0
    obtain ⟨a0, a1, a2, a3, a4, a5, a6, a7, a8, e0, w0, w2, w3, w5, w6, w8⟩ := at__3_api_Health g0
    have g1 := hel 1 (by omega)
    simp only [ce__3_api_Health] at g1
    replace g1 : DataW.trod enc Try.prog W base spare held k 24 [c9, c10, c11, c12, c13, c14, c15, c16, c17] = some y1 := g1
    obtain ⟨a9, a10, a11, a12, a13, a14, a15, a16, a17, e1, w9, w11, w12, w14, w15, w17⟩ := at__3_api_Health g1
    have g2 := hel 2 (by omega)
    simp only [ce__3_api_Health] at g2
    replace g2 : DataW.trod enc Try.prog W base spare held k 24 [c18, c19, c20, c21, c22, c23, c24, c25, c26] = some y2 := g2
    obtain ⟨a18, a19, a20, a21, a22, a23, a24, a25, a26, e2, w18, w20, w21, w23, w24, w26⟩ := at__3_api_Health g2
    have g3 := hel 3 (by omega)
    simp only [ce__3_api_Health] at g3
    replace g3 : DataW.trod enc Try.prog W base spare held k 24 [c27, c28, c29, c30, c31, c32, c33, c34, c35] = some y3 := g3
    obtain ⟨a27, a28, a29, a30, a31, a32, a33, a34, a35, e3, w27, w29, w30, w32, w33, w35⟩ := at__3_api_Health g3
    exact ⟨a0, a1, a2, a3, a4, a5, a6, a7, a8, a9, a10, a11, a12, a13, a14, a15, a16, a17, a18, a19, a20, a21, a22, a23, a24, a25, a26, a27, a28, a29, a30, a31, a32, a33, a34, a35, (show ([c0, c1, c2, c3, c4, c5, c6, c7, c8, c9, c10, c11, c12, c13, c14, c15, c16, c17, c18, c19, c20, c21, c22, c23, c24, c25, c26, c27, c28, c29, c30, c31, c32, c33, c34, c35] : List Value) = (([c0, c1, c2, c3, c4, c5, c6, c7, c8] : List Value) ++ (([c9, c10, c11, c12, c13, c14, c15, c16, c17] : List Value) ++ (([c18, c19, c20, c21, c22, c23, c24, c25, c26] : List Value) ++ ([c27, c28, c29, c30, c31, c32, c33, c34, c35] : List Value)))) from rfl).trans (by rw [e0, e1, e2, e3]; rfl), w0, w2, w3, w5, w6, w8, w9, w11, w12, w14, w15, w17, w18, w20, w21, w23, w24, w26, w27, w29, w30, w32, w33, w35⟩
theorem ce__3_bool : Try.prog.cellsOf 26 = 3 := by kernel_rfl
set_option maxRecDepth 100000 in
set_option maxHeartbeats 2000000 in
theorem at__3_bool {c0 c1 c2 : Value} {x : DataW X × List MemPlace} (h : DataW.trod enc Try.prog W base spare held m 26 [c0, c1, c2] = some x) : ∃ (a0 : Bool) (a1 : Bool) (a2 : Bool), [c0, c1, c2] = [.bool a0, .bool a1, .bool a2] := by
  obtain ⟨xs, k, _, _, _, hxl, hel⟩ := DataW.trod_array Try.underlying26 h
  match xs, hxl with
  | [y0, y1, y2], _ =>
    have g0 := hel 0 (by omega)
    simp only [ce_bool] at g0
    replace g0 : DataW.trod enc Try.prog W base spare held k 4 [c0] = some y0 := g0
    obtain ⟨a0, e0, _⟩ := DataW.trod_bool Try.underlying4 g0
    have g1 := hel 1 (by omega)
    simp only [ce_bool] at g1
    replace g1 : DataW.trod enc Try.prog W base spare held k 4 [c1] = some y1 := g1
    obtain ⟨a1, e1, _⟩ := DataW.trod_bool Try.underlying4 g1
    have g2 := hel 2 (by omega)
    simp only [ce_bool] at g2
    replace g2 : DataW.trod enc Try.prog W base spare held k 4 [c2] = some y2 := g2
    obtain ⟨a2, e2, _⟩ := DataW.trod_bool Try.underlying4 g2
    exact ⟨a0, a1, a2, (show ([c0, c1, c2] : List Value) = (([c0] : List Value) ++ (([c1] : List Value) ++ ([c2] : List Value))) from rfl).trans (by rw [e0, e1, e2]; rfl)⟩
theorem ce__4_int : Try.prog.cellsOf 27 = 4 := by kernel_rfl
set_option maxRecDepth 100000 in
set_option maxHeartbeats 2000000 in
theorem at__4_int {c0 c1 c2 c3 : Value} {x : DataW X × List MemPlace} (h : DataW.trod enc Try.prog W base spare held m 27 [c0, c1, c2, c3] = some x) : ∃ (a0 : Int) (a1 : Int) (a2 : Int) (a3 : Int), [c0, c1, c2, c3] = [.int .i64 a0, .int .i64 a1, .int .i64 a2, .int .i64 a3] ∧ In a0 ∧ In a1 ∧ In a2 ∧ In a3 := by
  obtain ⟨xs, k, _, _, _, hxl, hel⟩ := DataW.trod_array Try.underlying27 h
  match xs, hxl with
  | [y0, y1, y2, y3], _ =>
    have g0 := hel 0 (by omega)
    simp only [ce_int] at g0
    replace g0 : DataW.trod enc Try.prog W base spare held k 3 [c0] = some y0 := g0
    obtain ⟨a0, e0, _, w0⟩ := DataW.trod_int Try.underlying3 g0
    replace w0 : In a0 := In_wf w0
    have g1 := hel 1 (by omega)
    simp only [ce_int] at g1
    replace g1 : DataW.trod enc Try.prog W base spare held k 3 [c1] = some y1 := g1
    obtain ⟨a1, e1, _, w1⟩ := DataW.trod_int Try.underlying3 g1
    replace w1 : In a1 := In_wf w1
    have g2 := hel 2 (by omega)
    simp only [ce_int] at g2
    replace g2 : DataW.trod enc Try.prog W base spare held k 3 [c2] = some y2 := g2
    obtain ⟨a2, e2, _, w2⟩ := DataW.trod_int Try.underlying3 g2
    replace w2 : In a2 := In_wf w2
    have g3 := hel 3 (by omega)
    simp only [ce_int] at g3
    replace g3 : DataW.trod enc Try.prog W base spare held k 3 [c3] = some y3 := g3
    obtain ⟨a3, e3, _, w3⟩ := DataW.trod_int Try.underlying3 g3
    replace w3 : In a3 := In_wf w3
    exact ⟨a0, a1, a2, a3, (show ([c0, c1, c2, c3] : List Value) = (([c0] : List Value) ++ (([c1] : List Value) ++ (([c2] : List Value) ++ ([c3] : List Value)))) from rfl).trans (by rw [e0, e1, e2, e3]; rfl), w0, w1, w2, w3⟩
theorem ce_api_Stock : Try.prog.cellsOf 29 = 8 := by kernel_rfl
set_option maxRecDepth 100000 in
set_option maxHeartbeats 2000000 in
theorem at_api_Stock {c0 c1 c2 c3 c4 c5 c6 c7 : Value} {x : DataW X × List MemPlace} (h : DataW.trod enc Try.prog W base spare held m 29 [c0, c1, c2, c3, c4, c5, c6, c7] = some x) : ∃ (a0 : Int) (a1 : Int) (a2 : Int) (a3 : Int) (a4 : Int) (a5 : Int) (a6 : Bool) (a7 : Bool), [c0, c1, c2, c3, c4, c5, c6, c7] = [.int .i64 a0, .int .i64 a1, .int .i64 a2, .int .i64 a3, .int .i64 a4, .int .i64 a5, .bool a6, .bool a7] ∧ In a0 ∧ In a1 ∧ In a2 ∧ In a3 ∧ In a4 ∧ In a5 := by
  obtain ⟨xs, k, _, _, _, hxl, hel⟩ := DataW.trod_struct Try.underlying29 h
  match xs, hxl with
  | [y0, y1, y2, y3, y4], _ =>
    have g0 : DataW.trod enc Try.prog W base spare held k 27 ((([c0, c1, c2, c3, c4, c5, c6, c7] : List Value).drop 0).take (Try.prog.cellsOf 27)) = some y0 := hel 0 _ rfl
    rw [ce__4_int] at g0
    replace g0 : DataW.trod enc Try.prog W base spare held k 27 [c0, c1, c2, c3] = some y0 := g0
    obtain ⟨a0, a1, a2, a3, e0, w0, w1, w2, w3⟩ := at__4_int g0
    have g1 : DataW.trod enc Try.prog W base spare held k 3 ((([c0, c1, c2, c3, c4, c5, c6, c7] : List Value).drop 4).take (Try.prog.cellsOf 3)) = some y1 := hel 1 _ rfl
    rw [ce_int] at g1
    replace g1 : DataW.trod enc Try.prog W base spare held k 3 [c4] = some y1 := g1
    obtain ⟨a4, e1, _, w4⟩ := DataW.trod_int Try.underlying3 g1
    replace w4 : In a4 := In_wf w4
    have g2 : DataW.trod enc Try.prog W base spare held k 3 ((([c0, c1, c2, c3, c4, c5, c6, c7] : List Value).drop 5).take (Try.prog.cellsOf 3)) = some y2 := hel 2 _ rfl
    rw [ce_int] at g2
    replace g2 : DataW.trod enc Try.prog W base spare held k 3 [c5] = some y2 := g2
    obtain ⟨a5, e2, _, w5⟩ := DataW.trod_int Try.underlying3 g2
    replace w5 : In a5 := In_wf w5
    have g3 : DataW.trod enc Try.prog W base spare held k 4 ((([c0, c1, c2, c3, c4, c5, c6, c7] : List Value).drop 6).take (Try.prog.cellsOf 4)) = some y3 := hel 3 _ rfl
    rw [ce_bool] at g3
    replace g3 : DataW.trod enc Try.prog W base spare held k 4 [c6] = some y3 := g3
    obtain ⟨a6, e3, _⟩ := DataW.trod_bool Try.underlying4 g3
    have g4 : DataW.trod enc Try.prog W base spare held k 4 ((([c0, c1, c2, c3, c4, c5, c6, c7] : List Value).drop 7).take (Try.prog.cellsOf 4)) = some y4 := hel 4 _ rfl
    rw [ce_bool] at g4
    replace g4 : DataW.trod enc Try.prog W base spare held k 4 [c7] = some y4 := g4
    obtain ⟨a7, e4, _⟩ := DataW.trod_bool Try.underlying4 g4
    exact ⟨a0, a1, a2, a3, a4, a5, a6, a7, (show ([c0, c1, c2, c3, c4, c5, c6, c7] : List Value) = (([c0, c1, c2, c3] : List Value) ++ (([c4] : List Value) ++ (([c5] : List Value) ++ (([c6] : List Value) ++ ([c7] : List Value))))) from rfl).trans (by rw [e0, e1, e2, e3, e4]; rfl), w0, w1, w2, w3, w4, w5⟩
set_option maxRecDepth 100000 in
set_option maxHeartbeats 2000000 in
theorem open_hss {v : Value} {d : DataW X} {p : List MemPlace} (hv : Value.okWide Try.prog W r b0 25 v) (h : DataW.Trod enc Try.prog W base spare held 25 v d p) : ∃ H : Nat → Nat → Hl, v = .agg (h36 H) := by
  obtain ⟨cs, rfl, hsz⟩ := okWide_array Try.underlying25 hv
  rw [ce__4__3_api_Health] at hsz
  obtain ⟨l⟩ := cs
  replace hsz : l.length = 36 := hsz
  rcases l with _ | ⟨c0, l⟩
  · simp at hsz
  rcases l with _ | ⟨c1, l⟩
  · simp at hsz
  rcases l with _ | ⟨c2, l⟩
  · simp at hsz
  rcases l with _ | ⟨c3, l⟩
  · simp at hsz
  rcases l with _ | ⟨c4, l⟩
  · simp at hsz
  rcases l with _ | ⟨c5, l⟩
  · simp at hsz
  rcases l with _ | ⟨c6, l⟩
  · simp at hsz
  rcases l with _ | ⟨c7, l⟩
  · simp at hsz
  rcases l with _ | ⟨c8, l⟩
  · simp at hsz
  rcases l with _ | ⟨c9, l⟩
  · simp at hsz
  rcases l with _ | ⟨c10, l⟩
  · simp at hsz
  rcases l with _ | ⟨c11, l⟩
  · simp at hsz
  rcases l with _ | ⟨c12, l⟩
  · simp at hsz
  rcases l with _ | ⟨c13, l⟩
  · simp at hsz
  rcases l with _ | ⟨c14, l⟩
  · simp at hsz
  rcases l with _ | ⟨c15, l⟩
  · simp at hsz
  rcases l with _ | ⟨c16, l⟩
  · simp at hsz
  rcases l with _ | ⟨c17, l⟩
  · simp at hsz
  rcases l with _ | ⟨c18, l⟩
  · simp at hsz
  rcases l with _ | ⟨c19, l⟩
  · simp at hsz
  rcases l with _ | ⟨c20, l⟩
  · simp at hsz
  rcases l with _ | ⟨c21, l⟩
  · simp at hsz
  rcases l with _ | ⟨c22, l⟩
  · simp at hsz
  rcases l with _ | ⟨c23, l⟩
  · simp at hsz
  rcases l with _ | ⟨c24, l⟩
  · simp at hsz
  rcases l with _ | ⟨c25, l⟩
  · simp at hsz
  rcases l with _ | ⟨c26, l⟩
  · simp at hsz
  rcases l with _ | ⟨c27, l⟩
  · simp at hsz
  rcases l with _ | ⟨c28, l⟩
  · simp at hsz
  rcases l with _ | ⟨c29, l⟩
  · simp at hsz
  rcases l with _ | ⟨c30, l⟩
  · simp at hsz
  rcases l with _ | ⟨c31, l⟩
  · simp at hsz
  rcases l with _ | ⟨c32, l⟩
  · simp at hsz
  rcases l with _ | ⟨c33, l⟩
  · simp at hsz
  rcases l with _ | ⟨c34, l⟩
  · simp at hsz
  rcases l with _ | ⟨c35, l⟩
  · simp at hsz
  rcases l with _ | ⟨cx, l⟩
  · obtain ⟨fuel, hf⟩ := h
    obtain ⟨a0, a1, a2, a3, a4, a5, a6, a7, a8, a9, a10, a11, a12, a13, a14, a15, a16, a17, a18, a19, a20, a21, a22, a23, a24, a25, a26, a27, a28, a29, a30, a31, a32, a33, a34, a35, e, w0, w2, w3, w5, w6, w8, w9, w11, w12, w14, w15, w17, w18, w20, w21, w23, w24, w26, w27, w29, w30, w32, w33, w35⟩ := at__4__3_api_Health hf
    exact ⟨fun i j => match i with | 0 => (match j with | 0 => ⟨a0, a1, a2⟩ | 1 => ⟨a3, a4, a5⟩ | _ => ⟨a6, a7, a8⟩) | 1 => (match j with | 0 => ⟨a9, a10, a11⟩ | 1 => ⟨a12, a13, a14⟩ | _ => ⟨a15, a16, a17⟩) | 2 => (match j with | 0 => ⟨a18, a19, a20⟩ | 1 => ⟨a21, a22, a23⟩ | _ => ⟨a24, a25, a26⟩) | _ => (match j with | 0 => ⟨a27, a28, a29⟩ | 1 => ⟨a30, a31, a32⟩ | _ => ⟨a33, a34, a35⟩), congrArg (fun l => Value.agg ⟨l⟩) e⟩
  · simp at hsz
set_option maxRecDepth 100000 in
set_option maxHeartbeats 2000000 in
theorem open_b3 {v : Value} {d : DataW X} {p : List MemPlace} (hv : Value.okWide Try.prog W r b0 26 v) (h : DataW.Trod enc Try.prog W base spare held 26 v d p) : ∃ Y : Nat → Bool, v = .agg (b3A Y) := by
  obtain ⟨cs, rfl, hsz⟩ := okWide_array Try.underlying26 hv
  rw [ce__3_bool] at hsz
  obtain ⟨l⟩ := cs
  replace hsz : l.length = 3 := hsz
  rcases l with _ | ⟨c0, l⟩
  · simp at hsz
  rcases l with _ | ⟨c1, l⟩
  · simp at hsz
  rcases l with _ | ⟨c2, l⟩
  · simp at hsz
  rcases l with _ | ⟨cx, l⟩
  · obtain ⟨fuel, hf⟩ := h
    obtain ⟨a0, a1, a2, e⟩ := at__3_bool hf
    exact ⟨fun i => match i with | 0 => a0 | 1 => a1 | _ => a2, congrArg (fun l => Value.agg ⟨l⟩) e⟩
  · simp at hsz
set_option maxRecDepth 100000 in
set_option maxHeartbeats 2000000 in
theorem open_st {v : Value} {d : DataW X} {p : List MemPlace} (hv : Value.okWide Try.prog W r b0 29 v) (h : DataW.Trod enc Try.prog W base spare held 29 v d p) : ∃ S : St, v = .agg (stA S) ∧ Wf S := by
  obtain ⟨cs, rfl, hsz⟩ := okWide_struct Try.underlying29 hv
  rw [ce_api_Stock] at hsz
  obtain ⟨l⟩ := cs
  replace hsz : l.length = 8 := hsz
  rcases l with _ | ⟨c0, l⟩
  · simp at hsz
  rcases l with _ | ⟨c1, l⟩
  · simp at hsz
  rcases l with _ | ⟨c2, l⟩
  · simp at hsz
  rcases l with _ | ⟨c3, l⟩
  · simp at hsz
  rcases l with _ | ⟨c4, l⟩
  · simp at hsz
  rcases l with _ | ⟨c5, l⟩
  · simp at hsz
  rcases l with _ | ⟨c6, l⟩
  · simp at hsz
  rcases l with _ | ⟨c7, l⟩
  · simp at hsz
  rcases l with _ | ⟨cx, l⟩
  · obtain ⟨fuel, hf⟩ := h
    obtain ⟨a0, a1, a2, a3, a4, a5, a6, a7, e, w0, w1, w2, w3, w4, w5⟩ := at_api_Stock hf
    exact ⟨⟨fun i => match i with | 0 => a0 | 1 => a1 | 2 => a2 | _ => a3, a4, a5, a6, a7⟩, congrArg (fun l => Value.agg ⟨l⟩) e, ⟨fun i => match i with | 0 => w0 | 1 => w1 | 2 => w2 | _ + 3 => w3, w4, w5⟩⟩
  · simp at hsz

end

end Go.Proofs.Ytijjanoagimmhaa.Equip
