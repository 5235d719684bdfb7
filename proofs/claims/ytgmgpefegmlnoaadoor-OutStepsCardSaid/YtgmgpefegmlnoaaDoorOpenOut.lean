/- Arguments: four signals, a command, their values written out; the table of bounds: what its reading says of memory. -/
import Derived.Test.YtgmgpefegmlnoaaDoorOutGd
import Derived.Test.YtgmgpefegmlnoaaDoorOutLives
import Derived.LaidMore
import Derived.ChangeArms
import Derived.FnData
import Derived.OpenShut
import Derived.Lib.SmallJoins
import Derived.Deep.Strs
import Derived.Laws.IdiomArrays
namespace Go.Proofs.YtgmgpefegmlnoaaDoor.Out
open Go.ChangeShapes Go.WideShapes Go.ChangeAt Go.RowKit Num Mem Band

theorem okWide_array {P : Program} {W : World} {r : Reach} {b0 n : Nat} {t e : TypeId} {v : Value} (ht : P.underlying t = some (.array n e)) (h : Value.okWide P W r b0 t v) : ∃ cs, v = .agg cs ∧ cs.size = P.cellsOf t := by
  simp only [Value.okWide, ht] at h
  obtain ⟨cs, h1, h2, _⟩ := h
  exact ⟨cs, h1, h2⟩

section
variable {X : Type} {enc : TypeId × Value → X} {W : World} {base b0 : Nat} {spare : Nat → Bool} {held : Bool} {r : Reach} {m : Nat}

theorem ce_bool : Tryd.prog.cellsOf 4 = 1 := by kernel_rfl

theorem ce_int64 : Tryd.prog.cellsOf 2 = 1 := by kernel_rfl

theorem ce_int : Tryd.prog.cellsOf 3 = 1 := by kernel_rfl

theorem ce_api_Voted : Tryd.prog.cellsOf 23 = 3 := by kernel_rfl
set_option maxRecDepth 100000 in
set_option maxHeartbeats 2000000 in
theorem at_api_Voted {c0 c1 c2 : Value} {x : DataW X × List MemPlace} (h : DataW.trod enc Tryd.prog W base spare held m 23 [c0, c1, c2] = some x) : ∃ (a0 : Bool) (a1 : Int) (a2 : Int), [c0, c1, c2] = [.bool a0, .int .i64 a1, .int .i64 a2] ∧ In a1 ∧ In a2 := by
  obtain ⟨xs, k, _, _, _, hxl, hel⟩ := DataW.trod_struct Tryd.underlying23 h
  match xs, hxl with
  | [y0, y1, y2], _ =>
    have g0 : DataW.trod enc Tryd.prog W base spare held k 4 ((([c0, c1, c2] : List Value).drop 0).take (Tryd.prog.cellsOf 4)) = some y0 := hel 0 _ rfl
    rw [ce_bool] at g0
    replace g0 : DataW.trod enc Tryd.prog W base spare held k 4 [c0] = some y0 := g0
    obtain ⟨a0, e0, _⟩ := DataW.trod_bool Tryd.underlying4 g0
    have g1 : DataW.trod enc Tryd.prog W base spare held k 2 ((([c0, c1, c2] : List Value).drop 1).take (Tryd.prog.cellsOf 2)) = some y1 := hel 1 _ rfl
    rw [ce_int64] at g1
    replace g1 : DataW.trod enc Tryd.prog W base spare held k 2 [c1] = some y1 := g1
    obtain ⟨a1, e1, _, w1⟩ := DataW.trod_int Tryd.underlying2 g1
    replace w1 : In a1 := In_wf w1
    have g2 : DataW.trod enc Tryd.prog W base spare held k 3 ((([c0, c1, c2] : List Value).drop 2).take (Tryd.prog.cellsOf 3)) = some y2 := hel 2 _ rfl
    rw [ce_int] at g2
    replace g2 : DataW.trod enc Tryd.prog W base spare held k 3 [c2] = some y2 := g2
    obtain ⟨a2, e2, _, w2⟩ := DataW.trod_int Tryd.underlying3 g2
    replace w2 : In a2 := In_wf w2
    exact ⟨a0, a1, a2, (show ([c0, c1, c2] : List Value) = (([c0] : List Value) ++ (([c1] : List Value) ++ ([c2] : List Value))) from rfl).trans (by rw [e0, e1, e2]; rfl), w1, w2⟩

theorem ce__4_api_Voted : Tryd.prog.cellsOf 24 = 12 := by kernel_rfl
set_option maxRecDepth 100000 in
set_option maxHeartbeats 2000000 in
theorem at__4_api_Voted {c0 c1 c2 c3 c4 c5 c6 c7 c8 c9 c10 c11 : Value} {x : DataW X × List MemPlace} (h : DataW.trod enc Tryd.prog W base spare held m 24 [c0, c1, c2, c3, c4, c5, c6, c7, c8, c9, c10, c11] = some x) : ∃ (a0 : Bool) (a1 : Int) (a2 : Int) (a3 : Bool) (a4 : Int) (a5 : Int) (a6 : Bool) (a7 : Int) (a8 : Int) (a9 : Bool) (a10 : Int) (a11 : Int), [c0, c1, c2, c3, c4, c5, c6, c7, c8, c9, c10, c11] = [.bool a0, .int .i64 a1, .int .i64 a2, .bool a3, .int .i64 a4, .int .i64 a5, .bool a6, .int .i64 a7, .int .i64 a8, .bool a9, .int .i64 a10, .int .i64 a11] ∧ In a1 ∧ In a2 ∧ In a4 ∧ In a5 ∧ In a7 ∧ In a8 ∧ In a10 ∧ In a11 := by
  obtain ⟨xs, k, _, _, _, hxl, hel⟩ := DataW.trod_array Tryd.underlying24 h
  match xs, hxl with
  | [y0, y1, y2, y3], _ =>
    have g0 := hel 0 (by omega)
    simp only [ce_api_Voted] at g0
    replace g0 : DataW.trod enc Tryd.prog W base spare held k 23 [c0, c1, c2] = some y0 := g0
    obtain ⟨a0, a1, a2, e0, w1, w2⟩ := at_api_Voted g0
    have g1 := hel 1 (by omega)
    simp only [ce_api_Voted] at g1
    replace g1 : DataW.trod enc Tryd.prog W base spare held k 23 [c3, c4, c5] = some y1 := g1
    obtain ⟨a3, a4, a5, e1, w4, w5⟩ := at_api_Voted g1
    have g2 := hel 2 (by omega)
    simp only [ce_api_Voted] at g2
    replace g2 : DataW.trod enc Tryd.prog W base spare held k 23 [c6, c7, c8] = some y2 := g2
    obtain ⟨a6, a7, a8, e2, w7, w8⟩ := at_api_Voted g2
    have g3 := hel 3 (by omega)
    simp only [ce_api_Voted] at g3
    replace g3 : DataW.trod enc Tryd.prog W base spare held k 23 [c9, c10, c11] = some y3 := g3
    obtain ⟨a9, a10, a11, e3, w10, w11⟩ := at_api_Voted g3
    exact ⟨a0, a1, a2, a3, a4, a5, a6, a7, a8, a9, a10, a11, (show ([c0, c1, c2, c3, c4, c5, c6, c7, c8, c9, c10, c11] : List Value) = (([c0, c1, c2] : List Value) ++ (([c3, c4, c5] : List Value) ++ (([c6, c7, c8] : List Value) ++ ([c9, c10, c11] : List Value)))) from rfl).trans (by rw [e0, e1, e2, e3]; rfl), w1, w2, w4, w5, w7, w8, w10, w11⟩

set_option maxRecDepth 100000 in
set_option maxHeartbeats 2000000 in
theorem open_x4 {v : Value} {d : DataW X} {p : List MemPlace} (hv : Value.okWide Tryd.prog W r b0 24 v) (h : DataW.Trod enc Tryd.prog W base spare held 24 v d p) : ∃ Y : Nat → Vt, v = .agg (v12 Y) ∧ InX Y := by
  obtain ⟨cs, rfl, hsz⟩ := okWide_array Tryd.underlying24 hv
  rw [ce__4_api_Voted] at hsz
  obtain ⟨l⟩ := cs
  replace hsz : l.length = 12 := hsz
  rcases l with _ | ⟨c0, l⟩
  · simp at hsz
  rcases l with _ | ⟨c1, l⟩
  · simp at hsz
  rcases l with _ | ⟨c2, l⟩
  · simp at hsz
  rcases l with _ | ⟨c3, l⟩
  · simp at hsz
  rcases l with _ | ⟨c4, l⟩
  · simp at hsz
  rcases l with _ | ⟨c5, l⟩
  · simp at hsz
  rcases l with _ | ⟨c6, l⟩
  · simp at hsz
  rcases l with _ | ⟨c7, l⟩
  · simp at hsz
  rcases l with _ | ⟨c8, l⟩
  · simp at hsz
  rcases l with _ | ⟨c9, l⟩
  · simp at hsz
  rcases l with _ | ⟨c10, l⟩
  · simp at hsz
  rcases l with _ | ⟨c11, l⟩
  · simp at hsz
  rcases l with _ | ⟨cx, l⟩
  · obtain ⟨fuel, hf⟩ := h
    obtain ⟨a0, a1, a2, a3, a4, a5, a6, a7, a8, a9, a10, a11, e, w1, w2, w4, w5, w7, w8, w10, w11⟩ := at__4_api_Voted hf
    exact ⟨of4 ⟨a0, a1, a2⟩ ⟨a3, a4, a5⟩ ⟨a6, a7, a8⟩ ⟨a9, a10, a11⟩, congrArg (fun l => Value.agg ⟨l⟩) e, lt4 w1 w4 w7 w10⟩
  · simp at hsz

theorem ce_api_Command : Tryd.prog.cellsOf 26 = 3 := by kernel_rfl
set_option maxRecDepth 100000 in
set_option maxHeartbeats 2000000 in
theorem at_api_Command {c0 c1 c2 : Value} {x : DataW X × List MemPlace} (h : DataW.trod enc Tryd.prog W base spare held m 26 [c0, c1, c2] = some x) : ∃ (a0 : Int) (a1 : Int) (a2 : Int), [c0, c1, c2] = [.int .i64 a0, .int .i64 a1, .int .i64 a2] ∧ In a0 ∧ In a1 ∧ In a2 := by
  obtain ⟨xs, k, _, _, _, hxl, hel⟩ := DataW.trod_struct Tryd.underlying26 h
  match xs, hxl with
  | [y0, y1, y2], _ =>
    have g0 : DataW.trod enc Tryd.prog W base spare held k 2 ((([c0, c1, c2] : List Value).drop 0).take (Tryd.prog.cellsOf 2)) = some y0 := hel 0 _ rfl
    rw [ce_int64] at g0
    replace g0 : DataW.trod enc Tryd.prog W base spare held k 2 [c0] = some y0 := g0
    obtain ⟨a0, e0, _, w0⟩ := DataW.trod_int Tryd.underlying2 g0
    replace w0 : In a0 := In_wf w0
    have g1 : DataW.trod enc Tryd.prog W base spare held k 2 ((([c0, c1, c2] : List Value).drop 1).take (Tryd.prog.cellsOf 2)) = some y1 := hel 1 _ rfl
    rw [ce_int64] at g1
    replace g1 : DataW.trod enc Tryd.prog W base spare held k 2 [c1] = some y1 := g1
    obtain ⟨a1, e1, _, w1⟩ := DataW.trod_int Tryd.underlying2 g1
    replace w1 : In a1 := In_wf w1
    have g2 : DataW.trod enc Tryd.prog W base spare held k 2 ((([c0, c1, c2] : List Value).drop 2).take (Tryd.prog.cellsOf 2)) = some y2 := hel 2 _ rfl
    rw [ce_int64] at g2
    replace g2 : DataW.trod enc Tryd.prog W base spare held k 2 [c2] = some y2 := g2
    obtain ⟨a2, e2, _, w2⟩ := DataW.trod_int Tryd.underlying2 g2
    replace w2 : In a2 := In_wf w2
    exact ⟨a0, a1, a2, (show ([c0, c1, c2] : List Value) = (([c0] : List Value) ++ (([c1] : List Value) ++ ([c2] : List Value))) from rfl).trans (by rw [e0, e1, e2]; rfl), w0, w1, w2⟩

set_option maxRecDepth 100000 in
set_option maxHeartbeats 2000000 in
theorem open_c {v : Value} {d : DataW X} {p : List MemPlace} (hv : Value.okWide Tryd.prog W r b0 26 v) (h : DataW.Trod enc Tryd.prog W base spare held 26 v d p) : ∃ Y : Nat → Int, v = .agg (cA Y) ∧ InC Y := by
  obtain ⟨cs, rfl, hsz⟩ := okWide_struct Tryd.underlying26 hv
  rw [ce_api_Command] at hsz
  obtain ⟨l⟩ := cs
  replace hsz : l.length = 3 := hsz
  rcases l with _ | ⟨c0, l⟩
  · simp at hsz
  rcases l with _ | ⟨c1, l⟩
  · simp at hsz
  rcases l with _ | ⟨c2, l⟩
  · simp at hsz
  rcases l with _ | ⟨cx, l⟩
  · obtain ⟨fuel, hf⟩ := h
    obtain ⟨a0, a1, a2, e, w0, w1, w2⟩ := at_api_Command hf
    exact ⟨of3 a0 a1 a2, congrArg (fun l => Value.agg ⟨l⟩) e, in3 ⟨w0, w1, w2⟩⟩
  · simp at hsz

theorem ce_out_bound : Tryd.prog.cellsOf 38 = 3 := by kernel_rfl

set_option maxRecDepth 100000 in
set_option maxHeartbeats 2000000 in
theorem is_out_bound {c0 c1 c2 : Value} {n0 : Int} {n1 : Int} {n2 : Int} {q : List MemPlace} (h : DataW.trod enc Tryd.prog W base spare held m 38 [c0, c1, c2] = some (.agg [.lit (.int .i64 n0), .lit (.int .i64 n1), .lit (.int .i64 n2)], q)) : [c0, c1, c2] = [.int .i64 n0, .int .i64 n1, .int .i64 n2] := by
  obtain ⟨xs, k, _, hx, _, hxl, hel⟩ := DataW.trod_struct Tryd.underlying38 h
  match xs, hxl, hx with
  | [y0, y1, y2], _, hx =>
    simp only [Prod.mk.injEq, DataW.agg.injEq, List.map_cons, List.map_nil, List.cons.injEq, and_true] at hx
    obtain ⟨⟨d0, d1, d2⟩, _⟩ := hx
    have g0 : DataW.trod enc Tryd.prog W base spare held k 2 ((([c0, c1, c2] : List Value).drop 0).take (Tryd.prog.cellsOf 2)) = some y0 := hel 0 _ rfl
    rw [ce_int64] at g0
    replace g0 : DataW.trod enc Tryd.prog W base spare held k 2 [c0] = some (y0.1, y0.2) := g0
    rw [← d0] at g0
    obtain ⟨z0, e0, f0, _⟩ := DataW.trod_int Tryd.underlying2 g0
    simp only [Prod.mk.injEq, DataW.lit.injEq, Lit.int.injEq, true_and] at f0
    rw [← f0.1] at e0
    have g1 : DataW.trod enc Tryd.prog W base spare held k 2 ((([c0, c1, c2] : List Value).drop 1).take (Tryd.prog.cellsOf 2)) = some y1 := hel 1 _ rfl
    rw [ce_int64] at g1
    replace g1 : DataW.trod enc Tryd.prog W base spare held k 2 [c1] = some (y1.1, y1.2) := g1
    rw [← d1] at g1
    obtain ⟨z1, e1, f1, _⟩ := DataW.trod_int Tryd.underlying2 g1
    simp only [Prod.mk.injEq, DataW.lit.injEq, Lit.int.injEq, true_and] at f1
    rw [← f1.1] at e1
    have g2 : DataW.trod enc Tryd.prog W base spare held k 2 ((([c0, c1, c2] : List Value).drop 2).take (Tryd.prog.cellsOf 2)) = some y2 := hel 2 _ rfl
    rw [ce_int64] at g2
    replace g2 : DataW.trod enc Tryd.prog W base spare held k 2 [c2] = some (y2.1, y2.2) := g2
    rw [← d2] at g2
    obtain ⟨z2, e2, f2, _⟩ := DataW.trod_int Tryd.underlying2 g2
    simp only [Prod.mk.injEq, DataW.lit.injEq, Lit.int.injEq, true_and] at f2
    rw [← f2.1] at e2
    exact (show ([c0, c1, c2] : List Value) = (([c0] : List Value) ++ (([c1] : List Value) ++ ([c2] : List Value))) from rfl).trans (by rw [e0, e1, e2]; rfl)

theorem ce__3_out_bound : Tryd.prog.cellsOf 39 = 9 := by kernel_rfl

set_option maxRecDepth 100000 in
set_option maxHeartbeats 2000000 in
theorem is__3_out_bound {c0 c1 c2 c3 c4 c5 c6 c7 c8 : Value} {n0 : Int} {n1 : Int} {n2 : Int} {n3 : Int} {n4 : Int} {n5 : Int} {n6 : Int} {n7 : Int} {n8 : Int} {q : List MemPlace} (h : DataW.trod enc Tryd.prog W base spare held m 39 [c0, c1, c2, c3, c4, c5, c6, c7, c8] = some (.agg [.agg [.lit (.int .i64 n0), .lit (.int .i64 n1), .lit (.int .i64 n2)], .agg [.lit (.int .i64 n3), .lit (.int .i64 n4), .lit (.int .i64 n5)], .agg [.lit (.int .i64 n6), .lit (.int .i64 n7), .lit (.int .i64 n8)]], q)) : [c0, c1, c2, c3, c4, c5, c6, c7, c8] = [.int .i64 n0, .int .i64 n1, .int .i64 n2, .int .i64 n3, .int .i64 n4, .int .i64 n5, .int .i64 n6, .int .i64 n7, .int .i64 n8] := by
  obtain ⟨xs, k, _, hx, _, hxl, hel⟩ := DataW.trod_array Tryd.underlying39 h
  match xs, hxl, hx with
  | [y0, y1, y2], _, hx =>
    simp only [Prod.mk.injEq, DataW.agg.injEq, List.map_cons, List.map_nil, List.cons.injEq, and_true] at hx
    obtain ⟨⟨d0, d1, d2⟩, _⟩ := hx
    have g0 := hel 0 (by omega)
    simp only [ce_out_bound] at g0
    replace g0 : DataW.trod enc Tryd.prog W base spare held k 38 [c0, c1, c2] = some (y0.1, y0.2) := g0
    rw [← d0] at g0
    have e0 := is_out_bound g0
    have g1 := hel 1 (by omega)
    simp only [ce_out_bound] at g1
    replace g1 : DataW.trod enc Tryd.prog W base spare held k 38 [c3, c4, c5] = some (y1.1, y1.2) := g1
    rw [← d1] at g1
    have e1 := is_out_bound g1
    have g2 := hel 2 (by omega)
    simp only [ce_out_bound] at g2
    replace g2 : DataW.trod enc Tryd.prog W base spare held k 38 [c6, c7, c8] = some (y2.1, y2.2) := g2
    rw [← d2] at g2
    have e2 := is_out_bound g2
    exact (show ([c0, c1, c2, c3, c4, c5, c6, c7, c8] : List Value) = (([c0, c1, c2] : List Value) ++ (([c3, c4, c5] : List Value) ++ ([c6, c7, c8] : List Value))) from rfl).trans (by rw [e0, e1, e2]; rfl)

set_option maxRecDepth 100000 in
theorem is_bounds {cs : List Value} {q : List MemPlace} (h : DataW.trod enc Tryd.prog W base spare held m 39 cs = some (.agg [.agg [.lit (.int .i64 (-20)), .lit (.int .i64 20), .lit (.int .i64 40)], .agg [.lit (.int .i64 (-20)), .lit (.int .i64 24), .lit (.int .i64 14)], .agg [.lit (.int .i64 (-500)), .lit (.int .i64 500), .lit (.int .i64 1000)]], q)) : cs = [.int .i64 (-20), .int .i64 20, .int .i64 40, .int .i64 (-20), .int .i64 24, .int .i64 14, .int .i64 (-500), .int .i64 500, .int .i64 1000] := by
  obtain ⟨_, _, _, _, hl, _, _⟩ := DataW.trod_array Tryd.underlying39 h
  rw [ce__3_out_bound] at hl
  rcases cs with _ | ⟨c0, cs⟩
  · simp at hl
  rcases cs with _ | ⟨c1, cs⟩
  · simp at hl
  rcases cs with _ | ⟨c2, cs⟩
  · simp at hl
  rcases cs with _ | ⟨c3, cs⟩
  · simp at hl
  rcases cs with _ | ⟨c4, cs⟩
  · simp at hl
  rcases cs with _ | ⟨c5, cs⟩
  · simp at hl
  rcases cs with _ | ⟨c6, cs⟩
  · simp at hl
  rcases cs with _ | ⟨c7, cs⟩
  · simp at hl
  rcases cs with _ | ⟨c8, cs⟩
  · simp at hl
  rcases cs with _ | ⟨cx, cs⟩
  · exact is__3_out_bound h
  · simp at hl

end

end Go.Proofs.YtgmgpefegmlnoaaDoor.Out
