/- Arguments: an aeroplane, a command, what the air does, their values written out; slices of them; the tables of bounds: what their readings say of memory. -/
import Derived.Test.YtaicijhkchfcfaaDoorPlLives
import Derived.Test.YtaicijhkchfcfaaDoorPlSl
import Derived.LaidMore
import Derived.ChangeArms
import Derived.FnData
import Derived.Deep.Slices
import Derived.OpenShut
import Derived.Lib.SmallJoins
import Derived.Deep.Strs
import Derived.Laws.IdiomArrays
namespace Go.Proofs.YtaicijhkchfcfaaDoor.Pl
open Go.ChangeShapes Go.WideShapes Go.ChangeAt Go.RowKit Num Mem

theorem okWide_array {P : Program} {W : World} {r : Reach} {b0 n : Nat} {t e : TypeId} {v : Value} (ht : P.underlying t = some (.array n e)) (h : Value.okWide P W r b0 t v) : ∃ cs, v = .agg cs ∧ cs.size = P.cellsOf t := by
  simp only [Value.okWide, ht] at h
  obtain ⟨cs, h1, h2, _⟩ := h
  exact ⟨cs, h1, h2⟩

/-- Sixteen numbers, by place. -/
abbrev of16 (a0 a1 a2 a3 a4 a5 a6 a7 a8 a9 a10 a11 a12 a13 a14 a15 : Int) : Nat → Int
  | 0 => a0
  | 1 => a1
  | 2 => a2
  | 3 => a3
  | 4 => a4
  | 5 => a5
  | 6 => a6
  | 7 => a7
  | 8 => a8
  | 9 => a9
  | 10 => a10
  | 11 => a11
  | 12 => a12
  | 13 => a13
  | 14 => a14
  | _ => a15
theorem in16 {a0 a1 a2 a3 a4 a5 a6 a7 a8 a9 a10 a11 a12 a13 a14 a15 : Int} (w0 : In a0) (w1 : In a1) (w2 : In a2) (w3 : In a3) (w4 : In a4) (w5 : In a5) (w6 : In a6) (w7 : In a7) (w8 : In a8) (w9 : In a9) (w10 : In a10) (w11 : In a11) (w12 : In a12) (w13 : In a13) (w14 : In a14) (w15 : In a15) : ∀ j, j < 16 → In (of16 a0 a1 a2 a3 a4 a5 a6 a7 a8 a9 a10 a11 a12 a13 a14 a15 j) := fun j hj => match j, hj with
  | 0, _ => w0
  | 1, _ => w1
  | 2, _ => w2
  | 3, _ => w3
  | 4, _ => w4
  | 5, _ => w5
  | 6, _ => w6
  | 7, _ => w7
  | 8, _ => w8
  | 9, _ => w9
  | 10, _ => w10
  | 11, _ => w11
  | 12, _ => w12
  | 13, _ => w13
  | 14, _ => w14
  | 15, _ => w15
  | n + 16, h => absurd h (by omega)

section
variable {X : Type} {enc : TypeId × Value → X} {W : World} {base b0 : Nat} {spare : Nat → Bool} {held : Bool} {r : Reach} {m : Nat}

theorem ce_int64 : Tryd.prog.cellsOf 2 = 1 := by kernel_rfl

theorem ce_bool : Tryd.prog.cellsOf 4 = 1 := by kernel_rfl

theorem ce_api_Plane : Tryd.prog.cellsOf 23 = 6 := by kernel_rfl
set_option maxRecDepth 100000 in
set_option maxHeartbeats 2000000 in
theorem at_api_Plane {c0 c1 c2 c3 c4 c5 : Value} {x : DataW X × List MemPlace} (h : DataW.trod enc Tryd.prog W base spare held m 23 [c0, c1, c2, c3, c4, c5] = some x) : ∃ (a0 : Int) (a1 : Int) (a2 : Int) (a3 : Int) (a4 : Bool) (a5 : Int), [c0, c1, c2, c3, c4, c5] = [.int .i64 a0, .int .i64 a1, .int .i64 a2, .int .i64 a3, .bool a4, .int .i64 a5] ∧ In a0 ∧ In a1 ∧ In a2 ∧ In a3 ∧ In a5 := by
  obtain ⟨xs, k, _, _, _, hxl, hel⟩ := DataW.trod_struct Tryd.underlying23 h
  match xs, hxl with
  | [y0, y1, y2, y3, y4, y5], _ =>
    have g0 : DataW.trod enc Tryd.prog W base spare held k 2 ((([c0, c1, c2, c3, c4, c5] : List Value).drop 0).take (Tryd.prog.cellsOf 2)) = some y0 := hel 0 _ rfl
    rw [ce_int64] at g0
    replace g0 : DataW.trod enc Tryd.prog W base spare held k 2 [c0] = some y0 := g0
    obtain ⟨a0, e0, _, w0⟩ := DataW.trod_int Tryd.underlying2 g0
    replace w0 : In a0 := In_wf w0
    have g1 : DataW.trod enc Tryd.prog W base spare held k 2 ((([c0, c1, c2, c3, c4, c5] : List Value).drop 1).take (Tryd.prog.cellsOf 2)) = some y1 := hel 1 _ rfl
    rw [ce_int64] at g1
    replace g1 : DataW.trod enc Tryd.prog W base spare held k 2 [c1] = some y1 := g1
    obtain ⟨a1, e1, _, w1⟩ := DataW.trod_int Tryd.underlying2 g1
    replace w1 : In a1 := In_wf w1
    have g2 : DataW.trod enc Tryd.prog W base spare held k 2 ((([c0, c1, c2, c3, c4, c5] : List Value).drop 2).take (Tryd.prog.cellsOf 2)) = some y2 := hel 2 _ rfl
    rw [ce_int64] at g2
    replace g2 : DataW.trod enc Tryd.prog W base spare held k 2 [c2] = some y2 := g2
    obtain ⟨a2, e2, _, w2⟩ := DataW.trod_int Tryd.underlying2 g2
    replace w2 : In a2 := In_wf w2
    have g3 : DataW.trod enc Tryd.prog W base spare held k 2 ((([c0, c1, c2, c3, c4, c5] : List Value).drop 3).take (Tryd.prog.cellsOf 2)) = some y3 := hel 3 _ rfl
    rw [ce_int64] at g3
    replace g3 : DataW.trod enc Tryd.prog W base spare held k 2 [c3] = some y3 := g3
    obtain ⟨a3, e3, _, w3⟩ := DataW.trod_int Tryd.underlying2 g3
    replace w3 : In a3 := In_wf w3
    have g4 : DataW.trod enc Tryd.prog W base spare held k 4 ((([c0, c1, c2, c3, c4, c5] : List Value).drop 4).take (Tryd.prog.cellsOf 4)) = some y4 := hel 4 _ rfl
    rw [ce_bool] at g4
    replace g4 : DataW.trod enc Tryd.prog W base spare held k 4 [c4] = some y4 := g4
    obtain ⟨a4, e4, _⟩ := DataW.trod_bool Tryd.underlying4 g4
    have g5 : DataW.trod enc Tryd.prog W base spare held k 2 ((([c0, c1, c2, c3, c4, c5] : List Value).drop 5).take (Tryd.prog.cellsOf 2)) = some y5 := hel 5 _ rfl
    rw [ce_int64] at g5
    replace g5 : DataW.trod enc Tryd.prog W base spare held k 2 [c5] = some y5 := g5
    obtain ⟨a5, e5, _, w5⟩ := DataW.trod_int Tryd.underlying2 g5
    replace w5 : In a5 := In_wf w5
    exact ⟨a0, a1, a2, a3, a4, a5, (show ([c0, c1, c2, c3, c4, c5] : List Value) = (([c0] : List Value) ++ (([c1] : List Value) ++ (([c2] : List Value) ++ (([c3] : List Value) ++ (([c4] : List Value) ++ ([c5] : List Value)))))) from rfl).trans (by rw [e0, e1, e2, e3, e4, e5]; rfl), w0, w1, w2, w3, w5⟩

set_option maxRecDepth 100000 in
set_option maxHeartbeats 2000000 in
theorem open_p {v : Value} {d : DataW X} {p : List MemPlace} (hv : Value.okWide Tryd.prog W r b0 23 v) (h : DataW.Trod enc Tryd.prog W base spare held 23 v d p) : ∃ Y : Pt, v = .agg (ptA Y) ∧ Pin Y := by
  obtain ⟨cs, rfl, hsz⟩ := okWide_struct Tryd.underlying23 hv
  rw [ce_api_Plane] at hsz
  obtain ⟨l⟩ := cs
  replace hsz : l.length = 6 := hsz
  rcases l with _ | ⟨c0, l⟩
  · simp at hsz
  rcases l with _ | ⟨c1, l⟩
  · simp at hsz
  rcases l with _ | ⟨c2, l⟩
  · simp at hsz
  rcases l with _ | ⟨c3, l⟩
  · simp at hsz
  rcases l with _ | ⟨c4, l⟩
  · simp at hsz
  rcases l with _ | ⟨c5, l⟩
  · simp at hsz
  rcases l with _ | ⟨cx, l⟩
  · obtain ⟨fuel, hf⟩ := h
    obtain ⟨a0, a1, a2, a3, a4, a5, e, w0, w1, w2, w3, w5⟩ := at_api_Plane hf
    exact ⟨⟨a0, a1, a2, a3, a4, a5⟩, congrArg (fun l => Value.agg ⟨l⟩) e, ⟨w0, w1, w2, w3, w5⟩⟩
  · simp at hsz

theorem ce_api_Command : Tryd.prog.cellsOf 25 = 3 := by kernel_rfl
set_option maxRecDepth 100000 in
set_option maxHeartbeats 2000000 in
theorem at_api_Command {c0 c1 c2 : Value} {x : DataW X × List MemPlace} (h : DataW.trod enc Tryd.prog W base spare held m 25 [c0, c1, c2] = some x) : ∃ (a0 : Int) (a1 : Int) (a2 : Int), [c0, c1, c2] = [.int .i64 a0, .int .i64 a1, .int .i64 a2] ∧ In a0 ∧ In a1 ∧ In a2 := by
  obtain ⟨xs, k, _, _, _, hxl, hel⟩ := DataW.trod_struct Tryd.underlying25 h
  match xs, hxl with
  | [y0, y1, y2], _ =>
    have g0 : DataW.trod enc Tryd.prog W base spare held k 2 ((([c0, c1, c2] : List Value).drop 0).take (Tryd.prog.cellsOf 2)) = some y0 := hel 0 _ rfl
    rw [ce_int64] at g0
    replace g0 : DataW.trod enc Tryd.prog W base spare held k 2 [c0] = some y0 := g0
    obtain ⟨a0, e0, _, w0⟩ := DataW.trod_int Tryd.underlying2 g0
    replace w0 : In a0 := In_wf w0
    have g1 : DataW.trod enc Tryd.prog W base spare held k 2 ((([c0, c1, c2] : List Value).drop 1).take (Tryd.prog.cellsOf 2)) = some y1 := hel 1 _ rfl
    rw [ce_int64] at g1
    replace g1 : DataW.trod enc Tryd.prog W base spare held k 2 [c1] = some y1 := g1
    obtain ⟨a1, e1, _, w1⟩ := DataW.trod_int Tryd.underlying2 g1
    replace w1 : In a1 := In_wf w1
    have g2 : DataW.trod enc Tryd.prog W base spare held k 2 ((([c0, c1, c2] : List Value).drop 2).take (Tryd.prog.cellsOf 2)) = some y2 := hel 2 _ rfl
    rw [ce_int64] at g2
    replace g2 : DataW.trod enc Tryd.prog W base spare held k 2 [c2] = some y2 := g2
    obtain ⟨a2, e2, _, w2⟩ := DataW.trod_int Tryd.underlying2 g2
    replace w2 : In a2 := In_wf w2
    exact ⟨a0, a1, a2, (show ([c0, c1, c2] : List Value) = (([c0] : List Value) ++ (([c1] : List Value) ++ ([c2] : List Value))) from rfl).trans (by rw [e0, e1, e2]; rfl), w0, w1, w2⟩

set_option maxRecDepth 100000 in
set_option maxHeartbeats 2000000 in
theorem open_c {v : Value} {d : DataW X} {p : List MemPlace} (hv : Value.okWide Tryd.prog W r b0 25 v) (h : DataW.Trod enc Tryd.prog W base spare held 25 v d p) : ∃ Y : Nat → Int, v = .agg (cA Y) ∧ InC Y := by
  obtain ⟨cs, rfl, hsz⟩ := okWide_struct Tryd.underlying25 hv
  rw [ce_api_Command] at hsz
  obtain ⟨l⟩ := cs
  replace hsz : l.length = 3 := hsz
  rcases l with _ | ⟨c0, l⟩
  · simp at hsz
  rcases l with _ | ⟨c1, l⟩
  · simp at hsz
  rcases l with _ | ⟨c2, l⟩
  · simp at hsz
  rcases l with _ | ⟨cx, l⟩
  · obtain ⟨fuel, hf⟩ := h
    obtain ⟨a0, a1, a2, e, w0, w1, w2⟩ := at_api_Command hf
    exact ⟨of3 a0 a1 a2, congrArg (fun l => Value.agg ⟨l⟩) e, in3 ⟨w0, w1, w2⟩⟩
  · simp at hsz

theorem ce__3_int64 : Tryd.prog.cellsOf 26 = 3 := by kernel_rfl
set_option maxRecDepth 100000 in
set_option maxHeartbeats 2000000 in
theorem at__3_int64 {c0 c1 c2 : Value} {x : DataW X × List MemPlace} (h : DataW.trod enc Tryd.prog W base spare held m 26 [c0, c1, c2] = some x) : ∃ (a0 : Int) (a1 : Int) (a2 : Int), [c0, c1, c2] = [.int .i64 a0, .int .i64 a1, .int .i64 a2] ∧ In a0 ∧ In a1 ∧ In a2 := by
  obtain ⟨xs, k, _, _, _, hxl, hel⟩ := DataW.trod_array Tryd.underlying26 h
  match xs, hxl with
  | [y0, y1, y2], _ =>
    have g0 := hel 0 (by omega)
    simp only [ce_int64] at g0
    replace g0 : DataW.trod enc Tryd.prog W base spare held k 2 [c0] = some y0 := g0
    obtain ⟨a0, e0, _, w0⟩ := DataW.trod_int Tryd.underlying2 g0
    replace w0 : In a0 := In_wf w0
    have g1 := hel 1 (by omega)
    simp only [ce_int64] at g1
    replace g1 : DataW.trod enc Tryd.prog W base spare held k 2 [c1] = some y1 := g1
    obtain ⟨a1, e1, _, w1⟩ := DataW.trod_int Tryd.underlying2 g1
    replace w1 : In a1 := In_wf w1
    have g2 := hel 2 (by omega)
    simp only [ce_int64] at g2
    replace g2 : DataW.trod enc Tryd.prog W base spare held k 2 [c2] = some y2 := g2
    obtain ⟨a2, e2, _, w2⟩ := DataW.trod_int Tryd.underlying2 g2
    replace w2 : In a2 := In_wf w2
    exact ⟨a0, a1, a2, (show ([c0, c1, c2] : List Value) = (([c0] : List Value) ++ (([c1] : List Value) ++ ([c2] : List Value))) from rfl).trans (by rw [e0, e1, e2]; rfl), w0, w1, w2⟩

theorem ce__4__3_int64 : Tryd.prog.cellsOf 27 = 12 := by kernel_rfl
set_option maxRecDepth 100000 in
set_option maxHeartbeats 2000000 in
theorem at__4__3_int64 {c0 c1 c2 c3 c4 c5 c6 c7 c8 c9 c10 c11 : Value} {x : DataW X × List MemPlace} (h : DataW.trod enc Tryd.prog W base spare held m 27 [c0, c1, c2, c3, c4, c5, c6, c7, c8, c9, c10, c11] = some x) : ∃ (a0 : Int) (a1 : Int) (a2 : Int) (a3 : Int) (a4 : Int) (a5 : Int) (a6 : Int) (a7 : Int) (a8 : Int) (a9 : Int) (a10 : Int) (a11 : Int), [c0, c1, c2, c3, c4, c5, c6, c7, c8, c9, c10, c11] = [.int .i64 a0, .int .i64 a1, .int .i64 a2, .int .i64 a3, .int .i64 a4, .int .i64 a5, .int .i64 a6, .int .i64 a7, .int .i64 a8, .int .i64 a9, .int .i64 a10, .int .i64 a11] ∧ In a0 ∧ In a1 ∧ In a2 ∧ In a3 ∧ In a4 ∧ In a5 ∧ In a6 ∧ In a7 ∧ In a8 ∧ In a9 ∧ In a10 ∧ In a11 := by
  obtain ⟨xs, k, _, _, _, hxl, hel⟩ := DataW.trod_array Tryd.underlying27 h
  match xs, hxl with
  | [y0, y1, y2, y3], _ =>
    have g0 := hel 0 (by omega)
    simp only [ce__3_int64] at g0
    replace g0 : DataW.trod enc Tryd.prog W base spare held k 26 [c0, c1, c2] = some y0 := g0
    obtain ⟨a0, a1, a2, e0, w0, w1, w2⟩ := at__3_int64 g0
    have g1 := hel 1 (by omega)
    simp only [ce__3_int64] at g1
    replace g1 : DataW.trod enc Tryd.prog W base spare held k 26 [c3, c4, c5] = some y1 := g1
    obtain ⟨a3, a4, a5, e1, w3, w4, w5⟩ := at__3_int64 g1
    have g2 := hel 2 (by omega)
    simp only [ce__3_int64] at g2
    replace g2 : DataW.trod enc Tryd.prog W base spare held k 26 [c6, c7, c8] = some y2 := g2
    obtain ⟨a6, a7, a8, e2, w6, w7, w8⟩ := at__3_int64 g2
    have g3 := hel 3 (by omega)
    simp only [ce__3_int64] at g3
    replace g3 : DataW.trod enc Tryd.prog W base spare held k 26 [c9, c10, c11] = some y3 := g3
    obtain ⟨a9, a10, a11, e3, w9, w10, w11⟩ := at__3_int64 g3
    exact ⟨a0, a1, a2, a3, a4, a5, a6, a7, a8, a9, a10, a11, (show ([c0, c1, c2, c3, c4, c5, c6, c7, c8, c9, c10, c11] : List Value) = (([c0, c1, c2] : List Value) ++ (([c3, c4, c5] : List Value) ++ (([c6, c7, c8] : List Value) ++ ([c9, c10, c11] : List Value)))) from rfl).trans (by rw [e0, e1, e2, e3]; rfl), w0, w1, w2, w3, w4, w5, w6, w7, w8, w9, w10, w11⟩

theorem ce_api_Gust : Tryd.prog.cellsOf 29 = 16 := by kernel_rfl
set_option maxRecDepth 100000 in
set_option maxHeartbeats 2000000 in
theorem at_api_Gust {c0 c1 c2 c3 c4 c5 c6 c7 c8 c9 c10 c11 c12 c13 c14 c15 : Value} {x : DataW X × List MemPlace} (h : DataW.trod enc Tryd.prog W base spare held m 29 [c0, c1, c2, c3, c4, c5, c6, c7, c8, c9, c10, c11, c12, c13, c14, c15] = some x) : ∃ (a0 : Int) (a1 : Int) (a2 : Int) (a3 : Int) (a4 : Int) (a5 : Int) (a6 : Int) (a7 : Int) (a8 : Int) (a9 : Int) (a10 : Int) (a11 : Int) (a12 : Int) (a13 : Int) (a14 : Int) (a15 : Int), [c0, c1, c2, c3, c4, c5, c6, c7, c8, c9, c10, c11, c12, c13, c14, c15] = [.int .i64 a0, .int .i64 a1, .int .i64 a2, .int .i64 a3, .int .i64 a4, .int .i64 a5, .int .i64 a6, .int .i64 a7, .int .i64 a8, .int .i64 a9, .int .i64 a10, .int .i64 a11, .int .i64 a12, .int .i64 a13, .int .i64 a14, .int .i64 a15] ∧ In a0 ∧ In a1 ∧ In a2 ∧ In a3 ∧ In a4 ∧ In a5 ∧ In a6 ∧ In a7 ∧ In a8 ∧ In a9 ∧ In a10 ∧ In a11 ∧ In a12 ∧ In a13 ∧ In a14 ∧ In a15 := by
  obtain ⟨xs, k, _, _, _, hxl, hel⟩ := DataW.trod_struct Tryd.underlying29 h
  match xs, hxl with
  | [y0, y1, y2, y3, y4], _ =>
    have g0 : DataW.trod enc Tryd.prog W base spare held k 2 ((([c0, c1, c2, c3, c4, c5, c6, c7, c8, c9, c10, c11, c12, c13, c14, c15] : List Value).drop 0).take (Tryd.prog.cellsOf 2)) = some y0 := hel 0 _ rfl
    rw [ce_int64] at g0
    replace g0 : DataW.trod enc Tryd.prog W base spare held k 2 [c0] = some y0 := g0
    obtain ⟨a0, e0, _, w0⟩ := DataW.trod_int Tryd.underlying2 g0
    replace w0 : In a0 := In_wf w0
    have g1 : DataW.trod enc Tryd.prog W base spare held k 2 ((([c0, c1, c2, c3, c4, c5, c6, c7, c8, c9, c10, c11, c12, c13, c14, c15] : List Value).drop 1).take (Tryd.prog.cellsOf 2)) = some y1 := hel 1 _ rfl
    rw [ce_int64] at g1
    replace g1 : DataW.trod enc Tryd.prog W base spare held k 2 [c1] = some y1 := g1
    obtain ⟨a1, e1, _, w1⟩ := DataW.trod_int Tryd.underlying2 g1
    replace w1 : In a1 := In_wf w1
    have g2 : DataW.trod enc Tryd.prog W base spare held k 2 ((([c0, c1, c2, c3, c4, c5, c6, c7, c8, c9, c10, c11, c12, c13, c14, c15] : List Value).drop 2).take (Tryd.prog.cellsOf 2)) = some y2 := hel 2 _ rfl
    rw [ce_int64] at g2
    replace g2 : DataW.trod enc Tryd.prog W base spare held k 2 [c2] = some y2 := g2
    obtain ⟨a2, e2, _, w2⟩ := DataW.trod_int Tryd.underlying2 g2
    replace w2 : In a2 := In_wf w2
    have g3 : DataW.trod enc Tryd.prog W base spare held k 2 ((([c0, c1, c2, c3, c4, c5, c6, c7, c8, c9, c10, c11, c12, c13, c14, c15] : List Value).drop 3).take (Tryd.prog.cellsOf 2)) = some y3 := hel 3 _ rfl
    rw [ce_int64] at g3
    replace g3 : DataW.trod enc Tryd.prog W base spare held k 2 [c3] = some y3 := g3
    obtain ⟨a3, e3, _, w3⟩ := DataW.trod_int Tryd.underlying2 g3
    replace w3 : In a3 := In_wf w3
    have g4 : DataW.trod enc Tryd.prog W base spare held k 27 ((([c0, c1, c2, c3, c4, c5, c6, c7, c8, c9, c10, c11, c12, c13, c14, c15] : List Value).drop 4).take (Tryd.prog.cellsOf 27)) = some y4 := hel 4 _ rfl
    rw [ce__4__3_int64] at g4
    replace g4 : DataW.trod enc Tryd.prog W base spare held k 27 [c4, c5, c6, c7, c8, c9, c10, c11, c12, c13, c14, c15] = some y4 := g4
    obtain ⟨a4, a5, a6, a7, a8, a9, a10, a11, a12, a13, a14, a15, e4, w4, w5, w6, w7, w8, w9, w10, w11, w12, w13, w14, w15⟩ := at__4__3_int64 g4
    exact ⟨a0, a1, a2, a3, a4, a5, a6, a7, a8, a9, a10, a11, a12, a13, a14, a15, (show ([c0, c1, c2, c3, c4, c5, c6, c7, c8, c9, c10, c11, c12, c13, c14, c15] : List Value) = (([c0] : List Value) ++ (([c1] : List Value) ++ (([c2] : List Value) ++ (([c3] : List Value) ++ ([c4, c5, c6, c7, c8, c9, c10, c11, c12, c13, c14, c15] : List Value))))) from rfl).trans (by rw [e0, e1, e2, e3, e4]; rfl), w0, w1, w2, w3, w4, w5, w6, w7, w8, w9, w10, w11, w12, w13, w14, w15⟩

set_option maxRecDepth 100000 in
set_option maxHeartbeats 2000000 in
theorem open_g {v : Value} {d : DataW X} {p : List MemPlace} (hv : Value.okWide Tryd.prog W r b0 29 v) (h : DataW.Trod enc Tryd.prog W base spare held 29 v d p) : ∃ Y : Nat → Int, v = .agg (gA Y) ∧ ∀ j, j < 16 → In (Y j) := by
  obtain ⟨cs, rfl, hsz⟩ := okWide_struct Tryd.underlying29 hv
  rw [ce_api_Gust] at hsz
  obtain ⟨l⟩ := cs
  replace hsz : l.length = 16 := hsz
  rcases l with _ | ⟨c0, l⟩
  · simp at hsz
  rcases l with _ | ⟨c1, l⟩
  · simp at hsz
  rcases l with _ | ⟨c2, l⟩
  · simp at hsz
  rcases l with _ | ⟨c3, l⟩
  · simp at hsz
  rcases l with _ | ⟨c4, l⟩
  · simp at hsz
  rcases l with _ | ⟨c5, l⟩
  · simp at hsz
  rcases l with _ | ⟨c6, l⟩
  · simp at hsz
  rcases l with _ | ⟨c7, l⟩
  · simp at hsz
  rcases l with _ | ⟨c8, l⟩
  · simp at hsz
  rcases l with _ | ⟨c9, l⟩
  · simp at hsz
  rcases l with _ | ⟨c10, l⟩
  · simp at hsz
  rcases l with _ | ⟨c11, l⟩
  · simp at hsz
  rcases l with _ | ⟨c12, l⟩
  · simp at hsz
  rcases l with _ | ⟨c13, l⟩
  · simp at hsz
  rcases l with _ | ⟨c14, l⟩
  · simp at hsz
  rcases l with _ | ⟨c15, l⟩
  · simp at hsz
  rcases l with _ | ⟨cx, l⟩
  · obtain ⟨fuel, hf⟩ := h
    obtain ⟨a0, a1, a2, a3, a4, a5, a6, a7, a8, a9, a10, a11, a12, a13, a14, a15, e, w0, w1, w2, w3, w4, w5, w6, w7, w8, w9, w10, w11, w12, w13, w14, w15⟩ := at_api_Gust hf
    exact ⟨of16 a0 a1 a2 a3 a4 a5 a6 a7 a8 a9 a10 a11 a12 a13 a14 a15, congrArg (fun l => Value.agg ⟨l⟩) e, in16 w0 w1 w2 w3 w4 w5 w6 w7 w8 w9 w10 w11 w12 w13 w14 w15⟩
  · simp at hsz

theorem elem_cms {v0 v1 v2 : Value} {x : DataW X × List MemPlace} (h : DataW.trod enc Tryd.prog W base spare held m 25 [v0, v1, v2] = some x) : ∃ Y : Nat → Int, (InC Y) ∧ [v0, v1, v2] = (cA Y).toList := by
  obtain ⟨a0, a1, a2, e, w0, w1, w2⟩ := at_api_Command h
  exact ⟨of3 a0 a1 a2, in3 ⟨w0, w1, w2⟩, e⟩

theorem open_cms {A : Option Addr} {n c : Nat} {d : DataW X} {p : List MemPlace}
    (h : DataW.Trod enc Tryd.prog W 0 (fun _ => true) held 36 (.slice A n c) d p) : ∃ F : Nat → Nat → Int, n ≤ maxLen ∧ (∀ i, i < n → (fun Y : Nat → Int => InC Y) (F i)) ∧ Sl W W.heap.size A n 3 fun i => (cA (F i)).toList := by
  obtain ⟨fuel, hf⟩ := h
  rcases Go.Deep.open_slice Tryd.underlying36 hf with ⟨hcs, _⟩ | ⟨a, len, cap, m, k, D, Pl, hcs, _, hl, hm, hmm, hd, hx⟩
  · simp [Value.cells] at hcs
    obtain ⟨rfl, rfl, rfl⟩ := hcs
    exact ⟨fun _ => zC, by unfold maxLen; omega, fun _ h => by omega, fun h => by omega⟩
  · simp [Value.cells] at hcs
    obtain ⟨rfl, rfl, rfl⟩ := hcs
    simp only [if_true] at hmm
    subst hmm
    rw [ce_api_Command] at hx
    have each : ∀ j, j < m → ∃ x : Nat → Int, (fun Y : Nat → Int => InC Y) x ∧ ∀ q, q < 3 → W.cell? (a.add (j * 3 + q)) = (cA x).toList[q]? := by
      intro j hj
      obtain ⟨cs', h1, h2⟩ := hx j hj
      obtain ⟨_, hlen, hcell⟩ := World.cells?_some h1
      match cs', hlen with
      | [v0, v1, v2], _ =>
        obtain ⟨x, hy, hb⟩ := elem_cms h2
        refine ⟨x, hy, fun q hq => ?_⟩
        have c0 := hcell q (by simpa using hq)
        rw [Go.Deep.add_add] at c0
        rw [c0, ← hb, List.getElem?_eq_getElem (by simpa using hq)]
    haveI : Inhabited (Nat → Int) := ⟨zC⟩
    obtain ⟨q, hq⟩ := Go.Deep.choose_lt each
    refine ⟨q, by omega, fun i hi => (hq i (by omega)).1, fun hn => ?_⟩
    obtain ⟨b, off, spot⟩ := a
    have h0 := (hq 0 (by omega)).2 0 (by omega)
    have hs : spot = none := by simpa [Addr.add] using World.cell?_spot (v := .int .i64 (q 0 0)) h0
    subst hs
    have hadd : ∀ j : Nat, ((⟨b, off, none⟩ : Addr).add j) = ⟨b, off + j, none⟩ := by intro j; unfold Addr.add; split <;> simp_all
    have hlt : b < W.heap.size := by
      rw [hadd] at h0
      exact block_lt_of_cell (v := .int .i64 (q 0 0)) h0
    refine ⟨b, off, rfl, hlt, fun j hj r v hv => ?_⟩
    have hr : r < 3 := (List.getElem?_eq_some_iff.1 hv).1
    have g := (hq j (by omega)).2 r hr
    rw [hadd, hv] at g
    rw [Nat.add_assoc]
    exact g


theorem elem_gus {v0 v1 v2 v3 v4 v5 v6 v7 v8 v9 v10 v11 v12 v13 v14 v15 : Value} {x : DataW X × List MemPlace} (h : DataW.trod enc Tryd.prog W base spare held m 29 [v0, v1, v2, v3, v4, v5, v6, v7, v8, v9, v10, v11, v12, v13, v14, v15] = some x) : ∃ Y : Nat → Int, (∀ j, j < 16 → In (Y j)) ∧ [v0, v1, v2, v3, v4, v5, v6, v7, v8, v9, v10, v11, v12, v13, v14, v15] = (gA Y).toList := by
  obtain ⟨a0, a1, a2, a3, a4, a5, a6, a7, a8, a9, a10, a11, a12, a13, a14, a15, e, w0, w1, w2, w3, w4, w5, w6, w7, w8, w9, w10, w11, w12, w13, w14, w15⟩ := at_api_Gust h
  exact ⟨of16 a0 a1 a2 a3 a4 a5 a6 a7 a8 a9 a10 a11 a12 a13 a14 a15, in16 w0 w1 w2 w3 w4 w5 w6 w7 w8 w9 w10 w11 w12 w13 w14 w15, e⟩

theorem open_gus {A : Option Addr} {n c : Nat} {d : DataW X} {p : List MemPlace}
    (h : DataW.Trod enc Tryd.prog W 0 (fun _ => true) held 37 (.slice A n c) d p) : ∃ F : Nat → Nat → Int, n ≤ maxLen ∧ (∀ i, i < n → (fun Y : Nat → Int => ∀ j, j < 16 → In (Y j)) (F i)) ∧ Sl W W.heap.size A n 16 fun i => (gA (F i)).toList := by
  obtain ⟨fuel, hf⟩ := h
  rcases Go.Deep.open_slice Tryd.underlying37 hf with ⟨hcs, _⟩ | ⟨a, len, cap, m, k, D, Pl, hcs, _, hl, hm, hmm, hd, hx⟩
  · simp [Value.cells] at hcs
    obtain ⟨rfl, rfl, rfl⟩ := hcs
    exact ⟨fun _ => zG, by unfold maxLen; omega, fun _ h => by omega, fun h => by omega⟩
  · simp [Value.cells] at hcs
    obtain ⟨rfl, rfl, rfl⟩ := hcs
    simp only [if_true] at hmm
    subst hmm
    rw [ce_api_Gust] at hx
    have each : ∀ j, j < m → ∃ x : Nat → Int, (fun Y : Nat → Int => ∀ j, j < 16 → In (Y j)) x ∧ ∀ q, q < 16 → W.cell? (a.add (j * 16 + q)) = (gA x).toList[q]? := by
      intro j hj
      obtain ⟨cs', h1, h2⟩ := hx j hj
      obtain ⟨_, hlen, hcell⟩ := World.cells?_some h1
      match cs', hlen with
      | [v0, v1, v2, v3, v4, v5, v6, v7, v8, v9, v10, v11, v12, v13, v14, v15], _ =>
        obtain ⟨x, hy, hb⟩ := elem_gus h2
        refine ⟨x, hy, fun q hq => ?_⟩
        have c0 := hcell q (by simpa using hq)
        rw [Go.Deep.add_add] at c0
        rw [c0, ← hb, List.getElem?_eq_getElem (by simpa using hq)]
    haveI : Inhabited (Nat → Int) := ⟨zG⟩
    obtain ⟨q, hq⟩ := Go.Deep.choose_lt each
    refine ⟨q, by omega, fun i hi => (hq i (by omega)).1, fun hn => ?_⟩
    obtain ⟨b, off, spot⟩ := a
    have h0 := (hq 0 (by omega)).2 0 (by omega)
    have hs : spot = none := by simpa [Addr.add] using World.cell?_spot (v := .int .i64 (q 0 0)) h0
    subst hs
    have hadd : ∀ j : Nat, ((⟨b, off, none⟩ : Addr).add j) = ⟨b, off + j, none⟩ := by intro j; unfold Addr.add; split <;> simp_all
    have hlt : b < W.heap.size := by
      rw [hadd] at h0
      exact block_lt_of_cell (v := .int .i64 (q 0 0)) h0
    refine ⟨b, off, rfl, hlt, fun j hj r v hv => ?_⟩
    have hr : r < 16 := (List.getElem?_eq_some_iff.1 hv).1
    have g := (hq j (by omega)).2 r hr
    rw [hadd, hv] at g
    rw [Nat.add_assoc]
    exact g


theorem ce__4_int64 : Tryd.prog.cellsOf 43 = 4 := by kernel_rfl

set_option maxRecDepth 100000 in
set_option maxHeartbeats 2000000 in
theorem is__4_int64 {c0 c1 c2 c3 : Value} {n0 : Int} {n1 : Int} {n2 : Int} {n3 : Int} {q : List MemPlace} (h : DataW.trod enc Tryd.prog W base spare held m 43 [c0, c1, c2, c3] = some (.agg [.lit (.int .i64 n0), .lit (.int .i64 n1), .lit (.int .i64 n2), .lit (.int .i64 n3)], q)) : [c0, c1, c2, c3] = [.int .i64 n0, .int .i64 n1, .int .i64 n2, .int .i64 n3] := by
  obtain ⟨xs, k, _, hx, _, hxl, hel⟩ := DataW.trod_array Tryd.underlying43 h
  match xs, hxl, hx with
  | [y0, y1, y2, y3], _, hx =>
    simp only [Prod.mk.injEq, DataW.agg.injEq, List.map_cons, List.map_nil, List.cons.injEq, and_true] at hx
    obtain ⟨⟨d0, d1, d2, d3⟩, _⟩ := hx
    have g0 := hel 0 (by omega)
    simp only [ce_int64] at g0
    replace g0 : DataW.trod enc Tryd.prog W base spare held k 2 [c0] = some (y0.1, y0.2) := g0
    rw [← d0] at g0
    obtain ⟨z0, e0, f0, _⟩ := DataW.trod_int Tryd.underlying2 g0
    simp only [Prod.mk.injEq, DataW.lit.injEq, Lit.int.injEq, true_and] at f0
    rw [← f0.1] at e0
    have g1 := hel 1 (by omega)
    simp only [ce_int64] at g1
    replace g1 : DataW.trod enc Tryd.prog W base spare held k 2 [c1] = some (y1.1, y1.2) := g1
    rw [← d1] at g1
    obtain ⟨z1, e1, f1, _⟩ := DataW.trod_int Tryd.underlying2 g1
    simp only [Prod.mk.injEq, DataW.lit.injEq, Lit.int.injEq, true_and] at f1
    rw [← f1.1] at e1
    have g2 := hel 2 (by omega)
    simp only [ce_int64] at g2
    replace g2 : DataW.trod enc Tryd.prog W base spare held k 2 [c2] = some (y2.1, y2.2) := g2
    rw [← d2] at g2
    obtain ⟨z2, e2, f2, _⟩ := DataW.trod_int Tryd.underlying2 g2
    simp only [Prod.mk.injEq, DataW.lit.injEq, Lit.int.injEq, true_and] at f2
    rw [← f2.1] at e2
    have g3 := hel 3 (by omega)
    simp only [ce_int64] at g3
    replace g3 : DataW.trod enc Tryd.prog W base spare held k 2 [c3] = some (y3.1, y3.2) := g3
    rw [← d3] at g3
    obtain ⟨z3, e3, f3, _⟩ := DataW.trod_int Tryd.underlying2 g3
    simp only [Prod.mk.injEq, DataW.lit.injEq, Lit.int.injEq, true_and] at f3
    rw [← f3.1] at e3
    exact (show ([c0, c1, c2, c3] : List Value) = (([c0] : List Value) ++ (([c1] : List Value) ++ (([c2] : List Value) ++ ([c3] : List Value)))) from rfl).trans (by rw [e0, e1, e2, e3]; rfl)

set_option maxRecDepth 100000 in
theorem is_air {cs : List Value} {q : List MemPlace} (h : DataW.trod enc Tryd.prog W base spare held m 43 cs = some (.agg [.lit (.int .i64 20), .lit (.int .i64 2), .lit (.int .i64 1), .lit (.int .i64 50)], q)) : cs = [.int .i64 20, .int .i64 2, .int .i64 1, .int .i64 50] := by
  obtain ⟨_, _, _, _, hl, _, _⟩ := DataW.trod_array Tryd.underlying43 h
  rw [ce__4_int64] at hl
  rcases cs with _ | ⟨c0, cs⟩
  · simp at hl
  rcases cs with _ | ⟨c1, cs⟩
  · simp at hl
  rcases cs with _ | ⟨c2, cs⟩
  · simp at hl
  rcases cs with _ | ⟨c3, cs⟩
  · simp at hl
  rcases cs with _ | ⟨cx, cs⟩
  · exact is__4_int64 h
  · simp at hl

set_option maxRecDepth 100000 in
theorem is_wrong {cs : List Value} {q : List MemPlace} (h : DataW.trod enc Tryd.prog W base spare held m 43 cs = some (.agg [.lit (.int .i64 30), .lit (.int .i64 30), .lit (.int .i64 30), .lit (.int .i64 500)], q)) : cs = [.int .i64 30, .int .i64 30, .int .i64 30, .int .i64 500] := by
  obtain ⟨_, _, _, _, hl, _, _⟩ := DataW.trod_array Tryd.underlying43 h
  rw [ce__4_int64] at hl
  rcases cs with _ | ⟨c0, cs⟩
  · simp at hl
  rcases cs with _ | ⟨c1, cs⟩
  · simp at hl
  rcases cs with _ | ⟨c2, cs⟩
  · simp at hl
  rcases cs with _ | ⟨c3, cs⟩
  · simp at hl
  rcases cs with _ | ⟨cx, cs⟩
  · exact is__4_int64 h
  · simp at hl

end

end Go.Proofs.YtaicijhkchfcfaaDoor.Pl
