/- Arguments: a slice of frames between lanes: what its reading says of memory. -/
import Derived.Test.YtnknjlhflgfccaaLinkAt
import Derived.Lib.SmallJoins
import Derived.OpenShut
import Derived.Deep.Slices
import Derived.Laws.IdiomArrays
import Derived.Deep.Strs
namespace Go.Proofs.Ytnknjlhflgfccaa.Link
open Go.ChangeShapes Go.WideShapes Go.ChangeAt Go.RowKit Go.Joins Go.Deep Go.WideElems Num By Msg

theorem cM : Try.prog.cellsOf 38 = 11 := by kernel_rfl
theorem cBt : Try.prog.cellsOf 40 = 22 := by kernel_rfl
theorem cU3 : Try.prog.cellsOf 34 = 3 := by kernel_rfl
theorem cB3 : Try.prog.cellsOf 32 = 3 := by kernel_rfl
theorem cB9 : Try.prog.cellsOf 33 = 9 := by kernel_rfl
theorem cC : Try.prog.cellsOf 36 = 3 := by kernel_rfl
theorem c8 : Try.prog.cellsOf 5 = 1 := by kernel_rfl
theorem c32 : Try.prog.cellsOf 23 = 1 := by kernel_rfl
theorem cB : Try.prog.cellsOf 4 = 1 := by kernel_rfl
theorem c64 : Try.prog.cellsOf 2 = 1 := by kernel_rfl
theorem b8 {a : Int} (h : (Lit.int .u8 a).wf = true) : B8 a := ⟨(bounds_u8 h).1, by have := (bounds_u8 h).2; omega⟩

set_option maxRecDepth 100000 in
set_option maxHeartbeats 1000000 in
theorem trod_m {H : Type} {enc : TypeId × Value → H} {W : World} {base : Nat} {spare : Nat → Bool} {held : Bool} {fuel : Nat} {x0 x1 x2 x3 x4 x5 x6 x7 x8 x9 x10 : Value} {y : DataW H × List MemPlace}
    (hf : DataW.trod enc Try.prog W base spare held fuel 38 [x0, x1, x2, x3, x4, x5, x6, x7, x8, x9, x10] = some y) : ∃ m : Ms, [x0, x1, x2, x3, x4, x5, x6, x7, x8, x9, x10] = (mA m).toList ∧ B8 m.h0 ∧ B8 m.h1 ∧ B8 m.h2 := by
  obtain ⟨xs, n, _, _, _, hlen, hx⟩ := DataW.trod_struct Try.underlying38 hf
  match xs, hlen with
  | [y0, y1, y2, y3, y4, y5, y6], _ =>
    have g0 : DataW.trod enc Try.prog W base spare held n 5 ((([x0, x1, x2, x3, x4, x5, x6, x7, x8, x9, x10] : List Value).drop 0).take (Try.prog.cellsOf 5)) = some y0 := hx 0 _ rfl
    rw [c8] at g0
    replace g0 : DataW.trod enc Try.prog W base spare held n 5 [x0] = some y0 := g0
    have g1 : DataW.trod enc Try.prog W base spare held n 23 ((([x0, x1, x2, x3, x4, x5, x6, x7, x8, x9, x10] : List Value).drop 1).take (Try.prog.cellsOf 23)) = some y1 := hx 1 _ rfl
    rw [c32] at g1
    replace g1 : DataW.trod enc Try.prog W base spare held n 23 [x1] = some y1 := g1
    have g2 : DataW.trod enc Try.prog W base spare held n 34 ((([x0, x1, x2, x3, x4, x5, x6, x7, x8, x9, x10] : List Value).drop 2).take (Try.prog.cellsOf 34)) = some y2 := hx 2 _ rfl
    rw [cU3] at g2
    replace g2 : DataW.trod enc Try.prog W base spare held n 34 [x2, x3, x4] = some y2 := g2
    have g3 : DataW.trod enc Try.prog W base spare held n 5 ((([x0, x1, x2, x3, x4, x5, x6, x7, x8, x9, x10] : List Value).drop 5).take (Try.prog.cellsOf 5)) = some y3 := hx 3 _ rfl
    rw [c8] at g3
    replace g3 : DataW.trod enc Try.prog W base spare held n 5 [x5] = some y3 := g3
    have g4 : DataW.trod enc Try.prog W base spare held n 5 ((([x0, x1, x2, x3, x4, x5, x6, x7, x8, x9, x10] : List Value).drop 6).take (Try.prog.cellsOf 5)) = some y4 := hx 4 _ rfl
    rw [c8] at g4
    replace g4 : DataW.trod enc Try.prog W base spare held n 5 [x6] = some y4 := g4
    have g5 : DataW.trod enc Try.prog W base spare held n 4 ((([x0, x1, x2, x3, x4, x5, x6, x7, x8, x9, x10] : List Value).drop 7).take (Try.prog.cellsOf 4)) = some y5 := hx 5 _ rfl
    rw [cB] at g5
    replace g5 : DataW.trod enc Try.prog W base spare held n 4 [x7] = some y5 := g5
    have g6 : DataW.trod enc Try.prog W base spare held n 36 ((([x0, x1, x2, x3, x4, x5, x6, x7, x8, x9, x10] : List Value).drop 8).take (Try.prog.cellsOf 36)) = some y6 := hx 6 _ rfl
    rw [cC] at g6
    replace g6 : DataW.trod enc Try.prog W base spare held n 36 [x8, x9, x10] = some y6 := g6
    obtain ⟨a0, e0, _, _⟩ := DataW.trod_int Try.underlying5 g0
    obtain ⟨a1, e1, _, _⟩ := DataW.trod_int Try.underlying23 g1
    obtain ⟨_, _, _, _, _, t2, t3, t4⟩ := trod_array3 Try.underlying34 c8 g2
    obtain ⟨a2, e2, _, w2⟩ := DataW.trod_int Try.underlying5 t2
    obtain ⟨a3, e3, _, w3⟩ := DataW.trod_int Try.underlying5 t3
    obtain ⟨a4, e4, _, w4⟩ := DataW.trod_int Try.underlying5 t4
    obtain ⟨a5, e5, _, _⟩ := DataW.trod_int Try.underlying5 g3
    obtain ⟨a6, e6, _, _⟩ := DataW.trod_int Try.underlying5 g4
    obtain ⟨a7, e7, _⟩ := DataW.trod_bool Try.underlying4 g5
    obtain ⟨_, _, _, _, _, _, t8, t9, t10⟩ := trod_struct3 Try.underlying36 g6
    simp only [c64, List.drop_zero, List.drop_succ_cons, List.take_succ_cons, List.take_zero] at t8 t9 t10
    obtain ⟨a8, e8, _, _⟩ := DataW.trod_int Try.underlying2 t8
    obtain ⟨a9, e9, _, _⟩ := DataW.trod_int Try.underlying2 t9
    obtain ⟨a10, e10, _, _⟩ := DataW.trod_int Try.underlying2 t10
    simp only [List.cons.injEq, and_true] at e0 e1 e2 e3 e4 e5 e6 e7 e8 e9 e10
    subst e0 e1 e2 e3 e4 e5 e6 e7 e8 e9 e10
    exact ⟨⟨a0, a1, a2, a3, a4, a5, a6, a7, a8, a9, a10⟩, rfl, b8 w2, b8 w3, b8 w4⟩

theorem trod_b3 {H : Type} {enc : TypeId × Value → H} {W : World} {base : Nat} {spare : Nat → Bool} {held : Bool} {fuel : Nat} {v0 v1 v2 : Value} {y : DataW H × List MemPlace}
    (hf : DataW.trod enc Try.prog W base spare held fuel 32 [v0, v1, v2] = some y) : ∃ p0 p1 p2 : Bool, v0 = .bool p0 ∧ v1 = .bool p1 ∧ v2 = .bool p2 := by
  obtain ⟨_, _, _, _, _, t0, t1, t2⟩ := trod_array3 Try.underlying32 cB hf
  obtain ⟨a0, e0, _⟩ := DataW.trod_bool Try.underlying4 t0
  obtain ⟨a1, e1, _⟩ := DataW.trod_bool Try.underlying4 t1
  obtain ⟨a2, e2, _⟩ := DataW.trod_bool Try.underlying4 t2
  simp only [List.cons.injEq, and_true] at e0 e1 e2
  exact ⟨a0, a1, a2, e0, e1, e2⟩

theorem trod_b9 {H : Type} {enc : TypeId × Value → H} {W : World} {base : Nat} {spare : Nat → Bool} {held : Bool} {fuel : Nat} {x0 x1 x2 x3 x4 x5 x6 x7 x8 : Value} {y : DataW H × List MemPlace}
    (hf : DataW.trod enc Try.prog W base spare held fuel 33 [x0, x1, x2, x3, x4, x5, x6, x7, x8] = some y) : ∃ F : Nat → Nat → Bool, x0 = .bool (F 0 0) ∧ x1 = .bool (F 0 1) ∧ x2 = .bool (F 0 2) ∧ x3 = .bool (F 1 0) ∧ x4 = .bool (F 1 1) ∧ x5 = .bool (F 1 2) ∧ x6 = .bool (F 2 0) ∧ x7 = .bool (F 2 1) ∧ x8 = .bool (F 2 2) := by
  obtain ⟨xs, n, _, _, _, hlen, hel⟩ := DataW.trod_array Try.underlying33 hf
  match xs, hlen with
  | [y0, y1, y2], _ =>
    have g0 := hel 0 (by omega)
    have g1 := hel 1 (by omega)
    have g2 := hel 2 (by omega)
    simp only [cB3, Nat.zero_mul, Nat.one_mul, Nat.reduceMul, List.drop_zero, List.drop_succ_cons, List.take_succ_cons, List.take_zero, List.getElem?_cons_zero, List.getElem?_cons_succ] at g0 g1 g2
    obtain ⟨p0, p1, p2, e0, e1, e2⟩ := trod_b3 g0
    obtain ⟨p3, p4, p5, e3, e4, e5⟩ := trod_b3 g1
    obtain ⟨p6, p7, p8, e6, e7, e8⟩ := trod_b3 g2
    exact ⟨fun j k => if j = 0 then (if k = 0 then p0 else if k = 1 then p1 else p2) else if j = 1 then (if k = 0 then p3 else if k = 1 then p4 else p5) else (if k = 0 then p6 else if k = 1 then p7 else p8), e0, e1, e2, e3, e4, e5, e6, e7, e8⟩

set_option maxRecDepth 100000 in
set_option maxHeartbeats 1000000 in
theorem trod_bt {H : Type} {enc : TypeId × Value → H} {W : World} {base : Nat} {spare : Nat → Bool} {held : Bool} {fuel : Nat} {x0 x1 x2 x3 x4 x5 x6 x7 x8 x9 x10 x11 x12 x13 x14 x15 x16 x17 x18 x19 x20 x21 : Value} {y : DataW H × List MemPlace}
    (hf : DataW.trod enc Try.prog W base spare held fuel 40 [x0, x1, x2, x3, x4, x5, x6, x7, x8, x9, x10, x11, x12, x13, x14, x15, x16, x17, x18, x19, x20, x21] = some y) : ∃ b : Bt, [x0, x1, x2, x3, x4, x5, x6, x7, x8, x9, x10, x11, x12, x13, x14, x15, x16, x17, x18, x19, x20, x21] = (btA b).toList ∧ OkX b := by
  obtain ⟨xs, n, _, _, _, hlen, hx⟩ := DataW.trod_struct Try.underlying40 hf
  match xs, hlen with
  | [y0, y1, y2, y3], _ =>
    have g0 : DataW.trod enc Try.prog W base spare held n 4 ((([x0, x1, x2, x3, x4, x5, x6, x7, x8, x9, x10, x11, x12, x13, x14, x15, x16, x17, x18, x19, x20, x21] : List Value).drop 0).take (Try.prog.cellsOf 4)) = some y0 := hx 0 _ rfl
    rw [cB] at g0
    replace g0 : DataW.trod enc Try.prog W base spare held n 4 [x0] = some y0 := g0
    have g1 : DataW.trod enc Try.prog W base spare held n 33 ((([x0, x1, x2, x3, x4, x5, x6, x7, x8, x9, x10, x11, x12, x13, x14, x15, x16, x17, x18, x19, x20, x21] : List Value).drop 1).take (Try.prog.cellsOf 33)) = some y1 := hx 1 _ rfl
    rw [cB9] at g1
    replace g1 : DataW.trod enc Try.prog W base spare held n 33 [x1, x2, x3, x4, x5, x6, x7, x8, x9] = some y1 := g1
    have g2 : DataW.trod enc Try.prog W base spare held n 4 ((([x0, x1, x2, x3, x4, x5, x6, x7, x8, x9, x10, x11, x12, x13, x14, x15, x16, x17, x18, x19, x20, x21] : List Value).drop 10).take (Try.prog.cellsOf 4)) = some y2 := hx 2 _ rfl
    rw [cB] at g2
    replace g2 : DataW.trod enc Try.prog W base spare held n 4 [x10] = some y2 := g2
    have g3 : DataW.trod enc Try.prog W base spare held n 38 ((([x0, x1, x2, x3, x4, x5, x6, x7, x8, x9, x10, x11, x12, x13, x14, x15, x16, x17, x18, x19, x20, x21] : List Value).drop 11).take (Try.prog.cellsOf 38)) = some y3 := hx 3 _ rfl
    rw [cM] at g3
    replace g3 : DataW.trod enc Try.prog W base spare held n 38 [x11, x12, x13, x14, x15, x16, x17, x18, x19, x20, x21] = some y3 := g3
    obtain ⟨a0, e0, _⟩ := DataW.trod_bool Try.underlying4 g0
    obtain ⟨F, f0, f1, f2, f3, f4, f5, f6, f7, f8⟩ := trod_b9 g1
    obtain ⟨a2, e2, _⟩ := DataW.trod_bool Try.underlying4 g2
    obtain ⟨m, e3, h0, h1, h2⟩ := trod_m g3
    simp only [List.cons.injEq, and_true] at e0 e2
    refine ⟨⟨a0, F, a2, m⟩, ?_, h0, h1, h2⟩
    show [x0, x1, x2, x3, x4, x5, x6, x7, x8, x9, x10, x11, x12, x13, x14, x15, x16, x17, x18, x19, x20, x21] = [.bool a0, .bool (F 0 0), .bool (F 0 1), .bool (F 0 2), .bool (F 1 0), .bool (F 1 1), .bool (F 1 2), .bool (F 2 0), .bool (F 2 1), .bool (F 2 2), .bool a2] ++ (mA m).toList
    rw [← e3, e0, e2, f0, f1, f2, f3, f4, f5, f6, f7, f8]
    rfl

theorem open_bts {H : Type} {enc : TypeId × Value → H} {W : World} {held : Bool} {A : Option Addr} {n c : Nat} {d : DataW H} {p : List MemPlace}
    (h : DataW.Trod enc Try.prog W 0 (fun _ => true) held 22 (.slice A n c) d p) : ∃ X : Nat → Bt, (∀ i, i < n → OkX (X i)) ∧ Bts W W.heap.size A n X := by
  obtain ⟨fuel, hf⟩ := h
  rcases Go.Deep.open_slice Try.underlying22 hf with ⟨hcs, _⟩ | ⟨a, len, cap, m, k, D, Pl, hcs, _, hl, hm, hmm, _, hx⟩
  · simp [Value.cells] at hcs
    obtain ⟨rfl, rfl, rfl⟩ := hcs
    exact ⟨fun _ => b0, fun i hi => by omega, fun h => by omega⟩
  · simp [Value.cells] at hcs
    obtain ⟨rfl, rfl, rfl⟩ := hcs
    simp only [if_true] at hmm
    subst hmm
    rw [cBt] at hx
    have each : ∀ j, j < m → ∃ x : Bt, OkX x ∧ ∀ q, q < 22 → W.cell? (a.add (j * 22 + q)) = (btA x).toList[q]? := by
      intro j hj
      obtain ⟨cs', h1, h2⟩ := hx j hj
      obtain ⟨_, hlen, hcell⟩ := World.cells?_some h1
      match cs', hlen with
      | [v0, v1, v2, v3, v4, v5, v6, v7, v8, v9, v10, v11, v12, v13, v14, v15, v16, v17, v18, v19, v20, v21], _ =>
        obtain ⟨x, hb, ok⟩ := trod_bt h2
        refine ⟨x, ok, fun q hq => ?_⟩
        have c0 := hcell q (by simpa using hq)
        rw [Go.Deep.add_add] at c0
        rw [c0, ← hb, List.getElem?_eq_getElem (by simpa using hq)]
    haveI : Inhabited Bt := ⟨b0⟩
    obtain ⟨q, hq⟩ := Go.Deep.choose_lt each
    refine ⟨q, fun i hi => (hq i (by omega)).1, fun hn => ?_⟩
    obtain ⟨b, off, spot⟩ := a
    have h0 := (hq 0 (by omega)).2 0 (by omega)
    have hs : spot = none := by simpa [Addr.add] using World.cell?_spot (v := .bool (q 0).dead) h0
    subst hs
    have hadd : ∀ j : Nat, ((⟨b, off, none⟩ : Addr).add j) = ⟨b, off + j, none⟩ := by intro j; unfold Addr.add; split <;> simp_all
    have hlt : b < W.heap.size := by
      rw [hadd] at h0
      exact block_lt_of_cell (v := .bool (q 0).dead) h0
    refine ⟨b, off, rfl, hlt, fun j hj r v hv => ?_⟩
    have hr : r < 22 := (List.getElem?_eq_some_iff.1 hv).1
    have g := (hq j (by omega)).2 r hr
    rw [hadd, hv] at g
    rw [Nat.add_assoc]
    exact g

end Go.Proofs.Ytnknjlhflgfccaa.Link
