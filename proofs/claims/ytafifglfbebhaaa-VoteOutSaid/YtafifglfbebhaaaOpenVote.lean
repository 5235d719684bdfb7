/- Arguments: three healths, three readings, four signals' of both, one reading: their values written out. -/
import Derived.Test.YtafifglfbebhaaaVoteAll
import Derived.OpenShut
import Derived.Lib.SmallJoins
import Derived.Deep.Strs
import Derived.Laws.IdiomArrays
namespace Go.Proofs.Ytafifglfbebhaaa.Vote
open Go.ChangeShapes Go.WideShapes Go.ChangeAt Go.RowKit Num Bl Pers Mid

theorem okWide_array {P : Program} {W : World} {r : Reach} {b0 n : Nat} {t e : TypeId} {v : Value} (ht : P.underlying t = some (.array n e)) (h : Value.okWide P W r b0 t v) : ∃ cs, v = .agg cs ∧ cs.size = P.cellsOf t := by
  simp only [Value.okWide, ht] at h
  obtain ⟨cs, h1, h2, _⟩ := h
  exact ⟨cs, h1, h2⟩
theorem ce2 : Try.prog.cellsOf 2 = 1 := by kernel_rfl
theorem ce3 : Try.prog.cellsOf 3 = 1 := by kernel_rfl
theorem ce4 : Try.prog.cellsOf 4 = 1 := by kernel_rfl
theorem ce23 : Try.prog.cellsOf 23 = 3 := by kernel_rfl
theorem ce26 : Try.prog.cellsOf 26 = 2 := by kernel_rfl
theorem ce24 : Try.prog.cellsOf 24 = 9 := by kernel_rfl
theorem ce27 : Try.prog.cellsOf 27 = 6 := by kernel_rfl
theorem ce35 : Try.prog.cellsOf 35 = 36 := by kernel_rfl
theorem ce36 : Try.prog.cellsOf 36 = 24 := by kernel_rfl

section
variable {X : Type} {enc : TypeId × Value → X} {W : World} {base b0 : Nat} {spare : Nat → Bool} {held : Bool} {r : Reach} {m : Nat}

set_option maxRecDepth 100000 in
theorem one_hl {c0 c1 c2 : Value} {x : DataW X × List MemPlace} (h : DataW.trod enc Try.prog W base spare held m 23 [c0, c1, c2] = some x) : ∃ s : Hl, [c0, c1, c2] = [.int .i64 s.b, .bool s.o, .int .i64 s.g] := by
  obtain ⟨y0, y1, y2, n, _, _, h0, h1, h2⟩ := Go.Deep.trod_struct3 Try.underlying23 h
  simp only [ce3, ce4, List.drop_zero, List.drop_succ_cons, List.take_succ_cons, List.take_zero] at h0 h1 h2
  obtain ⟨a, e0, _, _⟩ := DataW.trod_int Try.underlying3 h0
  obtain ⟨b, e1, _⟩ := DataW.trod_bool Try.underlying4 h1
  obtain ⟨c, e2, _, _⟩ := DataW.trod_int Try.underlying3 h2
  simp only [List.cons.injEq, and_true] at e0 e1 e2
  subst e0 e1 e2
  exact ⟨⟨a, b, c⟩, rfl⟩
set_option maxRecDepth 100000 in
theorem one_rd {c0 c1 : Value} {x : DataW X × List MemPlace} (h : DataW.trod enc Try.prog W base spare held m 26 [c0, c1] = some x) : ∃ s : Rd, [c0, c1] = [.bool s.i, .int .i64 s.v] ∧ In s.v := by
  obtain ⟨y0, y1, n, _, _, h0, h1⟩ := trod_struct2 Try.underlying26 h
  simp only [ce2, ce4, List.drop_zero, List.drop_succ_cons, List.take_succ_cons, List.take_zero] at h0 h1
  obtain ⟨b, e1, _⟩ := DataW.trod_bool Try.underlying4 h0
  obtain ⟨a, e0, _, wa⟩ := DataW.trod_int Try.underlying2 h1
  simp only [List.cons.injEq, and_true] at e0 e1
  subst e0 e1
  exact ⟨⟨b, a⟩, rfl, In_wf wa⟩
set_option maxRecDepth 100000 in
theorem three_hl {c0 c1 c2 c3 c4 c5 c6 c7 c8 : Value} {x : DataW X × List MemPlace} (h : DataW.trod enc Try.prog W base spare held m 24 [c0, c1, c2, c3, c4, c5, c6, c7, c8] = some x) : ∃ H : Nat → Hl, #[c0, c1, c2, c3, c4, c5, c6, c7, c8] = hsA H := by
  obtain ⟨xs, k, _, _, _, hxl, hel⟩ := DataW.trod_array Try.underlying24 h
  match xs, hxl with
  | [y0, y1, y2], _ =>
    have g0 := hel 0 (by omega)
    simp [ce23] at g0
    obtain ⟨s0, e0⟩ := one_hl g0
    have g1 := hel 1 (by omega)
    simp [ce23] at g1
    obtain ⟨s1, e1⟩ := one_hl g1
    have g2 := hel 2 (by omega)
    simp [ce23] at g2
    obtain ⟨s2, e2⟩ := one_hl g2
    simp only [List.cons.injEq, and_true] at e0 e1 e2
    obtain ⟨rfl, rfl, rfl⟩ := e0
    obtain ⟨rfl, rfl, rfl⟩ := e1
    obtain ⟨rfl, rfl, rfl⟩ := e2
    exact ⟨fun i => match i with | 0 => s0 | 1 => s1 | _ => s2, rfl⟩
set_option maxRecDepth 100000 in
theorem three_rd {c0 c1 c2 c3 c4 c5 : Value} {x : DataW X × List MemPlace} (h : DataW.trod enc Try.prog W base spare held m 27 [c0, c1, c2, c3, c4, c5] = some x) : ∃ R : Nat → Rd, #[c0, c1, c2, c3, c4, c5] = rsA R ∧ ∀ i, In (R i).v := by
  obtain ⟨xs, k, _, _, _, hxl, hel⟩ := DataW.trod_array Try.underlying27 h
  match xs, hxl with
  | [y0, y1, y2], _ =>
    have g0 := hel 0 (by omega)
    simp [ce26] at g0
    obtain ⟨s0, e0, w0⟩ := one_rd g0
    have g1 := hel 1 (by omega)
    simp [ce26] at g1
    obtain ⟨s1, e1, w1⟩ := one_rd g1
    have g2 := hel 2 (by omega)
    simp [ce26] at g2
    obtain ⟨s2, e2, w2⟩ := one_rd g2
    simp only [List.cons.injEq, and_true] at e0 e1 e2
    obtain ⟨rfl, rfl⟩ := e0
    obtain ⟨rfl, rfl⟩ := e1
    obtain ⟨rfl, rfl⟩ := e2
    exact ⟨fun i => match i with | 0 => s0 | 1 => s1 | _ => s2, rfl, fun i => match i with | 0 => w0 | 1 => w1 | _ + 2 => w2⟩
set_option maxRecDepth 100000 in
theorem four_hl {c0 c1 c2 c3 c4 c5 c6 c7 c8 c9 c10 c11 c12 c13 c14 c15 c16 c17 c18 c19 c20 c21 c22 c23 c24 c25 c26 c27 c28 c29 c30 c31 c32 c33 c34 c35 : Value} {x : DataW X × List MemPlace} (h : DataW.trod enc Try.prog W base spare held m 35 [c0, c1, c2, c3, c4, c5, c6, c7, c8, c9, c10, c11, c12, c13, c14, c15, c16, c17, c18, c19, c20, c21, c22, c23, c24, c25, c26, c27, c28, c29, c30, c31, c32, c33, c34, c35] = some x) : ∃ H : Nat → Nat → Hl, #[c0, c1, c2, c3, c4, c5, c6, c7, c8, c9, c10, c11, c12, c13, c14, c15, c16, c17, c18, c19, c20, c21, c22, c23, c24, c25, c26, c27, c28, c29, c30, c31, c32, c33, c34, c35] = h36 H := by
  obtain ⟨xs, k, _, _, _, hxl, hel⟩ := DataW.trod_array Try.underlying35 h
  match xs, hxl with
  | [y0, y1, y2, y3], _ =>
    have g0 := hel 0 (by omega)
    simp [ce24] at g0
    obtain ⟨s0, e0⟩ := three_hl g0
    have g1 := hel 1 (by omega)
    simp [ce24] at g1
    obtain ⟨s1, e1⟩ := three_hl g1
    have g2 := hel 2 (by omega)
    simp [ce24] at g2
    obtain ⟨s2, e2⟩ := three_hl g2
    have g3 := hel 3 (by omega)
    simp [ce24] at g3
    obtain ⟨s3, e3⟩ := three_hl g3
    simp only [hsA, Array.mk.injEq, List.cons.injEq, and_true] at e0 e1 e2 e3
    obtain ⟨rfl, rfl, rfl, rfl, rfl, rfl, rfl, rfl, rfl⟩ := e0
    obtain ⟨rfl, rfl, rfl, rfl, rfl, rfl, rfl, rfl, rfl⟩ := e1
    obtain ⟨rfl, rfl, rfl, rfl, rfl, rfl, rfl, rfl, rfl⟩ := e2
    obtain ⟨rfl, rfl, rfl, rfl, rfl, rfl, rfl, rfl, rfl⟩ := e3
    exact ⟨fun i => match i with | 0 => s0 | 1 => s1 | 2 => s2 | _ => s3, rfl⟩
set_option maxRecDepth 100000 in
theorem four_rd {c0 c1 c2 c3 c4 c5 c6 c7 c8 c9 c10 c11 c12 c13 c14 c15 c16 c17 c18 c19 c20 c21 c22 c23 : Value} {x : DataW X × List MemPlace} (h : DataW.trod enc Try.prog W base spare held m 36 [c0, c1, c2, c3, c4, c5, c6, c7, c8, c9, c10, c11, c12, c13, c14, c15, c16, c17, c18, c19, c20, c21, c22, c23] = some x) : ∃ R : Nat → Nat → Rd, #[c0, c1, c2, c3, c4, c5, c6, c7, c8, c9, c10, c11, c12, c13, c14, c15, c16, c17, c18, c19, c20, c21, c22, c23] = r24 R ∧ ∀ i k, In (R i k).v := by
  obtain ⟨xs, k, _, _, _, hxl, hel⟩ := DataW.trod_array Try.underlying36 h
  match xs, hxl with
  | [y0, y1, y2, y3], _ =>
    have g0 := hel 0 (by omega)
    simp [ce27] at g0
    obtain ⟨s0, e0, w0⟩ := three_rd g0
    have g1 := hel 1 (by omega)
    simp [ce27] at g1
    obtain ⟨s1, e1, w1⟩ := three_rd g1
    have g2 := hel 2 (by omega)
    simp [ce27] at g2
    obtain ⟨s2, e2, w2⟩ := three_rd g2
    have g3 := hel 3 (by omega)
    simp [ce27] at g3
    obtain ⟨s3, e3, w3⟩ := three_rd g3
    simp only [rsA, Array.mk.injEq, List.cons.injEq, and_true] at e0 e1 e2 e3
    obtain ⟨rfl, rfl, rfl, rfl, rfl, rfl⟩ := e0
    obtain ⟨rfl, rfl, rfl, rfl, rfl, rfl⟩ := e1
    obtain ⟨rfl, rfl, rfl, rfl, rfl, rfl⟩ := e2
    obtain ⟨rfl, rfl, rfl, rfl, rfl, rfl⟩ := e3
    exact ⟨fun i => match i with | 0 => s0 | 1 => s1 | 2 => s2 | _ => s3, rfl, fun i => match i with | 0 => w0 | 1 => w1 | 2 => w2 | _ + 3 => w3⟩
set_option maxRecDepth 100000 in
theorem open_hs {v : Value} {d : DataW X} {p : List MemPlace} (hv : Value.okWide Try.prog W r b0 24 v) (h : DataW.Trod enc Try.prog W base spare held 24 v d p) : ∃ H : Nat → Hl, v = .agg (hsA H) := by
  obtain ⟨cs, rfl, hsz⟩ := okWide_array Try.underlying24 hv
  rw [ce24] at hsz
  obtain ⟨l⟩ := cs
  replace hsz : l.length = 9 := hsz
  rcases l with _ | ⟨c0, l⟩
  · simp at hsz
  rcases l with _ | ⟨c1, l⟩
  · simp at hsz
  rcases l with _ | ⟨c2, l⟩
  · simp at hsz
  rcases l with _ | ⟨c3, l⟩
  · simp at hsz
  rcases l with _ | ⟨c4, l⟩
  · simp at hsz
  rcases l with _ | ⟨c5, l⟩
  · simp at hsz
  rcases l with _ | ⟨c6, l⟩
  · simp at hsz
  rcases l with _ | ⟨c7, l⟩
  · simp at hsz
  rcases l with _ | ⟨c8, l⟩
  · simp at hsz
  rcases l with _ | ⟨cx, l⟩
  · obtain ⟨fuel, hf⟩ := h
    obtain ⟨H, e⟩ := three_hl hf
    exact ⟨H, by rw [← e]⟩
  · simp at hsz
set_option maxRecDepth 100000 in
theorem open_rs {v : Value} {d : DataW X} {p : List MemPlace} (hv : Value.okWide Try.prog W r b0 27 v) (h : DataW.Trod enc Try.prog W base spare held 27 v d p) : ∃ R : Nat → Rd, v = .agg (rsA R) ∧ ∀ i, In (R i).v := by
  obtain ⟨cs, rfl, hsz⟩ := okWide_array Try.underlying27 hv
  rw [ce27] at hsz
  obtain ⟨l⟩ := cs
  replace hsz : l.length = 6 := hsz
  rcases l with _ | ⟨c0, l⟩
  · simp at hsz
  rcases l with _ | ⟨c1, l⟩
  · simp at hsz
  rcases l with _ | ⟨c2, l⟩
  · simp at hsz
  rcases l with _ | ⟨c3, l⟩
  · simp at hsz
  rcases l with _ | ⟨c4, l⟩
  · simp at hsz
  rcases l with _ | ⟨c5, l⟩
  · simp at hsz
  rcases l with _ | ⟨cx, l⟩
  · obtain ⟨fuel, hf⟩ := h
    obtain ⟨H, e, w⟩ := three_rd hf
    exact ⟨H, by rw [← e], w⟩
  · simp at hsz
set_option maxRecDepth 100000 in
theorem open_hss {v : Value} {d : DataW X} {p : List MemPlace} (hv : Value.okWide Try.prog W r b0 35 v) (h : DataW.Trod enc Try.prog W base spare held 35 v d p) : ∃ H : Nat → Nat → Hl, v = .agg (h36 H) := by
  obtain ⟨cs, rfl, hsz⟩ := okWide_array Try.underlying35 hv
  rw [ce35] at hsz
  obtain ⟨l⟩ := cs
  replace hsz : l.length = 36 := hsz
  rcases l with _ | ⟨c0, l⟩
  · simp at hsz
  rcases l with _ | ⟨c1, l⟩
  · simp at hsz
  rcases l with _ | ⟨c2, l⟩
  · simp at hsz
  rcases l with _ | ⟨c3, l⟩
  · simp at hsz
  rcases l with _ | ⟨c4, l⟩
  · simp at hsz
  rcases l with _ | ⟨c5, l⟩
  · simp at hsz
  rcases l with _ | ⟨c6, l⟩
  · simp at hsz
  rcases l with _ | ⟨c7, l⟩
  · simp at hsz
  rcases l with _ | ⟨c8, l⟩
  · simp at hsz
  rcases l with _ | ⟨c9, l⟩
  · simp at hsz
  rcases l with _ | ⟨c10, l⟩
  · simp at hsz
  rcases l with _ | ⟨c11, l⟩
  · simp at hsz
  rcases l with _ | ⟨c12, l⟩
  · simp at hsz
  rcases l with _ | ⟨c13, l⟩
  · simp at hsz
  rcases l with _ | ⟨c14, l⟩
  · simp at hsz
  rcases l with _ | ⟨c15, l⟩
  · simp at hsz
  rcases l with _ | ⟨c16, l⟩
  · simp at hsz
  rcases l with _ | ⟨c17, l⟩
  · simp at hsz
  rcases l with _ | ⟨c18, l⟩
  · simp at hsz
  rcases l with _ | ⟨c19, l⟩
  · simp at hsz
  rcases l with _ | ⟨c20, l⟩
  · simp at hsz
  rcases l with _ | ⟨c21, l⟩
  · simp at hsz
  rcases l with _ | ⟨c22, l⟩
  · simp at hsz
  rcases l with _ | ⟨c23, l⟩
  · simp at hsz
  rcases l with _ | ⟨c24, l⟩
  · simp at hsz
  rcases l with _ | ⟨c25, l⟩
  · simp at hsz
  rcases l with _ | ⟨c26, l⟩
  · simp at hsz
  rcases l with _ | ⟨c27, l⟩
  · simp at hsz
  rcases l with _ | ⟨c28, l⟩
  · simp at hsz
  rcases l with _ | ⟨c29, l⟩
  · simp at hsz
  rcases l with _ | ⟨c30, l⟩
  · simp at hsz
  rcases l with _ | ⟨c31, l⟩
  · simp at hsz
  rcases l with _ | ⟨c32, l⟩
  · simp at hsz
  rcases l with _ | ⟨c33, l⟩
  · simp at hsz
  rcases l with _ | ⟨c34, l⟩
  · simp at hsz
  rcases l with _ | ⟨c35, l⟩
  · simp at hsz
  rcases l with _ | ⟨cx, l⟩
  · obtain ⟨fuel, hf⟩ := h
    obtain ⟨H, e⟩ := four_hl hf
    exact ⟨H, by rw [← e]⟩
  · simp at hsz
set_option maxRecDepth 100000 in
theorem open_rss {v : Value} {d : DataW X} {p : List MemPlace} (hv : Value.okWide Try.prog W r b0 36 v) (h : DataW.Trod enc Try.prog W base spare held 36 v d p) : ∃ R : Nat → Nat → Rd, v = .agg (r24 R) ∧ ∀ i k, In (R i k).v := by
  obtain ⟨cs, rfl, hsz⟩ := okWide_array Try.underlying36 hv
  rw [ce36] at hsz
  obtain ⟨l⟩ := cs
  replace hsz : l.length = 24 := hsz
  rcases l with _ | ⟨c0, l⟩
  · simp at hsz
  rcases l with _ | ⟨c1, l⟩
  · simp at hsz
  rcases l with _ | ⟨c2, l⟩
  · simp at hsz
  rcases l with _ | ⟨c3, l⟩
  · simp at hsz
  rcases l with _ | ⟨c4, l⟩
  · simp at hsz
  rcases l with _ | ⟨c5, l⟩
  · simp at hsz
  rcases l with _ | ⟨c6, l⟩
  · simp at hsz
  rcases l with _ | ⟨c7, l⟩
  · simp at hsz
  rcases l with _ | ⟨c8, l⟩
  · simp at hsz
  rcases l with _ | ⟨c9, l⟩
  · simp at hsz
  rcases l with _ | ⟨c10, l⟩
  · simp at hsz
  rcases l with _ | ⟨c11, l⟩
  · simp at hsz
  rcases l with _ | ⟨c12, l⟩
  · simp at hsz
  rcases l with _ | ⟨c13, l⟩
  · simp at hsz
  rcases l with _ | ⟨c14, l⟩
  · simp at hsz
  rcases l with _ | ⟨c15, l⟩
  · simp at hsz
  rcases l with _ | ⟨c16, l⟩
  · simp at hsz
  rcases l with _ | ⟨c17, l⟩
  · simp at hsz
  rcases l with _ | ⟨c18, l⟩
  · simp at hsz
  rcases l with _ | ⟨c19, l⟩
  · simp at hsz
  rcases l with _ | ⟨c20, l⟩
  · simp at hsz
  rcases l with _ | ⟨c21, l⟩
  · simp at hsz
  rcases l with _ | ⟨c22, l⟩
  · simp at hsz
  rcases l with _ | ⟨c23, l⟩
  · simp at hsz
  rcases l with _ | ⟨cx, l⟩
  · obtain ⟨fuel, hf⟩ := h
    obtain ⟨H, e, w⟩ := four_rd hf
    exact ⟨H, by rw [← e], w⟩
  · simp at hsz
set_option maxRecDepth 100000 in
theorem open_rd {v : Value} {d : DataW X} {p : List MemPlace} (hv : Value.okWide Try.prog W r b0 26 v) (h : DataW.Trod enc Try.prog W base spare held 26 v d p) : ∃ R : Rd, v = rv R ∧ In R.v := by
  obtain ⟨cs, rfl, hsz⟩ := okWide_struct Try.underlying26 hv
  rw [ce26] at hsz
  obtain ⟨l⟩ := cs
  match l, hsz with
  | [c0, c1], _ =>
    obtain ⟨fuel, hf⟩ := h
    obtain ⟨s, e, w⟩ := one_rd hf
    simp only [List.cons.injEq, and_true] at e
    obtain ⟨rfl, rfl⟩ := e
    exact ⟨s, rfl, w⟩
end

end Go.Proofs.Ytafifglfbebhaaa.Vote
