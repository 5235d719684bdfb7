/- Arguments: a command, three of them, three bools, three times three bools: their values written out. -/
import Derived.Test.YtdjemiimnpkfnaaLanesRow
import Derived.OpenShut
import Derived.Lib.SmallJoins
import Derived.Deep.Strs
import Derived.Laws.IdiomArrays
namespace Go.Proofs.Ytdjemiimnpkfnaa.Lanes
open Go.ChangeShapes Go.WideShapes Go.ChangeAt Go.RowKit Num Mid

theorem okWide_array {P : Program} {W : World} {r : Reach} {b0 n : Nat} {t e : TypeId} {v : Value} (ht : P.underlying t = some (.array n e)) (h : Value.okWide P W r b0 t v) : ∃ cs, v = .agg cs ∧ cs.size = P.cellsOf t := by
  simp only [Value.okWide, ht] at h
  obtain ⟨cs, h1, h2, _⟩ := h
  exact ⟨cs, h1, h2⟩
theorem ceI : Try.prog.cellsOf 2 = 1 := by kernel_rfl
theorem ceB : Try.prog.cellsOf 4 = 1 := by kernel_rfl
theorem ceC : Try.prog.cellsOf 23 = 3 := by kernel_rfl
theorem ceC3 : Try.prog.cellsOf 24 = 9 := by kernel_rfl
theorem ceB3 : Try.prog.cellsOf 25 = 3 := by kernel_rfl

section
variable {X : Type} {enc : TypeId × Value → X} {W : World} {base b0 : Nat} {spare : Nat → Bool} {held : Bool} {r : Reach} {m : Nat}

set_option maxRecDepth 100000 in
theorem one_cm {c0 c1 c2 : Value} {x : DataW X × List MemPlace} (h : DataW.trod enc Try.prog W base spare held m 23 [c0, c1, c2] = some x) : ∃ s : Nat → Int, #[c0, c1, c2] = cA s ∧ ∀ j, In (s j) := by
  obtain ⟨y0, y1, y2, n, _, _, h0, h1, h2⟩ := Go.Deep.trod_struct3 Try.underlying23 h
  simp only [ceI, List.drop_zero, List.drop_succ_cons, List.take_succ_cons, List.take_zero] at h0 h1 h2
  obtain ⟨a, e0, _, wa⟩ := DataW.trod_int Try.underlying2 h0
  obtain ⟨b, e1, _, wb⟩ := DataW.trod_int Try.underlying2 h1
  obtain ⟨c, e2, _, wc⟩ := DataW.trod_int Try.underlying2 h2
  simp only [List.cons.injEq, and_true] at e0 e1 e2
  subst e0 e1 e2
  exact ⟨fun i => match i with | 0 => a | 1 => b | _ => c, rfl, fun i => match i with | 0 => In_wf wa | 1 => In_wf wb | _ + 2 => In_wf wc⟩
set_option maxRecDepth 100000 in
theorem one_b3 {c0 c1 c2 : Value} {x : DataW X × List MemPlace} (h : DataW.trod enc Try.prog W base spare held m 25 [c0, c1, c2] = some x) : ∃ s : Nat → Bool, #[c0, c1, c2] = b3A s := by
  obtain ⟨z0, z1, z2, n0, _, t0, t1, t2⟩ := trod_array3 Try.underlying25 ceB h
  obtain ⟨a, e0, _⟩ := DataW.trod_bool Try.underlying4 t0
  obtain ⟨b, e1, _⟩ := DataW.trod_bool Try.underlying4 t1
  obtain ⟨c, e2, _⟩ := DataW.trod_bool Try.underlying4 t2
  simp only [List.cons.injEq, and_true] at e0 e1 e2
  subst e0 e1 e2
  exact ⟨fun i => match i with | 0 => a | 1 => b | _ => c, rfl⟩
set_option maxRecDepth 100000 in
theorem three_cm {c0 c1 c2 c3 c4 c5 c6 c7 c8 : Value} {x : DataW X × List MemPlace} (h : DataW.trod enc Try.prog W base spare held m 24 [c0, c1, c2, c3, c4, c5, c6, c7, c8] = some x) : ∃ Y : Nat → Nat → Int, #[c0, c1, c2, c3, c4, c5, c6, c7, c8] = c9 Y ∧ ∀ i j, In (Y i j) := by
  obtain ⟨xs, k, _, _, _, hxl, hel⟩ := DataW.trod_array Try.underlying24 h
  match xs, hxl with
  | [y0, y1, y2], _ =>
    have g0 := hel 0 (by omega)
    simp [ceC] at g0
    obtain ⟨s0, e0, w0⟩ := one_cm g0
    have g1 := hel 1 (by omega)
    simp [ceC] at g1
    obtain ⟨s1, e1, w1⟩ := one_cm g1
    have g2 := hel 2 (by omega)
    simp [ceC] at g2
    obtain ⟨s2, e2, w2⟩ := one_cm g2
    simp only [cA, Array.mk.injEq, List.cons.injEq, and_true] at e0 e1 e2
    obtain ⟨rfl, rfl, rfl⟩ := e0
    obtain ⟨rfl, rfl, rfl⟩ := e1
    obtain ⟨rfl, rfl, rfl⟩ := e2
    exact ⟨fun i => match i with | 0 => s0 | 1 => s1 | _ => s2, rfl, fun i => match i with | 0 => w0 | 1 => w1 | _ + 2 => w2⟩
set_option maxRecDepth 100000 in
theorem open_cm {v : Value} {d : DataW X} {p : List MemPlace} (hv : Value.okWide Try.prog W r b0 23 v) (h : DataW.Trod enc Try.prog W base spare held 23 v d p) : ∃ Y : Nat → Int, v = .agg (cA Y) ∧ ∀ j, In (Y j) := by
  obtain ⟨cs, rfl, hsz⟩ := okWide_struct Try.underlying23 hv
  rw [ceC] at hsz
  obtain ⟨l⟩ := cs
  replace hsz : l.length = 3 := hsz
  rcases l with _ | ⟨c0, l⟩
  · simp at hsz
  rcases l with _ | ⟨c1, l⟩
  · simp at hsz
  rcases l with _ | ⟨c2, l⟩
  · simp at hsz
  rcases l with _ | ⟨cx, l⟩
  · obtain ⟨fuel, hf⟩ := h
    obtain ⟨H, e, w⟩ := one_cm hf
    exact ⟨H, by rw [← e], w⟩
  · simp at hsz
set_option maxRecDepth 100000 in
theorem open_c9 {v : Value} {d : DataW X} {p : List MemPlace} (hv : Value.okWide Try.prog W r b0 24 v) (h : DataW.Trod enc Try.prog W base spare held 24 v d p) : ∃ Y : Nat → Nat → Int, v = .agg (c9 Y) ∧ ∀ i j, In (Y i j) := by
  obtain ⟨cs, rfl, hsz⟩ := okWide_array Try.underlying24 hv
  rw [ceC3] at hsz
  obtain ⟨l⟩ := cs
  replace hsz : l.length = 9 := hsz
  rcases l with _ | ⟨c0, l⟩
  · simp at hsz
  rcases l with _ | ⟨c1, l⟩
  · simp at hsz
  rcases l with _ | ⟨c2, l⟩
  · simp at hsz
  rcases l with _ | ⟨c3, l⟩
  · simp at hsz
  rcases l with _ | ⟨c4, l⟩
  · simp at hsz
  rcases l with _ | ⟨c5, l⟩
  · simp at hsz
  rcases l with _ | ⟨c6, l⟩
  · simp at hsz
  rcases l with _ | ⟨c7, l⟩
  · simp at hsz
  rcases l with _ | ⟨c8, l⟩
  · simp at hsz
  rcases l with _ | ⟨cx, l⟩
  · obtain ⟨fuel, hf⟩ := h
    obtain ⟨H, e, w⟩ := three_cm hf
    exact ⟨H, by rw [← e], w⟩
  · simp at hsz
set_option maxRecDepth 100000 in
theorem open_b3 {v : Value} {d : DataW X} {p : List MemPlace} (hv : Value.okWide Try.prog W r b0 25 v) (h : DataW.Trod enc Try.prog W base spare held 25 v d p) : ∃ Y : Nat → Bool, v = .agg (b3A Y) := by
  obtain ⟨cs, rfl, hsz⟩ := okWide_array Try.underlying25 hv
  rw [ceB3] at hsz
  obtain ⟨l⟩ := cs
  replace hsz : l.length = 3 := hsz
  rcases l with _ | ⟨c0, l⟩
  · simp at hsz
  rcases l with _ | ⟨c1, l⟩
  · simp at hsz
  rcases l with _ | ⟨c2, l⟩
  · simp at hsz
  rcases l with _ | ⟨cx, l⟩
  · obtain ⟨fuel, hf⟩ := h
    obtain ⟨H, e⟩ := one_b3 hf
    exact ⟨H, by rw [← e]⟩
  · simp at hsz

abbrev b9A (H : Nat → Nat → Bool) : Array Value := #[.bool (H 0 0), .bool (H 0 1), .bool (H 0 2), .bool (H 1 0), .bool (H 1 1), .bool (H 1 2), .bool (H 2 0), .bool (H 2 1), .bool (H 2 2)]
theorem ceB9 : Try.prog.cellsOf 35 = 9 := by kernel_rfl
set_option maxRecDepth 100000 in
theorem three_b3 {c0 c1 c2 c3 c4 c5 c6 c7 c8 : Value} {x : DataW X × List MemPlace} (h : DataW.trod enc Try.prog W base spare held m 35 [c0, c1, c2, c3, c4, c5, c6, c7, c8] = some x) : ∃ Y : Nat → Nat → Bool, #[c0, c1, c2, c3, c4, c5, c6, c7, c8] = b9A Y := by
  obtain ⟨xs, k, _, _, _, hxl, hel⟩ := DataW.trod_array Try.underlying35 h
  match xs, hxl with
  | [y0, y1, y2], _ =>
    have g0 := hel 0 (by omega)
    simp [ceB3] at g0
    obtain ⟨s0, e0⟩ := one_b3 g0
    have g1 := hel 1 (by omega)
    simp [ceB3] at g1
    obtain ⟨s1, e1⟩ := one_b3 g1
    have g2 := hel 2 (by omega)
    simp [ceB3] at g2
    obtain ⟨s2, e2⟩ := one_b3 g2
    simp only [b3A, Array.mk.injEq, List.cons.injEq, and_true] at e0 e1 e2
    obtain ⟨rfl, rfl, rfl⟩ := e0
    obtain ⟨rfl, rfl, rfl⟩ := e1
    obtain ⟨rfl, rfl, rfl⟩ := e2
    exact ⟨fun i => match i with | 0 => s0 | 1 => s1 | _ => s2, rfl⟩
set_option maxRecDepth 100000 in
theorem open_b9 {v : Value} {d : DataW X} {p : List MemPlace} (hv : Value.okWide Try.prog W r b0 35 v) (h : DataW.Trod enc Try.prog W base spare held 35 v d p) : ∃ Y : Nat → Nat → Bool, v = .agg (b9A Y) := by
  obtain ⟨cs, rfl, hsz⟩ := okWide_array Try.underlying35 hv
  rw [ceB9] at hsz
  obtain ⟨l⟩ := cs
  replace hsz : l.length = 9 := hsz
  rcases l with _ | ⟨c0, l⟩
  · simp at hsz
  rcases l with _ | ⟨c1, l⟩
  · simp at hsz
  rcases l with _ | ⟨c2, l⟩
  · simp at hsz
  rcases l with _ | ⟨c3, l⟩
  · simp at hsz
  rcases l with _ | ⟨c4, l⟩
  · simp at hsz
  rcases l with _ | ⟨c5, l⟩
  · simp at hsz
  rcases l with _ | ⟨c6, l⟩
  · simp at hsz
  rcases l with _ | ⟨c7, l⟩
  · simp at hsz
  rcases l with _ | ⟨c8, l⟩
  · simp at hsz
  rcases l with _ | ⟨cx, l⟩
  · obtain ⟨fuel, hf⟩ := h
    obtain ⟨H, e⟩ := three_b3 hf
    exact ⟨H, by rw [← e]⟩
  · simp at hsz

end

end Go.Proofs.Ytdjemiimnpkfnaa.Lanes
