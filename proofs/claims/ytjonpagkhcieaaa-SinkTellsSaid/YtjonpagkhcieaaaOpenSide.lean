/- Arguments: a signal, its values written out; a slice of int8 numbers: what its reading says of memory. -/
import Derived.Test.YtjonpagkhcieaaaBandRow
import Derived.Test.YtjonpagkhcieaaaSby
import Derived.OpenShut
import Derived.Lib.SmallJoins
import Derived.Deep.Strs
import Derived.Laws.IdiomArrays
import Derived.Deep.Slices
import Derived.Laws.Rows
namespace Go.Proofs.Ytjonpagkhcieaaa.Sd
open Go.ChangeShapes Go.WideShapes Go.ChangeAt Go.RowKit Num Mem Band

section
variable {X : Type} {enc : TypeId × Value → X} {W : World} {base b0 : Nat} {spare : Nat → Bool} {held : Bool} {r : Reach} {m : Nat}
theorem ce_bool : Try.prog.cellsOf 4 = 1 := by kernel_rfl
theorem ce_int64 : Try.prog.cellsOf 2 = 1 := by kernel_rfl
theorem ce_int : Try.prog.cellsOf 3 = 1 := by kernel_rfl
theorem ce_api_Voted : Try.prog.cellsOf 23 = 3 := by kernel_rfl
set_option maxRecDepth 100000 in
set_option maxHeartbeats 2000000 in
theorem at_api_Voted {c0 c1 c2 : Value} {x : DataW X × List MemPlace} (h : DataW.trod enc Try.prog W base spare held m 23 [c0, c1, c2] = some x) : ∃ (a0 : Bool) (a1 : Int) (a2 : Int), [c0, c1, c2] = [.bool a0, .int .i64 a1, .int .i64 a2] ∧ In a1 ∧ In a2 := by
  obtain ⟨xs, k, _, _, _, hxl, hel⟩ := DataW.trod_struct Try.underlying23 h
  match xs, hxl with
  | [y0, y1, y2], _ =>
    have g0 : DataW.trod enc Try.prog W base spare held k 4 ((([c0, c1, c2] : List Value).drop 0).take (Try.prog.cellsOf 4)) = some y0 := hel 0 _ rfl
    rw [ce_bool] at g0
    replace g0 : DataW.trod enc Try.prog W base spare held k 4 [c0] = some y0 := g0
    obtain ⟨a0, e0, _⟩ := DataW.trod_bool Try.underlying4 g0
    have g1 : DataW.trod enc Try.prog W base spare held k 2 ((([c0, c1, c2] : List Value).drop 1).take (Try.prog.cellsOf 2)) = some y1 := hel 1 _ rfl
    rw [ce_int64] at g1
    replace g1 : DataW.trod enc Try.prog W base spare held k 2 [c1] = some y1 := g1
    obtain ⟨a1, e1, _, w1⟩ := DataW.trod_int Try.underlying2 g1
    replace w1 : In a1 := In_wf w1
    have g2 : DataW.trod enc Try.prog W base spare held k 3 ((([c0, c1, c2] : List Value).drop 2).take (Try.prog.cellsOf 3)) = some y2 := hel 2 _ rfl
    rw [ce_int] at g2
    replace g2 : DataW.trod enc Try.prog W base spare held k 3 [c2] = some y2 := g2
    obtain ⟨a2, e2, _, w2⟩ := DataW.trod_int Try.underlying3 g2
    replace w2 : In a2 := In_wf w2
    exact ⟨a0, a1, a2, (show ([c0, c1, c2] : List Value) = (([c0] : List Value) ++ (([c1] : List Value) ++ ([c2] : List Value))) from rfl).trans (by rw [e0, e1, e2]; rfl), w1, w2⟩
set_option maxRecDepth 100000 in
set_option maxHeartbeats 2000000 in
theorem open_vt {v : Value} {d : DataW X} {p : List MemPlace} (hv : Value.okWide Try.prog W r b0 23 v) (h : DataW.Trod enc Try.prog W base spare held 23 v d p) : ∃ V : Vt, v = .agg (vtA V) ∧ In V.v := by
  obtain ⟨cs, rfl, hsz⟩ := okWide_struct Try.underlying23 hv
  rw [ce_api_Voted] at hsz
  obtain ⟨l⟩ := cs
  replace hsz : l.length = 3 := hsz
  rcases l with _ | ⟨c0, l⟩
  · simp at hsz
  rcases l with _ | ⟨c1, l⟩
  · simp at hsz
  rcases l with _ | ⟨c2, l⟩
  · simp at hsz
  rcases l with _ | ⟨cx, l⟩
  · obtain ⟨fuel, hf⟩ := h
    obtain ⟨a0, a1, a2, e, w1, w2⟩ := at_api_Voted hf
    exact ⟨⟨a0, a1, a2⟩, congrArg (fun l => Value.agg ⟨l⟩) e, w1⟩
  · simp at hsz

end

theorem open_sby {H : Type} {enc : TypeId × Value → H} {P : Program} {W : World} {held : Bool} {t e : TypeId} {A : Option Addr} {n c : Nat} {d : DataW H} {p : List MemPlace}
    (ht : P.underlying t = some (.slice e)) (he : P.underlying e = some (.int .i8)) (ce : P.cellsOf e = 1)
    (h : DataW.Trod enc P W 0 (fun _ => true) held t (.slice A n c) d p) : ∃ L : Nat → Int, n ≤ maxLen ∧ (A = none → n = 0 ∧ c = 0) ∧ (∀ i, i < n → -128 ≤ L i ∧ L i ≤ 127) ∧ Sby W W.heap.size A n L := by
  obtain ⟨fuel, hf⟩ := h
  rcases Go.Deep.open_slice ht hf with ⟨hcs, _⟩ | ⟨a, len, cap, m, k, D, Pl, hcs, _, hl, hm, hmm, _, hx⟩
  · simp [Value.cells] at hcs
    obtain ⟨rfl, rfl, rfl⟩ := hcs
    exact ⟨fun _ => 0, by unfold maxLen; omega, fun _ => ⟨rfl, rfl⟩, fun i h => by omega, fun h => by omega⟩
  · simp [Value.cells] at hcs
    obtain ⟨rfl, rfl, rfl⟩ := hcs
    simp only [if_true] at hmm
    subst hmm
    rw [ce] at hx
    have each : ∀ j, j < m → ∃ q : Int, (-128 ≤ q ∧ q ≤ 127) ∧ W.cell? (a.add (j * 1)) = some (.int .i8 q) := by
      intro j hj
      obtain ⟨cs', h1, h2⟩ := hx j hj
      obtain ⟨_, hlen, hcell⟩ := World.cells?_some h1
      match cs', hlen with
      | [v0], _ =>
        obtain ⟨z0, e0, _, u0⟩ := DataW.trod_int he h2
        simp only [List.cons.injEq, and_true] at e0
        subst e0
        have c0 := hcell 0 (by omega)
        rw [Go.Deep.add_add] at c0
        exact ⟨z0, bounds_i8 u0, by simpa using c0⟩
    obtain ⟨q, hq⟩ := Go.Deep.choose_lt each
    refine ⟨q, by omega, fun h => by simp at h, fun i hi => (hq i (by omega)).1, fun hn => ?_⟩
    have hq' := fun j hj => (hq j hj).2
    clear hq
    obtain ⟨b, off, spot⟩ := a
    have h0 := hq' 0 (by omega)
    have hs : spot = none := by simpa [Addr.add] using World.cell?_spot h0
    subst hs
    have hadd : ∀ j : Nat, ((⟨b, off, none⟩ : Addr).add j) = ⟨b, off + j, none⟩ := by intro j; unfold Addr.add; split <;> simp_all
    simp only [hadd, Nat.mul_one] at hq' h0
    exact ⟨b, off, rfl, block_lt_of_cell h0, fun j hj => hq' j (by omega)⟩

end Go.Proofs.Ytjonpagkhcieaaa.Sd
