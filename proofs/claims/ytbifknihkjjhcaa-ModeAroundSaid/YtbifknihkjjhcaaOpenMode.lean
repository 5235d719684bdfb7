/- Arguments: a state, what the modes are told, their values written out; a slice of the latter: what its reading says of memory, and its reach. -/
import Derived.Test.YtbifknihkjjhcaaModeSes
import Derived.SizedLaws
import Derived.Deep.Slices
import Derived.OpenShut
import Derived.Lib.SmallJoins
import Derived.Deep.Strs
import Derived.Laws.IdiomArrays
namespace Go.Proofs.Ytbifknihkjjhcaa.Md
open Go.ChangeShapes Go.WideShapes Go.ChangeAt Go.RowKit Go.Joins Go.Deep Go.WideElems Num Mem Band

theorem okWide_array {P : Program} {W : World} {r : Reach} {b0 n : Nat} {t e : TypeId} {v : Value} (ht : P.underlying t = some (.array n e)) (h : Value.okWide P W r b0 t v) : ∃ cs, v = .agg cs ∧ cs.size = P.cellsOf t := by
  simp only [Value.okWide, ht] at h
  obtain ⟨cs, h1, h2, _⟩ := h
  exact ⟨cs, h1, h2⟩

section
variable {X : Type} {enc : TypeId × Value → X} {W : World} {base b0 : Nat} {spare : Nat → Bool} {held : Bool} {r : Reach} {m : Nat}

theorem ce_uint8 : Try.prog.cellsOf 5 = 1 := by kernel_rfl

theorem ce_bool : Try.prog.cellsOf 4 = 1 := by kernel_rfl

theorem ce_api_State : Try.prog.cellsOf 23 = 2 := by kernel_rfl
set_option maxRecDepth 100000 in
set_option maxHeartbeats 2000000 in
theorem at_api_State {c0 c1 : Value} {x : DataW X × List MemPlace} (h : DataW.trod enc Try.prog W base spare held m 23 [c0, c1] = some x) : ∃ (a0 : Int) (a1 : Bool), [c0, c1] = [.int .u8 a0, .bool a1] ∧ (0 ≤ a0 ∧ a0 < 256) := by
  obtain ⟨xs, k, _, _, _, hxl, hel⟩ := DataW.trod_struct Try.underlying23 h
  match xs, hxl with
  | [y0, y1], _ =>
    have g0 : DataW.trod enc Try.prog W base spare held k 5 ((([c0, c1] : List Value).drop 0).take (Try.prog.cellsOf 5)) = some y0 := hel 0 _ rfl
    rw [ce_uint8] at g0
    replace g0 : DataW.trod enc Try.prog W base spare held k 5 [c0] = some y0 := g0
    obtain ⟨a0, e0, _, w0⟩ := DataW.trod_int Try.underlying5 g0
    replace w0 : (0 ≤ a0 ∧ a0 < 256) := ⟨(bounds_u8 w0).1, by have := (bounds_u8 w0).2; omega⟩
    have g1 : DataW.trod enc Try.prog W base spare held k 4 ((([c0, c1] : List Value).drop 1).take (Try.prog.cellsOf 4)) = some y1 := hel 1 _ rfl
    rw [ce_bool] at g1
    replace g1 : DataW.trod enc Try.prog W base spare held k 4 [c1] = some y1 := g1
    obtain ⟨a1, e1, _⟩ := DataW.trod_bool Try.underlying4 g1
    exact ⟨a0, a1, (show ([c0, c1] : List Value) = (([c0] : List Value) ++ ([c1] : List Value)) from rfl).trans (by rw [e0, e1]; rfl), w0⟩

set_option maxRecDepth 100000 in
set_option maxHeartbeats 2000000 in
theorem open_st {v : Value} {d : DataW X} {p : List MemPlace} (hv : Value.okWide Try.prog W r b0 23 v) (h : DataW.Trod enc Try.prog W base spare held 23 v d p) : ∃ s : St, v = .agg (stA s) ∧ 0 ≤ s.m := by
  obtain ⟨cs, rfl, hsz⟩ := okWide_struct Try.underlying23 hv
  rw [ce_api_State] at hsz
  obtain ⟨l⟩ := cs
  replace hsz : l.length = 2 := hsz
  rcases l with _ | ⟨c0, l⟩
  · simp at hsz
  rcases l with _ | ⟨c1, l⟩
  · simp at hsz
  rcases l with _ | ⟨cx, l⟩
  · obtain ⟨fuel, hf⟩ := h
    obtain ⟨a0, a1, e, w0⟩ := at_api_State hf
    exact ⟨⟨a0, a1⟩, congrArg (fun l => Value.agg ⟨l⟩) e, w0.1⟩
  · simp at hsz

theorem ce_api_Sense : Try.prog.cellsOf 25 = 7 := by kernel_rfl
set_option maxRecDepth 100000 in
set_option maxHeartbeats 2000000 in
theorem at_api_Sense {c0 c1 c2 c3 c4 c5 c6 : Value} {x : DataW X × List MemPlace} (h : DataW.trod enc Try.prog W base spare held m 25 [c0, c1, c2, c3, c4, c5, c6] = some x) : ∃ (a0 : Int) (a1 : Bool) (a2 : Bool) (a3 : Bool) (a4 : Int) (a5 : Int) (a6 : Bool), [c0, c1, c2, c3, c4, c5, c6] = [.int .u8 a0, .bool a1, .bool a2, .bool a3, .int .u8 a4, .int .u8 a5, .bool a6] ∧ (0 ≤ a0 ∧ a0 < 256) ∧ (0 ≤ a4 ∧ a4 < 256) ∧ (0 ≤ a5 ∧ a5 < 256) := by
  obtain ⟨xs, k, _, _, _, hxl, hel⟩ := DataW.trod_struct Try.underlying25 h
  match xs, hxl with
  | [y0, y1, y2, y3, y4, y5, y6], _ =>
    have g0 : DataW.trod enc Try.prog W base spare held k 5 ((([c0, c1, c2, c3, c4, c5, c6] : List Value).drop 0).take (Try.prog.cellsOf 5)) = some y0 := hel 0 _ rfl
    rw [ce_uint8] at g0
    replace g0 : DataW.trod enc Try.prog W base spare held k 5 [c0] = some y0 := g0
    obtain ⟨a0, e0, _, w0⟩ := DataW.trod_int Try.underlying5 g0
    replace w0 : (0 ≤ a0 ∧ a0 < 256) := ⟨(bounds_u8 w0).1, by have := (bounds_u8 w0).2; omega⟩
    have g1 : DataW.trod enc Try.prog W base spare held k 4 ((([c0, c1, c2, c3, c4, c5, c6] : List Value).drop 1).take (Try.prog.cellsOf 4)) = some y1 := hel 1 _ rfl
    rw [ce_bool] at g1
    replace g1 : DataW.trod enc Try.prog W base spare held k 4 [c1] = some y1 := g1
    obtain ⟨a1, e1, _⟩ := DataW.trod_bool Try.underlying4 g1
    have g2 : DataW.trod enc Try.prog W base spare held k 4 ((([c0, c1, c2, c3, c4, c5, c6] : List Value).drop 2).take (Try.prog.cellsOf 4)) = some y2 := hel 2 _ rfl
    rw [ce_bool] at g2
    replace g2 : DataW.trod enc Try.prog W base spare held k 4 [c2] = some y2 := g2
    obtain ⟨a2, e2, _⟩ := DataW.trod_bool Try.underlying4 g2
    have g3 : DataW.trod enc Try.prog W base spare held k 4 ((([c0, c1, c2, c3, c4, c5, c6] : List Value).drop 3).take (Try.prog.cellsOf 4)) = some y3 := hel 3 _ rfl
    rw [ce_bool] at g3
    replace g3 : DataW.trod enc Try.prog W base spare held k 4 [c3] = some y3 := g3
    obtain ⟨a3, e3, _⟩ := DataW.trod_bool Try.underlying4 g3
    have g4 : DataW.trod enc Try.prog W base spare held k 5 ((([c0, c1, c2, c3, c4, c5, c6] : List Value).drop 4).take (Try.prog.cellsOf 5)) = some y4 := hel 4 _ rfl
    rw [ce_uint8] at g4
    replace g4 : DataW.trod enc Try.prog W base spare held k 5 [c4] = some y4 := g4
    obtain ⟨a4, e4, _, w4⟩ := DataW.trod_int Try.underlying5 g4
    replace w4 : (0 ≤ a4 ∧ a4 < 256) := ⟨(bounds_u8 w4).1, by have := (bounds_u8 w4).2; omega⟩
    have g5 : DataW.trod enc Try.prog W base spare held k 5 ((([c0, c1, c2, c3, c4, c5, c6] : List Value).drop 5).take (Try.prog.cellsOf 5)) = some y5 := hel 5 _ rfl
    rw [ce_uint8] at g5
    replace g5 : DataW.trod enc Try.prog W base spare held k 5 [c5] = some y5 := g5
    obtain ⟨a5, e5, _, w5⟩ := DataW.trod_int Try.underlying5 g5
    replace w5 : (0 ≤ a5 ∧ a5 < 256) := ⟨(bounds_u8 w5).1, by have := (bounds_u8 w5).2; omega⟩
    have g6 : DataW.trod enc Try.prog W base spare held k 4 ((([c0, c1, c2, c3, c4, c5, c6] : List Value).drop 6).take (Try.prog.cellsOf 4)) = some y6 := hel 6 _ rfl
    rw [ce_bool] at g6
    replace g6 : DataW.trod enc Try.prog W base spare held k 4 [c6] = some y6 := g6
    obtain ⟨a6, e6, _⟩ := DataW.trod_bool Try.underlying4 g6
    exact ⟨a0, a1, a2, a3, a4, a5, a6, (show ([c0, c1, c2, c3, c4, c5, c6] : List Value) = (([c0] : List Value) ++ (([c1] : List Value) ++ (([c2] : List Value) ++ (([c3] : List Value) ++ (([c4] : List Value) ++ (([c5] : List Value) ++ ([c6] : List Value))))))) from rfl).trans (by rw [e0, e1, e2, e3, e4, e5, e6]; rfl), w0, w4, w5⟩

set_option maxRecDepth 100000 in
set_option maxHeartbeats 2000000 in
theorem open_se {v : Value} {d : DataW X} {p : List MemPlace} (hv : Value.okWide Try.prog W r b0 25 v) (h : DataW.Trod enc Try.prog W base spare held 25 v d p) : ∃ x : Se, v = .agg (seA x) ∧ Bt x := by
  obtain ⟨cs, rfl, hsz⟩ := okWide_struct Try.underlying25 hv
  rw [ce_api_Sense] at hsz
  obtain ⟨l⟩ := cs
  replace hsz : l.length = 7 := hsz
  rcases l with _ | ⟨c0, l⟩
  · simp at hsz
  rcases l with _ | ⟨c1, l⟩
  · simp at hsz
  rcases l with _ | ⟨c2, l⟩
  · simp at hsz
  rcases l with _ | ⟨c3, l⟩
  · simp at hsz
  rcases l with _ | ⟨c4, l⟩
  · simp at hsz
  rcases l with _ | ⟨c5, l⟩
  · simp at hsz
  rcases l with _ | ⟨c6, l⟩
  · simp at hsz
  rcases l with _ | ⟨cx, l⟩
  · obtain ⟨fuel, hf⟩ := h
    obtain ⟨a0, a1, a2, a3, a4, a5, a6, e, w0, w4, w5⟩ := at_api_Sense hf
    exact ⟨⟨a0, a1, a2, a3, a4, a5, a6⟩, congrArg (fun l => Value.agg ⟨l⟩) e, ⟨w0.1, w4.1, w5.1, by have := w5.2; show a5 ≤ 255; omega⟩⟩
  · simp at hsz

theorem sense_of {v0 v1 v2 v3 v4 v5 v6 : Value} {x : DataW X × List MemPlace} (h : DataW.trod enc Try.prog W base spare held m 25 [v0, v1, v2, v3, v4, v5, v6] = some x) : ∃ y : Se, [v0, v1, v2, v3, v4, v5, v6] = (seA y).toList ∧ Bt y := by
  obtain ⟨a0, a1, a2, a3, a4, a5, a6, e, w0, w4, w5⟩ := at_api_Sense h
  exact ⟨⟨a0, a1, a2, a3, a4, a5, a6⟩, e, ⟨w0.1, w4.1, w5.1, by have := w5.2; show a5 ≤ 255; omega⟩⟩

theorem open_ses {A : Option Addr} {n c : Nat} {d : DataW X} {p : List MemPlace}
    (h : DataW.Trod enc Try.prog W 0 (fun _ => true) held 33 (.slice A n c) d p) : ∃ F : Nat → Se, n ≤ c ∧ Ses W W.heap.size A n F ∧ (∀ i, i < n → Bt (F i)) ∧ (n = 0 ∨ ∃ elems spare, d = .slice elems spare ∧ elems.length = n) := by
  obtain ⟨fuel, hf⟩ := h
  rcases Go.Deep.open_slice Try.underlying33 hf with ⟨hcs, _⟩ | ⟨a, len, cap, m, k, D, Pl, hcs, _, hl, hm, hmm, hd, hx⟩
  · simp [Value.cells] at hcs
    obtain ⟨rfl, rfl, rfl⟩ := hcs
    exact ⟨fun _ => zSe, Nat.le_refl _, fun h => by omega, fun i hi => by omega, .inl rfl⟩
  · simp [Value.cells] at hcs
    obtain ⟨rfl, rfl, rfl⟩ := hcs
    simp only [if_true] at hmm
    subst hmm
    rw [ce_api_Sense] at hx
    have each : ∀ j, j < m → ∃ x : Se, (∀ q, q < 7 → W.cell? (a.add (j * 7 + q)) = (seA x).toList[q]?) ∧ Bt x := by
      intro j hj
      obtain ⟨cs', h1, h2⟩ := hx j hj
      obtain ⟨_, hlen, hcell⟩ := World.cells?_some h1
      match cs', hlen with
      | [v0, v1, v2, v3, v4, v5, v6], _ =>
        obtain ⟨x, hb, ht⟩ := sense_of h2
        refine ⟨x, fun q hq => ?_, ht⟩
        have c0 := hcell q (by simpa using hq)
        rw [Go.Deep.add_add] at c0
        rw [c0, ← hb, List.getElem?_eq_getElem (by simpa using hq)]
    haveI : Inhabited Se := ⟨zSe⟩
    obtain ⟨q, hq⟩ := Go.Deep.choose_lt each
    refine ⟨q, by omega, fun hn => ?_, fun i hi => (hq i (by omega)).2, .inr ⟨_, _, (Prod.ext_iff.1 hd).1, by simp⟩⟩
    obtain ⟨b, off, spot⟩ := a
    have h0 := (hq 0 (by omega)).1 0 (by omega)
    have hs : spot = none := by simpa [Addr.add] using World.cell?_spot (v := .int .u8 (q 0).bd) h0
    subst hs
    have hadd : ∀ j : Nat, ((⟨b, off, none⟩ : Addr).add j) = ⟨b, off + j, none⟩ := by intro j; unfold Addr.add; split <;> simp_all
    have hlt : b < W.heap.size := by
      rw [hadd] at h0
      exact block_lt_of_cell (v := .int .u8 (q 0).bd) h0
    refine ⟨b, off, rfl, hlt, fun j hj r v hv => ?_⟩
    have hr : r < 7 := (List.getElem?_eq_some_iff.1 hv).1
    have g := (hq j (by omega)).1 r hr
    rw [hadd, hv] at g
    rw [Nat.add_assoc]
    exact g

theorem reach_ses {ts : List TypeId} {ds : List (DataW X)} {j n : Nat} {d : DataW X} (h : (DataW.weightsEach Try.prog ts ds).all (· ≤ reachBytes) = true) (ht : ts[j]? = some 33) (hd : ds[j]? = some d)
    (hz : n = 0 ∨ ∃ elems spare, d = .slice elems spare ∧ elems.length = n) : n ≤ 140737488355328 := by
  rcases hz with rfl | ⟨el, sp, rfl, rfl⟩
  · omega
  · have := sized_slice h ht hd Try.underlying33
    rw [show Try.prog.bytesOf 25 = 7 by kernel_rfl] at this
    unfold reachBytes at this
    omega

end

end Go.Proofs.Ytbifknihkjjhcaa.Md
