/- Arguments: two counts, their values written out; a slice of frames: what its reading says of memory, and its reach. -/
import Derived.Test.YtmkdnkgbnnmniaaBeamRow
import Derived.Test.YtmkdnkgbnnmniaaOpenBand
import Derived.SizedLaws
import Derived.Deep.Slices
namespace Go.Proofs.Ytmkdnkgbnnmniaa.Beam
open Go.ChangeShapes Go.WideShapes Go.ChangeAt Go.RowKit Go.Joins Go.Deep Go.WideElems Num Mem Band

section
variable {X : Type} {enc : TypeId × Value → X} {W : World} {base b0 : Nat} {spare : Nat → Bool} {held : Bool} {r : Reach} {m : Nat}
theorem ce__2_int : Try.prog.cellsOf 22 = 2 := by kernel_rfl
set_option maxRecDepth 100000 in
set_option maxHeartbeats 2000000 in
theorem at__2_int {c0 c1 : Value} {x : DataW X × List MemPlace} (h : DataW.trod enc Try.prog W base spare held m 22 [c0, c1] = some x) : ∃ (a0 : Int) (a1 : Int), [c0, c1] = [.int .i64 a0, .int .i64 a1] ∧ In a0 ∧ In a1 := by
  obtain ⟨xs, k, _, _, _, hxl, hel⟩ := DataW.trod_array Try.underlying22 h
  match xs, hxl with
  | [y0, y1], _ =>
    have g0 := hel 0 (by omega)
    simp only [ce_int] at g0
    replace g0 : DataW.trod enc Try.prog W base spare held k 3 [c0] = some y0 := g0
    obtain ⟨a0, e0, _, w0⟩ := DataW.trod_int Try.underlying3 g0
    replace w0 : In a0 := In_wf w0
    have g1 := hel 1 (by omega)
    simp only [ce_int] at g1
    replace g1 : DataW.trod enc Try.prog W base spare held k 3 [c1] = some y1 := g1
    obtain ⟨a1, e1, _, w1⟩ := DataW.trod_int Try.underlying3 g1
    replace w1 : In a1 := In_wf w1
    exact ⟨a0, a1, (show ([c0, c1] : List Value) = (([c0] : List Value) ++ ([c1] : List Value)) from rfl).trans (by rw [e0, e1]; rfl), w0, w1⟩
set_option maxRecDepth 100000 in
set_option maxHeartbeats 2000000 in
theorem open_n2 {v : Value} {d : DataW X} {p : List MemPlace} (hv : Value.okWide Try.prog W r b0 22 v) (h : DataW.Trod enc Try.prog W base spare held 22 v d p) : ∃ N : Nat → Int, v = .agg (n2 N) := by
  obtain ⟨cs, rfl, hsz⟩ := okWide_array Try.underlying22 hv
  rw [ce__2_int] at hsz
  obtain ⟨l⟩ := cs
  replace hsz : l.length = 2 := hsz
  rcases l with _ | ⟨c0, l⟩
  · simp at hsz
  rcases l with _ | ⟨c1, l⟩
  · simp at hsz
  rcases l with _ | ⟨cx, l⟩
  · obtain ⟨fuel, hf⟩ := h
    obtain ⟨a0, a1, e, w0, w1⟩ := at__2_int hf
    exact ⟨fun i => match i with | 0 => a0 | _ => a1, congrArg (fun l => Value.agg ⟨l⟩) e⟩
  · simp at hsz

theorem frame_of {v0 v1 v2 v3 v4 v5 v6 v7 v8 v9 v10 v11 : Value} {x : DataW X × List MemPlace} (h : DataW.trod enc Try.prog W base spare held m 25 [v0, v1, v2, v3, v4, v5, v6, v7, v8, v9, v10, v11] = some x) : ∃ Y : Nat → Vt, [v0, v1, v2, v3, v4, v5, v6, v7, v8, v9, v10, v11] = (v12 Y).toList := by
  obtain ⟨a0, a1, a2, a3, a4, a5, a6, a7, a8, a9, a10, a11, e, _⟩ := at__4_api_Voted h
  exact ⟨fun i => match i with | 0 => ⟨a0, a1, a2⟩ | 1 => ⟨a3, a4, a5⟩ | 2 => ⟨a6, a7, a8⟩ | _ => ⟨a9, a10, a11⟩, e⟩

theorem open_frs {A : Option Addr} {n c : Nat} {d : DataW X} {p : List MemPlace}
    (h : DataW.Trod enc Try.prog W 0 (fun _ => true) held 26 (.slice A n c) d p) : ∃ F : Nat → Nat → Vt, n ≤ c ∧ Frs W W.heap.size A n F ∧ (n = 0 ∨ ∃ elems spare, d = .slice elems spare ∧ elems.length = n) := by
  obtain ⟨fuel, hf⟩ := h
  rcases Go.Deep.open_slice Try.underlying26 hf with ⟨hcs, _⟩ | ⟨a, len, cap, m, k, D, Pl, hcs, _, hl, hm, hmm, hd, hx⟩
  · simp [Value.cells] at hcs
    obtain ⟨rfl, rfl, rfl⟩ := hcs
    exact ⟨fun _ => zX, Nat.le_refl _, fun h => by omega, .inl rfl⟩
  · simp [Value.cells] at hcs
    obtain ⟨rfl, rfl, rfl⟩ := hcs
    simp only [if_true] at hmm
    subst hmm
    rw [ce__4_api_Voted] at hx
    have each : ∀ j, j < m → ∃ x : Nat → Vt, ∀ q, q < 12 → W.cell? (a.add (j * 12 + q)) = (v12 x).toList[q]? := by
      intro j hj
      obtain ⟨cs', h1, h2⟩ := hx j hj
      obtain ⟨_, hlen, hcell⟩ := World.cells?_some h1
      match cs', hlen with
      | [v0, v1, v2, v3, v4, v5, v6, v7, v8, v9, v10, v11], _ =>
        obtain ⟨x, hb⟩ := frame_of h2
        refine ⟨x, fun q hq => ?_⟩
        have c0 := hcell q (by simpa using hq)
        rw [Go.Deep.add_add] at c0
        rw [c0, ← hb, List.getElem?_eq_getElem (by simpa using hq)]
    haveI : Inhabited (Nat → Vt) := ⟨zX⟩
    obtain ⟨q, hq⟩ := Go.Deep.choose_lt each
    refine ⟨q, by omega, fun hn => ?_, .inr ⟨_, _, (Prod.ext_iff.1 hd).1, by simp⟩⟩
    obtain ⟨b, off, spot⟩ := a
    have h0 := hq 0 (by omega) 0 (by omega)
    have hs : spot = none := by simpa [Addr.add] using World.cell?_spot (v := .bool (q 0 0).b) h0
    subst hs
    have hadd : ∀ j : Nat, ((⟨b, off, none⟩ : Addr).add j) = ⟨b, off + j, none⟩ := by intro j; unfold Addr.add; split <;> simp_all
    have hlt : b < W.heap.size := by
      rw [hadd] at h0
      exact block_lt_of_cell (v := .bool (q 0 0).b) h0
    refine ⟨b, off, rfl, hlt, fun j hj r v hv => ?_⟩
    have hr : r < 12 := (List.getElem?_eq_some_iff.1 hv).1
    have g := hq j (by omega) r hr
    rw [hadd, hv] at g
    rw [Nat.add_assoc]
    exact g

theorem reach_frs {ts : List TypeId} {ds : List (DataW X)} {j n : Nat} {d : DataW X} (h : (DataW.weightsEach Try.prog ts ds).all (· ≤ reachBytes) = true) (ht : ts[j]? = some 26) (hd : ds[j]? = some d)
    (hz : n = 0 ∨ ∃ elems spare, d = .slice elems spare ∧ elems.length = n) : n ≤ 140737488355328 := by
  rcases hz with rfl | ⟨el, sp, rfl, rfl⟩
  · omega
  · have := sized_slice h ht hd Try.underlying26
    rw [show Try.prog.bytesOf 25 = 96 by kernel_rfl] at this
    unfold reachBytes at this
    omega

end

end Go.Proofs.Ytmkdnkgbnnmniaa.Beam
