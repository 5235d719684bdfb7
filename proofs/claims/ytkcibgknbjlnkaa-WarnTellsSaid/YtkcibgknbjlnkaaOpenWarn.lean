/- Arguments: a state, a capability, their values written out; a slice of bytes: what its reading says of memory, and how long it may be. -/
import Derived.Test.YtkcibgknbjlnkaaWarnRow
import Derived.Test.YtkcibgknbjlnkaaByt
import Derived.OpenShut
import Derived.Lib.SmallJoins
import Derived.Deep.Strs
import Derived.Laws.IdiomArrays
import Derived.Deep.Slices
import Derived.SizedLaws
namespace Go.Proofs.Ytkcibgknbjlnkaa.Wr
open Go.ChangeShapes Go.WideShapes Go.ChangeAt Go.RowKit Go.Joins Go.Deep Go.WideElems Num Md
open By (Bys Byte)

theorem okWide_array {P : Program} {W : World} {r : Reach} {b0 n : Nat} {t e : TypeId} {v : Value} (ht : P.underlying t = some (.array n e)) (h : Value.okWide P W r b0 t v) : ∃ cs, v = .agg cs ∧ cs.size = P.cellsOf t := by
  simp only [Value.okWide, ht] at h
  obtain ⟨cs, h1, h2, _⟩ := h
  exact ⟨cs, h1, h2⟩

section
variable {X : Type} {enc : TypeId × Value → X} {W : World} {base b0 : Nat} {spare : Nat → Bool} {held : Bool} {r : Reach} {m : Nat}
theorem ce_uint8 : Try.prog.cellsOf 5 = 1 := by kernel_rfl
theorem ce_bool : Try.prog.cellsOf 4 = 1 := by kernel_rfl
theorem ce_api_State : Try.prog.cellsOf 23 = 2 := by kernel_rfl
set_option maxRecDepth 100000 in
set_option maxHeartbeats 2000000 in
theorem at_api_State {c0 c1 : Value} {x : DataW X × List MemPlace} (h : DataW.trod enc Try.prog W base spare held m 23 [c0, c1] = some x) : ∃ (a0 : Int) (a1 : Bool), [c0, c1] = [.int .u8 a0, .bool a1] ∧ (0 ≤ a0 ∧ a0 < 256) := by
  obtain ⟨xs, k, _, _, _, hxl, hel⟩ := DataW.trod_struct Try.underlying23 h
  match xs, hxl with
  | [y0, y1], _ =>
    have g0 : DataW.trod enc Try.prog W base spare held k 5 ((([c0, c1] : List Value).drop 0).take (Try.prog.cellsOf 5)) = some y0 := hel 0 _ rfl
    rw [ce_uint8] at g0
    replace g0 : DataW.trod enc Try.prog W base spare held k 5 [c0] = some y0 := g0
    obtain ⟨a0, e0, _, w0⟩ := DataW.trod_int Try.underlying5 g0
    replace w0 : (0 ≤ a0 ∧ a0 < 256) := ⟨(bounds_u8 w0).1, by have := (bounds_u8 w0).2; omega⟩
    have g1 : DataW.trod enc Try.prog W base spare held k 4 ((([c0, c1] : List Value).drop 1).take (Try.prog.cellsOf 4)) = some y1 := hel 1 _ rfl
    rw [ce_bool] at g1
    replace g1 : DataW.trod enc Try.prog W base spare held k 4 [c1] = some y1 := g1
    obtain ⟨a1, e1, _⟩ := DataW.trod_bool Try.underlying4 g1
    exact ⟨a0, a1, (show ([c0, c1] : List Value) = (([c0] : List Value) ++ ([c1] : List Value)) from rfl).trans (by rw [e0, e1]; rfl), w0⟩
set_option maxRecDepth 100000 in
set_option maxHeartbeats 2000000 in
theorem open_st {v : Value} {d : DataW X} {p : List MemPlace} (hv : Value.okWide Try.prog W r b0 23 v) (h : DataW.Trod enc Try.prog W base spare held 23 v d p) : ∃ s : St, v = .agg (stA s) := by
  obtain ⟨cs, rfl, hsz⟩ := okWide_struct Try.underlying23 hv
  rw [ce_api_State] at hsz
  obtain ⟨l⟩ := cs
  replace hsz : l.length = 2 := hsz
  rcases l with _ | ⟨c0, l⟩
  · simp at hsz
  rcases l with _ | ⟨c1, l⟩
  · simp at hsz
  rcases l with _ | ⟨cx, l⟩
  · obtain ⟨fuel, hf⟩ := h
    obtain ⟨a0, a1, e, w0⟩ := at_api_State hf
    exact ⟨⟨a0, a1⟩, congrArg (fun l => Value.agg ⟨l⟩) e⟩
  · simp at hsz

theorem ce_api_Cap : Try.prog.cellsOf 25 = 3 := by kernel_rfl
set_option maxRecDepth 100000 in
set_option maxHeartbeats 2000000 in
theorem at_api_Cap {c0 c1 c2 : Value} {x : DataW X × List MemPlace} (h : DataW.trod enc Try.prog W base spare held m 25 [c0, c1, c2] = some x) : ∃ (a0 : Int) (a1 : Bool) (a2 : Int), [c0, c1, c2] = [.int .u8 a0, .bool a1, .int .u8 a2] ∧ (0 ≤ a0 ∧ a0 < 256) ∧ (0 ≤ a2 ∧ a2 < 256) := by
  obtain ⟨xs, k, _, _, _, hxl, hel⟩ := DataW.trod_struct Try.underlying25 h
  match xs, hxl with
  | [y0, y1, y2], _ =>
    have g0 : DataW.trod enc Try.prog W base spare held k 5 ((([c0, c1, c2] : List Value).drop 0).take (Try.prog.cellsOf 5)) = some y0 := hel 0 _ rfl
    rw [ce_uint8] at g0
    replace g0 : DataW.trod enc Try.prog W base spare held k 5 [c0] = some y0 := g0
    obtain ⟨a0, e0, _, w0⟩ := DataW.trod_int Try.underlying5 g0
    replace w0 : (0 ≤ a0 ∧ a0 < 256) := ⟨(bounds_u8 w0).1, by have := (bounds_u8 w0).2; omega⟩
    have g1 : DataW.trod enc Try.prog W base spare held k 4 ((([c0, c1, c2] : List Value).drop 1).take (Try.prog.cellsOf 4)) = some y1 := hel 1 _ rfl
    rw [ce_bool] at g1
    replace g1 : DataW.trod enc Try.prog W base spare held k 4 [c1] = some y1 := g1
    obtain ⟨a1, e1, _⟩ := DataW.trod_bool Try.underlying4 g1
    have g2 : DataW.trod enc Try.prog W base spare held k 5 ((([c0, c1, c2] : List Value).drop 2).take (Try.prog.cellsOf 5)) = some y2 := hel 2 _ rfl
    rw [ce_uint8] at g2
    replace g2 : DataW.trod enc Try.prog W base spare held k 5 [c2] = some y2 := g2
    obtain ⟨a2, e2, _, w2⟩ := DataW.trod_int Try.underlying5 g2
    replace w2 : (0 ≤ a2 ∧ a2 < 256) := ⟨(bounds_u8 w2).1, by have := (bounds_u8 w2).2; omega⟩
    exact ⟨a0, a1, a2, (show ([c0, c1, c2] : List Value) = (([c0] : List Value) ++ (([c1] : List Value) ++ ([c2] : List Value))) from rfl).trans (by rw [e0, e1, e2]; rfl), w0, w2⟩
set_option maxRecDepth 100000 in
set_option maxHeartbeats 2000000 in
theorem open_cp {v : Value} {d : DataW X} {p : List MemPlace} (hv : Value.okWide Try.prog W r b0 25 v) (h : DataW.Trod enc Try.prog W base spare held 25 v d p) : ∃ c : Cp, v = .agg (cpA c) := by
  obtain ⟨cs, rfl, hsz⟩ := okWide_struct Try.underlying25 hv
  rw [ce_api_Cap] at hsz
  obtain ⟨l⟩ := cs
  replace hsz : l.length = 3 := hsz
  rcases l with _ | ⟨c0, l⟩
  · simp at hsz
  rcases l with _ | ⟨c1, l⟩
  · simp at hsz
  rcases l with _ | ⟨c2, l⟩
  · simp at hsz
  rcases l with _ | ⟨cx, l⟩
  · obtain ⟨fuel, hf⟩ := h
    obtain ⟨a0, a1, a2, e, w0, w2⟩ := at_api_Cap hf
    exact ⟨⟨a0, a1, a2⟩, congrArg (fun l => Value.agg ⟨l⟩) e⟩
  · simp at hsz

end

theorem bt8 {a : Int} (h : (Lit.int .u8 a).wf = true) : 0 ≤ a ∧ a < 256 := ⟨(bounds_u8 h).1, by have := (bounds_u8 h).2; omega⟩

theorem open_bys {H : Type} {enc : TypeId × Value → H} {P : Program} {W : World} {held : Bool} {t e : TypeId} {A : Option Addr} {n c : Nat} {d : DataW H} {p : List MemPlace}
    (ht : P.underlying t = some (.slice e)) (he : P.underlying e = some (.int .u8)) (ce : P.cellsOf e = 1)
    (h : DataW.Trod enc P W 0 (fun _ => true) held t (.slice A n c) d p) :
    ∃ L : Nat → Int, n ≤ c ∧ (A = none → n = 0 ∧ c = 0) ∧ Byte L ∧ Bys W W.heap.size A n L ∧ (n = 0 ∨ ∃ elems spare, d = .slice elems spare ∧ elems.length = n) := by
  obtain ⟨fuel, hf⟩ := h
  rcases Go.Deep.open_slice ht hf with ⟨hcs, _⟩ | ⟨a, len, cap, m, k, D, Pl, hcs, _, hl, hm, hmm, hd, hx⟩
  · simp [Value.cells] at hcs
    obtain ⟨rfl, rfl, rfl⟩ := hcs
    exact ⟨fun _ => 0, Nat.le_refl _, fun _ => ⟨rfl, rfl⟩, fun i => ⟨by show (0 : Int) ≤ 0; omega, by show (0 : Int) < 256; omega⟩, (fun h => by omega), .inl rfl⟩
  · simp [Value.cells] at hcs
    obtain ⟨rfl, rfl, rfl⟩ := hcs
    simp only [if_true] at hmm
    subst hmm
    rw [ce] at hx
    have each : ∀ j, j < m → ∃ q : Int, (0 ≤ q ∧ q < 256) ∧ W.cell? (a.add (j * 1)) = some (.int .u8 q) := by
      intro j hj
      obtain ⟨cs', h1, h2⟩ := hx j hj
      obtain ⟨_, hlen, hcell⟩ := World.cells?_some h1
      match cs', hlen with
      | [v0], _ =>
        obtain ⟨z0, e0, _, u0⟩ := DataW.trod_int he h2
        simp only [List.cons.injEq, and_true] at e0
        subst e0
        have c0 := hcell 0 (by omega)
        rw [Go.Deep.add_add] at c0
        exact ⟨z0, bt8 u0, by simpa using c0⟩
    obtain ⟨q, hq⟩ := Go.Deep.choose_lt each
    refine ⟨fun i => if i < n then q i else 0, by omega, fun h => by simp at h, fun i => ?_, fun hn => ?_, .inr ⟨_, _, (Prod.ext_iff.1 hd).1, by simp⟩⟩
    · show 0 ≤ (if i < n then q i else 0) ∧ (if i < n then q i else 0) < 256
      split
      · exact (hq i (by omega)).1
      · omega
    · have hq' := fun j hj => (hq j hj).2
      obtain ⟨b, off, spot⟩ := a
      have h0 := hq' 0 (by omega)
      have hs : spot = none := by simpa [Addr.add] using World.cell?_spot h0
      subst hs
      have hadd : ∀ j : Nat, ((⟨b, off, none⟩ : Addr).add j) = ⟨b, off + j, none⟩ := by intro j; unfold Addr.add; split <;> simp_all
      simp only [hadd, Nat.mul_one] at hq' h0
      exact ⟨b, off, rfl, block_lt_of_cell h0, fun j hj => by show W.cell? ⟨b, off + j, none⟩ = some (.int .u8 (if j < n then q j else 0)); rw [if_pos hj]; exact hq' j (by omega)⟩

theorem reach_bys {H : Type} {P : Program} {ts : List TypeId} {ds : List (DataW H)} {j n : Nat} {t e : TypeId} {d : DataW H} (h : (DataW.weightsEach P ts ds).all (· ≤ reachBytes) = true) (ht : ts[j]? = some t) (hd : ds[j]? = some d)
    (hz : n = 0 ∨ ∃ elems spare, d = .slice elems spare ∧ elems.length = n) (hu : P.underlying t = some (.slice e)) (hb : P.bytesOf e = 1) : n ≤ 140737488351232 := by
  rcases hz with rfl | ⟨el, sp, rfl, rfl⟩
  · omega
  · have := sized_slice h ht hd hu
    rw [hb] at this
    unfold reachBytes at this
    omega

end Go.Proofs.Ytkcibgknbjlnkaa.Wr
