/- Arguments: a message, its value written out; a slice of bytes: what its reading says of memory, and how long it may be. -/
import Derived.Test.YtohkgfmimpockaaMsgNum
import Derived.Lib.SmallJoins
import Derived.OpenShut
import Derived.Deep.Slices
import Derived.SizedLaws
import Derived.Laws.IdiomArrays
import Derived.Deep.Strs
namespace Go.Proofs.Ytohkgfmimpockaa.Msg
open Go.ChangeShapes Go.WideShapes Go.ChangeAt Go.RowKit Go.Joins Go.Deep Go.WideElems Num By

theorem cM : Try.prog.cellsOf 27 = 11 := by kernel_rfl
theorem cH : Try.prog.cellsOf 23 = 3 := by kernel_rfl
theorem cC : Try.prog.cellsOf 25 = 3 := by kernel_rfl
theorem c8 : Try.prog.cellsOf 5 = 1 := by kernel_rfl
theorem c32 : Try.prog.cellsOf 22 = 1 := by kernel_rfl
theorem cB : Try.prog.cellsOf 4 = 1 := by kernel_rfl
theorem c64 : Try.prog.cellsOf 2 = 1 := by kernel_rfl
theorem b8 {a : Int} (h : (Lit.int .u8 a).wf = true) : B8 a := ⟨(bounds_u8 h).1, by have := (bounds_u8 h).2; omega⟩

set_option maxRecDepth 100000 in
set_option maxHeartbeats 1000000 in
theorem open_m {H : Type} {enc : TypeId × Value → H} {W : World} {base b0 : Nat} {spare : Nat → Bool} {held : Bool} {r : Reach} {v : Value} {d : DataW H} {p : List MemPlace}
    (hk : Value.okWide Try.prog W r b0 27 v) (h : DataW.Trod enc Try.prog W base spare held 27 v d p) : ∃ m : Ms, v = .agg (mA m) ∧ Wf m := by
  obtain ⟨cs, rfl, hsz⟩ := okWide_struct Try.underlying27 hk
  rw [cM] at hsz
  obtain ⟨l⟩ := cs
  match l, hsz with
  | [x0, x1, x2, x3, x4, x5, x6, x7, x8, x9, x10], _ =>
    obtain ⟨fuel, hf⟩ := h
    obtain ⟨xs, n, _, _, _, hlen, hx⟩ := DataW.trod_struct Try.underlying27 hf
    match xs, hlen with
    | [y0, y1, y2, y3, y4, y5, y6], _ =>
      have g0 : DataW.trod enc Try.prog W base spare held n 5 ((([x0, x1, x2, x3, x4, x5, x6, x7, x8, x9, x10] : List Value).drop 0).take (Try.prog.cellsOf 5)) = some y0 := hx 0 _ rfl
      rw [c8] at g0
      replace g0 : DataW.trod enc Try.prog W base spare held n 5 [x0] = some y0 := g0
      have g1 : DataW.trod enc Try.prog W base spare held n 22 ((([x0, x1, x2, x3, x4, x5, x6, x7, x8, x9, x10] : List Value).drop 1).take (Try.prog.cellsOf 22)) = some y1 := hx 1 _ rfl
      rw [c32] at g1
      replace g1 : DataW.trod enc Try.prog W base spare held n 22 [x1] = some y1 := g1
      have g2 : DataW.trod enc Try.prog W base spare held n 23 ((([x0, x1, x2, x3, x4, x5, x6, x7, x8, x9, x10] : List Value).drop 2).take (Try.prog.cellsOf 23)) = some y2 := hx 2 _ rfl
      rw [cH] at g2
      replace g2 : DataW.trod enc Try.prog W base spare held n 23 [x2, x3, x4] = some y2 := g2
      have g3 : DataW.trod enc Try.prog W base spare held n 5 ((([x0, x1, x2, x3, x4, x5, x6, x7, x8, x9, x10] : List Value).drop 5).take (Try.prog.cellsOf 5)) = some y3 := hx 3 _ rfl
      rw [c8] at g3
      replace g3 : DataW.trod enc Try.prog W base spare held n 5 [x5] = some y3 := g3
      have g4 : DataW.trod enc Try.prog W base spare held n 5 ((([x0, x1, x2, x3, x4, x5, x6, x7, x8, x9, x10] : List Value).drop 6).take (Try.prog.cellsOf 5)) = some y4 := hx 4 _ rfl
      rw [c8] at g4
      replace g4 : DataW.trod enc Try.prog W base spare held n 5 [x6] = some y4 := g4
      have g5 : DataW.trod enc Try.prog W base spare held n 4 ((([x0, x1, x2, x3, x4, x5, x6, x7, x8, x9, x10] : List Value).drop 7).take (Try.prog.cellsOf 4)) = some y5 := hx 5 _ rfl
      rw [cB] at g5
      replace g5 : DataW.trod enc Try.prog W base spare held n 4 [x7] = some y5 := g5
      have g6 : DataW.trod enc Try.prog W base spare held n 25 ((([x0, x1, x2, x3, x4, x5, x6, x7, x8, x9, x10] : List Value).drop 8).take (Try.prog.cellsOf 25)) = some y6 := hx 6 _ rfl
      rw [cC] at g6
      replace g6 : DataW.trod enc Try.prog W base spare held n 25 [x8, x9, x10] = some y6 := g6
      obtain ⟨a0, e0, _, w0⟩ := DataW.trod_int Try.underlying5 g0
      obtain ⟨a1, e1, _, w1⟩ := DataW.trod_int Try.underlying22 g1
      obtain ⟨_, _, _, _, _, t2, t3, t4⟩ := trod_array3 Try.underlying23 c8 g2
      obtain ⟨a2, e2, _, w2⟩ := DataW.trod_int Try.underlying5 t2
      obtain ⟨a3, e3, _, w3⟩ := DataW.trod_int Try.underlying5 t3
      obtain ⟨a4, e4, _, w4⟩ := DataW.trod_int Try.underlying5 t4
      obtain ⟨a5, e5, _, w5⟩ := DataW.trod_int Try.underlying5 g3
      obtain ⟨a6, e6, _, w6⟩ := DataW.trod_int Try.underlying5 g4
      obtain ⟨a7, e7, _⟩ := DataW.trod_bool Try.underlying4 g5
      obtain ⟨_, _, _, _, _, _, t8, t9, t10⟩ := trod_struct3 Try.underlying25 g6
      simp only [c64, List.drop_zero, List.drop_succ_cons, List.take_succ_cons, List.take_zero] at t8 t9 t10
      obtain ⟨a8, e8, _, w8⟩ := DataW.trod_int Try.underlying2 t8
      obtain ⟨a9, e9, _, w9⟩ := DataW.trod_int Try.underlying2 t9
      obtain ⟨a10, e10, _, w10⟩ := DataW.trod_int Try.underlying2 t10
      simp only [List.cons.injEq, and_true] at e0 e1 e2 e3 e4 e5 e6 e7 e8 e9 e10
      subst e0 e1 e2 e3 e4 e5 e6 e7 e8 e9 e10
      exact ⟨⟨a0, a1, a2, a3, a4, a5, a6, a7, a8, a9, a10⟩, rfl, b8 w0, ⟨(bounds_u32 w1).1, by have := (bounds_u32 w1).2; show a1 < _; omega⟩, b8 w2, b8 w3, b8 w4, b8 w5, b8 w6, In_wf w8, In_wf w9, In_wf w10⟩

theorem open_bys {H : Type} {enc : TypeId × Value → H} {P : Program} {W : World} {held : Bool} {t e : TypeId} {A : Option Addr} {n c : Nat} {d : DataW H} {p : List MemPlace}
    (ht : P.underlying t = some (.slice e)) (he : P.underlying e = some (.int .u8)) (ce : P.cellsOf e = 1)
    (h : DataW.Trod enc P W 0 (fun _ => true) held t (.slice A n c) d p) :
    ∃ L : Nat → Int, n ≤ c ∧ (A = none → n = 0 ∧ c = 0) ∧ Byte L ∧ Bys W W.heap.size A n L ∧ (n = 0 ∨ ∃ elems spare, d = .slice elems spare ∧ elems.length = n) := by
  obtain ⟨fuel, hf⟩ := h
  rcases Go.Deep.open_slice ht hf with ⟨hcs, _⟩ | ⟨a, len, cap, m, k, D, Pl, hcs, _, hl, hm, hmm, hd, hx⟩
  · simp [Value.cells] at hcs
    obtain ⟨rfl, rfl, rfl⟩ := hcs
    exact ⟨fun _ => 0, Nat.le_refl _, fun _ => ⟨rfl, rfl⟩, fun i => ⟨by show (0 : Int) ≤ 0; omega, by show (0 : Int) < 256; omega⟩, (fun h => by omega), .inl rfl⟩
  · simp [Value.cells] at hcs
    obtain ⟨rfl, rfl, rfl⟩ := hcs
    simp only [if_true] at hmm
    subst hmm
    rw [ce] at hx
    have each : ∀ j, j < m → ∃ q : Int, B8 q ∧ W.cell? (a.add (j * 1)) = some (.int .u8 q) := by
      intro j hj
      obtain ⟨cs', h1, h2⟩ := hx j hj
      obtain ⟨_, hlen, hcell⟩ := World.cells?_some h1
      match cs', hlen with
      | [v0], _ =>
        obtain ⟨z0, e0, _, u0⟩ := DataW.trod_int he h2
        simp only [List.cons.injEq, and_true] at e0
        subst e0
        have c0 := hcell 0 (by omega)
        rw [Go.Deep.add_add] at c0
        exact ⟨z0, b8 u0, by simpa using c0⟩
    obtain ⟨q, hq⟩ := Go.Deep.choose_lt each
    refine ⟨fun i => if i < n then q i else 0, by omega, fun h => by simp at h, fun i => ?_, fun hn => ?_, .inr ⟨_, _, (Prod.ext_iff.1 hd).1, by simp⟩⟩
    · show 0 ≤ (if i < n then q i else 0) ∧ (if i < n then q i else 0) < 256
      split
      · exact (hq i (by omega)).1
      · omega
    · have hq' := fun j hj => (hq j hj).2
      obtain ⟨b, off, spot⟩ := a
      have h0 := hq' 0 (by omega)
      have hs : spot = none := by simpa [Addr.add] using World.cell?_spot h0
      subst hs
      have hadd : ∀ j : Nat, ((⟨b, off, none⟩ : Addr).add j) = ⟨b, off + j, none⟩ := by intro j; unfold Addr.add; split <;> simp_all
      simp only [hadd, Nat.mul_one] at hq' h0
      exact ⟨b, off, rfl, block_lt_of_cell h0, fun j hj => by show W.cell? ⟨b, off + j, none⟩ = some (.int .u8 (if j < n then q j else 0)); rw [if_pos hj]; exact hq' j (by omega)⟩

theorem reach_bys {H : Type} {P : Program} {ts : List TypeId} {ds : List (DataW H)} {j n : Nat} {t e : TypeId} {d : DataW H} (h : (DataW.weightsEach P ts ds).all (· ≤ reachBytes) = true) (ht : ts[j]? = some t) (hd : ds[j]? = some d)
    (hz : n = 0 ∨ ∃ elems spare, d = .slice elems spare ∧ elems.length = n) (hu : P.underlying t = some (.slice e)) (hb : P.bytesOf e = 1) : n ≤ 140737488351232 := by
  rcases hz with rfl | ⟨el, sp, rfl, rfl⟩
  · omega
  · have := sized_slice h ht hd hu
    rw [hb] at this
    unfold reachBytes at this
    omega

end Go.Proofs.Ytohkgfmimpockaa.Msg
