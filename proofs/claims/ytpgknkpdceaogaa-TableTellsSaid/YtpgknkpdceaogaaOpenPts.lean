/- An argument that is a slice of points: what its reading says of memory. -/
import Derived.Test.YtpgknkpdceaogaaPts
import Derived.Deep.Slices
import Derived.OpenShut
import Derived.Laws.Rows
namespace Go.Proofs.Ytpgknkpdceaogaa.Num
open Go.ChangeShapes Go.WideShapes Go.ChangeAt Go.RowKit

theorem open_pts {H : Type} {enc : TypeId × Value → H} {P : Program} {W : World} {held : Bool} {t e i : TypeId} {A : Option Addr} {n c : Nat} {d : DataW H} {p : List MemPlace}
    (ht : P.underlying t = some (.slice e)) (he : P.underlying e = some (.array 2 i)) (hi : P.underlying i = some (.int .i64)) (ce : P.cellsOf e = 2) (ci : P.cellsOf i = 1)
    (h : DataW.Trod enc P W 0 (fun _ => true) held t (.slice A n c) d p) : ∃ X Y : Nat → Int, n ≤ maxLen ∧ (A = none → n = 0 ∧ c = 0) ∧ Pts W W.heap.size A n X Y := by
  obtain ⟨fuel, hf⟩ := h
  rcases Go.Deep.open_slice ht hf with ⟨hcs, _⟩ | ⟨a, len, cap, m, k, D, Pl, hcs, _, hl, hm, hmm, _, hx⟩
  · simp [Value.cells] at hcs
    obtain ⟨rfl, rfl, rfl⟩ := hcs
    exact ⟨fun _ => 0, fun _ => 0, by unfold maxLen; omega, fun _ => ⟨rfl, rfl⟩, fun h => by omega⟩
  · simp [Value.cells] at hcs
    obtain ⟨rfl, rfl, rfl⟩ := hcs
    simp only [if_true] at hmm
    subst hmm
    rw [ce] at hx
    have each : ∀ j, j < m → ∃ q : Int × Int, W.cell? (a.add (j * 2)) = some (.int .i64 q.1) ∧ W.cell? (a.add (j * 2 + 1)) = some (.int .i64 q.2) := by
      intro j hj
      obtain ⟨cs', h1, h2⟩ := hx j hj
      obtain ⟨_, hlen, hcell⟩ := World.cells?_some h1
      obtain ⟨xs, k', _, _, _, hxl, hel⟩ := DataW.trod_array he h2
      match cs', hlen, xs, hxl with
      | [v0, v1], _, [y0, y1], _ =>
        have g0 := hel 0 (by omega)
        have g1 := hel 1 (by omega)
        simp only [ci, Nat.mul_one, List.drop_zero, List.drop_succ_cons, List.take_succ_cons, List.take_zero, List.getElem?_cons_zero, List.getElem?_cons_succ] at g0 g1
        obtain ⟨z0, e0, _, _⟩ := DataW.trod_int hi g0
        obtain ⟨z1, e1, _, _⟩ := DataW.trod_int hi g1
        simp only [List.cons.injEq, and_true] at e0 e1
        subst e0 e1
        have c0 := hcell 0 (by omega)
        have c1 := hcell 1 (by omega)
        rw [Go.Deep.add_add] at c0 c1
        exact ⟨(z0, z1), by simpa using c0, by simpa using c1⟩
    obtain ⟨q, hq⟩ := Go.Deep.choose_lt each
    refine ⟨fun j => (q j).1, fun j => (q j).2, by omega, fun h => by simp at h, fun hn => ?_⟩
    obtain ⟨b, off, spot⟩ := a
    have h0 := (hq 0 (by omega)).1
    have hs : spot = none := by simpa [Addr.add] using World.cell?_spot h0
    subst hs
    have hadd : ∀ j : Nat, ((⟨b, off, none⟩ : Addr).add j) = ⟨b, off + j, none⟩ := by intro j; unfold Addr.add; split <;> simp_all
    simp only [hadd] at hq h0
    exact ⟨b, off, rfl, block_lt_of_cell h0, fun j hj => hq j (by omega)⟩

end Go.Proofs.Ytpgknkpdceaogaa.Num
