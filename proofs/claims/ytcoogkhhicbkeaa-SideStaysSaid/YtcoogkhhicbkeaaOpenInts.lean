/- An argument that is a slice of int64 numbers: what its reading says of memory. -/
import Derived.Test.YtcoogkhhicbkeaaMidOf
import Derived.Deep.Slices
import Derived.OpenShut
import Derived.Laws.Rows
namespace Go.Proofs.Ytcoogkhhicbkeaa.Mid
open Go.ChangeShapes Go.WideShapes Go.ChangeAt Go.RowKit Num

theorem open_ints {H : Type} {enc : TypeId × Value → H} {P : Program} {W : World} {held : Bool} {t e : TypeId} {A : Option Addr} {n c : Nat} {d : DataW H} {p : List MemPlace}
    (ht : P.underlying t = some (.slice e)) (he : P.underlying e = some (.int .i64)) (ce : P.cellsOf e = 1)
    (h : DataW.Trod enc P W 0 (fun _ => true) held t (.slice A n c) d p) : ∃ L : Nat → Int, n ≤ maxLen ∧ (A = none → n = 0 ∧ c = 0) ∧ (∀ i, i < n → In (L i)) ∧ Ints W W.heap.size A n L := by
  obtain ⟨fuel, hf⟩ := h
  rcases Go.Deep.open_slice ht hf with ⟨hcs, _⟩ | ⟨a, len, cap, m, k, D, Pl, hcs, _, hl, hm, hmm, _, hx⟩
  · simp [Value.cells] at hcs
    obtain ⟨rfl, rfl, rfl⟩ := hcs
    exact ⟨fun _ => 0, by unfold maxLen; omega, fun _ => ⟨rfl, rfl⟩, fun i h => by omega, fun h => by omega⟩
  · simp [Value.cells] at hcs
    obtain ⟨rfl, rfl, rfl⟩ := hcs
    simp only [if_true] at hmm
    subst hmm
    rw [ce] at hx
    have each : ∀ j, j < m → ∃ q : Int, In q ∧ W.cell? (a.add (j * 1)) = some (.int .i64 q) := by
      intro j hj
      obtain ⟨cs', h1, h2⟩ := hx j hj
      obtain ⟨_, hlen, hcell⟩ := World.cells?_some h1
      match cs', hlen with
      | [v0], _ =>
        obtain ⟨z0, e0, _, u0⟩ := DataW.trod_int he h2
        simp only [List.cons.injEq, and_true] at e0
        subst e0
        have c0 := hcell 0 (by omega)
        rw [Go.Deep.add_add] at c0
        exact ⟨z0, In_wf u0, by simpa using c0⟩
    obtain ⟨q, hq⟩ := Go.Deep.choose_lt each
    refine ⟨q, by omega, fun h => by simp at h, fun i hi => (hq i (by omega)).1, fun hn => ?_⟩
    have hq' := fun j hj => (hq j hj).2
    clear hq
    obtain ⟨b, off, spot⟩ := a
    have h0 := hq' 0 (by omega)
    have hs : spot = none := by simpa [Addr.add] using World.cell?_spot h0
    subst hs
    have hadd : ∀ j : Nat, ((⟨b, off, none⟩ : Addr).add j) = ⟨b, off + j, none⟩ := by intro j; unfold Addr.add; split <;> simp_all
    simp only [hadd, Nat.mul_one] at hq' h0
    exact ⟨b, off, rfl, block_lt_of_cell h0, fun j hj => hq' j (by omega)⟩

end Go.Proofs.Ytcoogkhhicbkeaa.Mid
