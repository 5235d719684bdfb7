/- Slices of int8 numbers: what one is in memory, how that stays while new memory is made. Conditions: none. -/
import Derived.Test.YtjonpagkhcieaaaBase
import Derived.Below
namespace Go.Proofs.Ytjonpagkhcieaaa.Sd
open Go.ChangeShapes Go.WideShapes Go.ChangeAt Go.RowKit Num

/-- A slice of n small numbers lies at A, below block B: the one at place i is L i. -/
def Sby (w : World) (B : Nat) (A : Option Addr) (n : Nat) (L : Nat → Int) : Prop :=
  0 < n → ∃ b off, A = some ⟨b, off, none⟩ ∧ b < B ∧ ∀ i, i < n → w.cell? ⟨b, off + i, none⟩ = some (.int .i8 (L i))
theorem Sby.below {w w' : World} {B : Nat} {A : Option Addr} {n : Nat} {L : Nat → Int} (h : Sby w B A n L) (hb : Below B w w') : Sby w' B A n L := by
  intro hn
  obtain ⟨b, off, rfl, hlt, hc⟩ := h hn
  exact ⟨b, off, rfl, hlt, fun i hi => (hb.cell (by exact hlt)).trans (hc i hi)⟩
theorem Sby.more {w : World} {B B' : Nat} {A : Option Addr} {n : Nat} {L : Nat → Int} (h : Sby w B A n L) (hB : B ≤ B') : Sby w B' A n L := by
  intro hn
  obtain ⟨b, off, rfl, hlt, hc⟩ := h hn
  exact ⟨b, off, rfl, by omega, hc⟩
theorem Sby.next {w w' : World} {A : Option Addr} {n : Nat} {L : Nat → Int} (h : Sby w w.heap.size A n L) (hb : Below w.heap.size w w') : Sby w' w'.heap.size A n L := (h.below hb).more hb.size

end Go.Proofs.Ytjonpagkhcieaaa.Sd
