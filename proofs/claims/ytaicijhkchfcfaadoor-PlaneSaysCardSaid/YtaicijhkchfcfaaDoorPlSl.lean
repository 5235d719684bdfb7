/- Slices of structs: what one is in memory, how that stays while new memory is made. Conditions: none. -/
import Derived.Test.YtaicijhkchfcfaaDoorPlRow
namespace Go.Proofs.YtaicijhkchfcfaaDoor.Pl
open Go.ChangeShapes Go.WideShapes Go.ChangeAt Go.RowKit Num Mem

/-- A slice of n elements of s cells lies at A, below block B: the one at place i reads L i. -/
def Sl (w : World) (B : Nat) (A : Option Addr) (n s : Nat) (L : Nat → List Value) : Prop :=
  0 < n → ∃ b off, A = some ⟨b, off, none⟩ ∧ b < B ∧ ∀ i, i < n → w.rangeAt b (off + i * s) (L i)
theorem range_below {w w' : World} {B b o : Nat} {cs : List Value} (h : w.rangeAt b o cs) (k : Below B w w') (hb : b < B) : w'.rangeAt b o cs := fun j v hv => (k.cell (p := ⟨b, o + j, none⟩) hb).trans (h j v hv)
theorem Sl.below {w w' : World} {B : Nat} {A : Option Addr} {n s : Nat} {L : Nat → List Value} (h : Sl w B A n s L) (hb : Below B w w') : Sl w' B A n s L := by
  intro hn
  obtain ⟨b, off, rfl, hlt, hc⟩ := h hn
  exact ⟨b, off, rfl, hlt, fun i hi => range_below (hc i hi) hb hlt⟩
theorem ldC_part {W : World} {g o : Nat} {c : Nat → Int} (K : W.rangeAt g o (cA c).toList) : (ldC (.pointer (some ⟨g, o, none⟩))).run Tryd.prog W = .ok (.agg (cA c)) W :=
  run_loadAt_mid W g o 25 (cA c).toList _ K Tryd.underlying25 rfl infoC
theorem ldG_part {W : World} {g o : Nat} {q : Nat → Int} (K : W.rangeAt g o (gA q).toList) : (ldG (.pointer (some ⟨g, o, none⟩))).run Tryd.prog W = .ok (.agg (gA q)) W :=
  run_loadAt_mid W g o 29 (gA q).toList _ K Tryd.underlying29 rfl infoG
theorem tmod_bd (x m : Int) (h : 0 < m) : -m < x.tmod m ∧ x.tmod m < m := by
  rcases Int.le_total 0 x with g | g
  · have h1 := Int.tmod_nonneg m g
    have h2 := Int.tmod_lt_of_pos x h
    omega
  · obtain ⟨y, rfl⟩ : ∃ y, x = -y := ⟨-x, by omega⟩
    have h1 := Int.tmod_nonneg m (show 0 ≤ y by omega)
    have h2 := Int.tmod_lt_of_pos y h
    rw [Int.neg_tmod]
    omega

end Go.Proofs.YtaicijhkchfcfaaDoor.Pl
