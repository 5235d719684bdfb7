/- A slice of what the modes are told. Conditions: none. -/
import Derived.Test.YtbifknihkjjhcaaModeRow
import Derived.Test.YtbifknihkjjhcaaModeSame
namespace Go.Proofs.Ytbifknihkjjhcaa.Md
open Go.ChangeShapes Go.WideShapes Go.ChangeAt Go.RowKit Num Mem Band

def Ses (w : World) (B : Nat) (A : Option Addr) (n : Nat) (F : Nat → Se) : Prop :=
  0 < n → ∃ b off, A = some ⟨b, off, none⟩ ∧ b < B ∧ ∀ i, i < n → w.rangeAt b (off + i * 7) (seA (F i)).toList
theorem range_below {w w' : World} {B b o : Nat} {cs : List Value} (h : w.rangeAt b o cs) (k : Below B w w') (hb : b < B) : w'.rangeAt b o cs := fun j v hv => (k.cell (p := ⟨b, o + j, none⟩) hb).trans (h j v hv)

end Go.Proofs.Ytbifknihkjjhcaa.Md
