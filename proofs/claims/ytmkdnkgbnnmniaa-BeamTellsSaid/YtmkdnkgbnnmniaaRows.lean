/-
  No cell of these rows narrows 'for every input' (looked for: loops, veiled, ifaces, maps, wideKeys, modest, calm, conditions, laid).
  DERIVED. THE GIVEN ROWS OF THIS SEAT. 2 by the template 'for every input the law returns true; each argument reads behind the call as it read before'; 0 by the template 'total and deterministic' (their statements: YtmkdnkgbnnmniaaTotals.lean).
  GIVEN WITH THE SEED: the statements are not yours to turn. If you find one false, say at which input.
  Laid BY PROGRAM, IN A SANDBOX (cutbox-rows.mjs): the forced cells as the released guide's own fill.sh prints them over the translation 5bff47dc6d3ce461… (all of the seat's roots in one cut). By AI agents, Wed Nov 11 2026. No macro, syntax, notation, axiom, sorry.
-/
import Derived.Test.YtmkdnkgbnnmniaaChecked
import GoSem.Claim
import GoSem.ClaimJoined
import GoSem.ClaimMapViews
import Derived.JoinedTies
import Derived.KernelRfl
namespace Go.Proofs.Ytmkdnkgbnnmniaa
/- THE CELL 'sum', in the pinned program and in every row, IS THE sha256 OF THE DUMP (.gsa) THAT YtmkdnkgbnnmniaaProg.lean LOADS. Nothing in Lean hashes anything: it is a label: what it is worth is what the hold of that sum in a sandbox is worth. -/
noncomputable def Try.pinned : Pinned := { name := "ytmkdnkgbnnmniaa", sum := "5bff47dc6d3ce461668b52cf7a035db7c5a56bcd02466319e6ab43fb762b1b3f", checked := Try.checked }
namespace Rows
def none {H : Type} : Left H := { results := [], args := [] }

/-- 'flarepathlaw20.BeamTells': WHATEVER THE INPUT: true; the input reads as it did. -/
def beamTellsSpec : ChangeSpec := { name := "beamTells", fn := fun _ => fun
  | [d1, d2, d3] => { results := [.lit (.bool true)], args := [d1, d2, d3] }
  | _ => none }
def beamTellsRow : OpenClaim := { program := "ytmkdnkgbnnmniaa", sum := "5bff47dc6d3ce461668b52cf7a035db7c5a56bcd02466319e6ab43fb762b1b3f", func := "flarepath/flarepathlaw20.BeamTells", spec := "beamTells", apart := false }
def BeamTellsSaid : Prop := beamTellsRow.holds Try.pinned (OpenSpec.ofChange beamTellsSpec)

/-- ITS FALSE NEIGHBOUR: 'it returns false'. Refute it at one input. -/
def beamTellsWrong : ChangeSpec := { name := "beamTells", fn := fun _ => fun
  | [d1, d2, d3] => { results := [.lit (.bool false)], args := [d1, d2, d3] }
  | _ => none }
def BeamTellsWrongFalsely : Prop := beamTellsRow.holds Try.pinned (OpenSpec.ofChange beamTellsWrong)

/-- 'flarepathlaw20.BeamLasts': WHATEVER THE INPUT: true; the input reads as it did. -/
def beamLastsSpec : ChangeSpec := { name := "beamLasts", fn := fun _ => fun
  | [d] => { results := [.lit (.bool true)], args := [d] }
  | _ => none }
def beamLastsRow : OpenClaim := { program := "ytmkdnkgbnnmniaa", sum := "5bff47dc6d3ce461668b52cf7a035db7c5a56bcd02466319e6ab43fb762b1b3f", func := "flarepath/flarepathlaw20.BeamLasts", spec := "beamLasts", apart := false }
def BeamLastsSaid : Prop := beamLastsRow.holds Try.pinned (OpenSpec.ofChange beamLastsSpec)

/-- ITS FALSE NEIGHBOUR: 'it returns false'. Refute it at one input. -/
def beamLastsWrong : ChangeSpec := { name := "beamLasts", fn := fun _ => fun
  | [d] => { results := [.lit (.bool false)], args := [d] }
  | _ => none }
def BeamLastsWrongFalsely : Prop := beamLastsRow.holds Try.pinned (OpenSpec.ofChange beamLastsWrong)

/- THE SECOND FORM. 'bulk': how many values and letters a reading holds, each counted each time it is reached (what is shared counts as often as it is met; a slice's spare places count too). A statement '..UptoSaid' is the law's where the arguments, and the package variables that the reading takes, are together of bulk at most 1048576: NARROWER than '..Said'. Prove '..Said' where nothing that the law and all that it calls make is longer than what came in: it says more and counts as full. Else prove '..UptoSaid'. A law counts once. -/
mutual
def uptoBulk {H : Type} : DataW H → Nat
  | .lit (.string bytes) => bytes.length + 1
  | .lit _ => 1
  | .nil => 1
  | .ptr d => uptoBulk d + 1
  | .slice elems spare => uptoBulkAll elems + uptoBulkAll spare + 1
  | .agg parts => uptoBulkAll parts + 1
  | .iface _ d => uptoBulk d + 1
  | .map entries => uptoBulkEntries entries + 1
  | .held _ => 1
def uptoBulkAll {H : Type} : List (DataW H) → Nat
  | [] => 0
  | d :: r => uptoBulk d + uptoBulkAll r
def uptoBulkEntries {H : Type} : List (Lit × DataW H) → Nat
  | [] => 0
  | x :: r => uptoBulkEntry x + uptoBulkEntries r
def uptoBulkEntry {H : Type} : Lit × DataW H → Nat
  | (.string bytes, d) => bytes.length + uptoBulk d + 1
  | (_, d) => uptoBulk d + 1
 end
def uptoSmall : (H : Type) → List (DataW H) → Bool := fun _ ds => decide (uptoBulkAll ds ≤ 1048576)
def OpenSpec.upto (s : _root_.Go.ChangeSpec) : _root_.Go.OpenSpec := { _root_.Go.OpenSpec.ofChange s with cond := some uptoSmall }

/-- 'flarepathlaw20.BeamTells', WHERE WHAT IT READS IS OF BULK AT MOST 1048576: true; the input reads as it did. -/
def beamTellsUptoRow : OpenClaim := { program := "ytmkdnkgbnnmniaa", sum := "5bff47dc6d3ce461668b52cf7a035db7c5a56bcd02466319e6ab43fb762b1b3f", func := "flarepath/flarepathlaw20.BeamTells", spec := "beamTells", apart := false, narrowed := true }
def BeamTellsUptoSaid : Prop := beamTellsUptoRow.holds Try.pinned (OpenSpec.upto beamTellsSpec)

/-- 'flarepathlaw20.BeamLasts', WHERE WHAT IT READS IS OF BULK AT MOST 1048576: true; the input reads as it did. -/
def beamLastsUptoRow : OpenClaim := { program := "ytmkdnkgbnnmniaa", sum := "5bff47dc6d3ce461668b52cf7a035db7c5a56bcd02466319e6ab43fb762b1b3f", func := "flarepath/flarepathlaw20.BeamLasts", spec := "beamLasts", apart := false, narrowed := true }
def BeamLastsUptoSaid : Prop := beamLastsUptoRow.holds Try.pinned (OpenSpec.upto beamLastsSpec)

end Rows
end Go.Proofs.Ytmkdnkgbnnmniaa
