/-
  No cell of these rows narrows 'for every input' (looked for: loops, veiled, ifaces, maps, wideKeys, modest, calm, conditions, laid).
  DERIVED. THE GIVEN ROWS OF THIS SEAT. 4 by the template 'for every input the law returns true; each argument reads behind the call as it read before'; 0 by the template 'total and deterministic' (their statements: YtjkfpnplocmhiaaTotals.lean).
  GIVEN WITH THE SEED: the statements are not yours to turn. If you find one false, say at which input.
  Laid BY PROGRAM, IN A SANDBOX (cutbox-rows.mjs): the forced cells as the released guide's own fill.sh prints them over the translation cac2c401005c1182… (all of the seat's roots in one cut). By AI agents, Wed Nov 11 2026. No macro, syntax, notation, axiom, sorry.
-/
import Derived.Test.YtjkfpnplocmhiaaChecked
import GoSem.Claim
import GoSem.ClaimJoined
import GoSem.ClaimMapViews
import Derived.JoinedTies
import Derived.KernelRfl
namespace Go.Proofs.Ytjkfpnplocmhiaa
/- THE CELL 'sum', in the pinned program and in every row, IS THE sha256 OF THE DUMP (.gsa) THAT YtjkfpnplocmhiaaProg.lean LOADS. Nothing in Lean hashes anything: it is a label: what it is worth is what the hold of that sum in a sandbox is worth. -/
noncomputable def Try.pinned : Pinned := { name := "ytjkfpnplocmhiaa", sum := "cac2c401005c1182aef1c0875b54d277a9f5454f7af1736a57f5075a75783dff", checked := Try.checked }
namespace Rows
def none {H : Type} : Left H := { results := [], args := [] }

/-- 'flarepathlaw08.PortTells': WHATEVER THE INPUT: true; the input reads as it did. -/
def portTellsSpec : ChangeSpec := { name := "portTells", fn := fun _ => fun
  | [d1, d2, d3, d4] => { results := [.lit (.bool true)], args := [d1, d2, d3, d4] }
  | _ => none }
def portTellsRow : OpenClaim := { program := "ytjkfpnplocmhiaa", sum := "cac2c401005c1182aef1c0875b54d277a9f5454f7af1736a57f5075a75783dff", func := "flarepath/flarepathlaw08.PortTells", spec := "portTells", unfollowed := true, recurses := true, apart := false }
def PortTellsSaid : Prop := portTellsRow.holds Try.pinned (OpenSpec.ofChange portTellsSpec)

/-- ITS FALSE NEIGHBOUR: 'it returns false'. Refute it at one input. -/
def portTellsWrong : ChangeSpec := { name := "portTells", fn := fun _ => fun
  | [d1, d2, d3, d4] => { results := [.lit (.bool false)], args := [d1, d2, d3, d4] }
  | _ => none }
def PortTellsWrongFalsely : Prop := portTellsRow.holds Try.pinned (OpenSpec.ofChange portTellsWrong)

/-- 'flarepathlaw08.PortAll': WHATEVER THE INPUT: true; the input reads as it did. -/
def portAllSpec : ChangeSpec := { name := "portAll", fn := fun _ => fun
  | [d] => { results := [.lit (.bool true)], args := [d] }
  | _ => none }
def portAllRow : OpenClaim := { program := "ytjkfpnplocmhiaa", sum := "cac2c401005c1182aef1c0875b54d277a9f5454f7af1736a57f5075a75783dff", func := "flarepath/flarepathlaw08.PortAll", spec := "portAll", unfollowed := true, recurses := true, apart := false }
def PortAllSaid : Prop := portAllRow.holds Try.pinned (OpenSpec.ofChange portAllSpec)

/-- ITS FALSE NEIGHBOUR: 'it returns false'. Refute it at one input. -/
def portAllWrong : ChangeSpec := { name := "portAll", fn := fun _ => fun
  | [d] => { results := [.lit (.bool false)], args := [d] }
  | _ => none }
def PortAllWrongFalsely : Prop := portAllRow.holds Try.pinned (OpenSpec.ofChange portAllWrong)

/-- 'flarepathlaw08.PortBack': WHATEVER THE INPUT: true; the input reads as it did. -/
def portBackSpec : ChangeSpec := { name := "portBack", fn := fun _ => fun
  | [d1, d2, d3, d4, d5, d6] => { results := [.lit (.bool true)], args := [d1, d2, d3, d4, d5, d6] }
  | _ => none }
def portBackRow : OpenClaim := { program := "ytjkfpnplocmhiaa", sum := "cac2c401005c1182aef1c0875b54d277a9f5454f7af1736a57f5075a75783dff", func := "flarepath/flarepathlaw08.PortBack", spec := "portBack", unfollowed := true, recurses := true, apart := false }
def PortBackSaid : Prop := portBackRow.holds Try.pinned (OpenSpec.ofChange portBackSpec)

/-- ITS FALSE NEIGHBOUR: 'it returns false'. Refute it at one input. -/
def portBackWrong : ChangeSpec := { name := "portBack", fn := fun _ => fun
  | [d1, d2, d3, d4, d5, d6] => { results := [.lit (.bool false)], args := [d1, d2, d3, d4, d5, d6] }
  | _ => none }
def PortBackWrongFalsely : Prop := portBackRow.holds Try.pinned (OpenSpec.ofChange portBackWrong)

/-- 'flarepathlaw08.PortOne': WHATEVER THE INPUT: true; the input reads as it did. -/
def portOneSpec : ChangeSpec := { name := "portOne", fn := fun _ => fun
  | [d1, d2, d3] => { results := [.lit (.bool true)], args := [d1, d2, d3] }
  | _ => none }
def portOneRow : OpenClaim := { program := "ytjkfpnplocmhiaa", sum := "cac2c401005c1182aef1c0875b54d277a9f5454f7af1736a57f5075a75783dff", func := "flarepath/flarepathlaw08.PortOne", spec := "portOne", unfollowed := true, recurses := true, apart := false }
def PortOneSaid : Prop := portOneRow.holds Try.pinned (OpenSpec.ofChange portOneSpec)

/-- ITS FALSE NEIGHBOUR: 'it returns false'. Refute it at one input. -/
def portOneWrong : ChangeSpec := { name := "portOne", fn := fun _ => fun
  | [d1, d2, d3] => { results := [.lit (.bool false)], args := [d1, d2, d3] }
  | _ => none }
def PortOneWrongFalsely : Prop := portOneRow.holds Try.pinned (OpenSpec.ofChange portOneWrong)

/- THE SECOND FORM. 'bulk': how many values and letters a reading holds, each counted each time it is reached (what is shared counts as often as it is met; a slice's spare places count too). A statement '..UptoSaid' is the law's where the arguments, and the package variables that the reading takes, are together of bulk at most 1048576: NARROWER than '..Said'. Prove '..Said' where nothing that the law and all that it calls make is longer than what came in: it says more and counts as full. Else prove '..UptoSaid'. A law counts once. -/
mutual
def uptoBulk {H : Type} : DataW H → Nat
  | .lit (.string bytes) => bytes.length + 1
  | .lit _ => 1
  | .nil => 1
  | .ptr d => uptoBulk d + 1
  | .slice elems spare => uptoBulkAll elems + uptoBulkAll spare + 1
  | .agg parts => uptoBulkAll parts + 1
  | .iface _ d => uptoBulk d + 1
  | .map entries => uptoBulkEntries entries + 1
  | .held _ => 1
def uptoBulkAll {H : Type} : List (DataW H) → Nat
  | [] => 0
  | d :: r => uptoBulk d + uptoBulkAll r
def uptoBulkEntries {H : Type} : List (Lit × DataW H) → Nat
  | [] => 0
  | x :: r => uptoBulkEntry x + uptoBulkEntries r
def uptoBulkEntry {H : Type} : Lit × DataW H → Nat
  | (.string bytes, d) => bytes.length + uptoBulk d + 1
  | (_, d) => uptoBulk d + 1
 end
def uptoSmall : (H : Type) → List (DataW H) → Bool := fun _ ds => decide (uptoBulkAll ds ≤ 1048576)
def OpenSpec.upto (s : _root_.Go.ChangeSpec) : _root_.Go.OpenSpec := { _root_.Go.OpenSpec.ofChange s with cond := some uptoSmall }

/-- 'flarepathlaw08.PortTells', WHERE WHAT IT READS IS OF BULK AT MOST 1048576: true; the input reads as it did. -/
def portTellsUptoRow : OpenClaim := { program := "ytjkfpnplocmhiaa", sum := "cac2c401005c1182aef1c0875b54d277a9f5454f7af1736a57f5075a75783dff", func := "flarepath/flarepathlaw08.PortTells", spec := "portTells", unfollowed := true, recurses := true, apart := false, narrowed := true }
def PortTellsUptoSaid : Prop := portTellsUptoRow.holds Try.pinned (OpenSpec.upto portTellsSpec)

/-- 'flarepathlaw08.PortAll', WHERE WHAT IT READS IS OF BULK AT MOST 1048576: true; the input reads as it did. -/
def portAllUptoRow : OpenClaim := { program := "ytjkfpnplocmhiaa", sum := "cac2c401005c1182aef1c0875b54d277a9f5454f7af1736a57f5075a75783dff", func := "flarepath/flarepathlaw08.PortAll", spec := "portAll", unfollowed := true, recurses := true, apart := false, narrowed := true }
def PortAllUptoSaid : Prop := portAllUptoRow.holds Try.pinned (OpenSpec.upto portAllSpec)

/-- 'flarepathlaw08.PortBack', WHERE WHAT IT READS IS OF BULK AT MOST 1048576: true; the input reads as it did. -/
def portBackUptoRow : OpenClaim := { program := "ytjkfpnplocmhiaa", sum := "cac2c401005c1182aef1c0875b54d277a9f5454f7af1736a57f5075a75783dff", func := "flarepath/flarepathlaw08.PortBack", spec := "portBack", unfollowed := true, recurses := true, apart := false, narrowed := true }
def PortBackUptoSaid : Prop := portBackUptoRow.holds Try.pinned (OpenSpec.upto portBackSpec)

/-- 'flarepathlaw08.PortOne', WHERE WHAT IT READS IS OF BULK AT MOST 1048576: true; the input reads as it did. -/
def portOneUptoRow : OpenClaim := { program := "ytjkfpnplocmhiaa", sum := "cac2c401005c1182aef1c0875b54d277a9f5454f7af1736a57f5075a75783dff", func := "flarepath/flarepathlaw08.PortOne", spec := "portOne", unfollowed := true, recurses := true, apart := false, narrowed := true }
def PortOneUptoSaid : Prop := portOneUptoRow.holds Try.pinned (OpenSpec.upto portOneSpec)

end Rows
end Go.Proofs.Ytjkfpnplocmhiaa
