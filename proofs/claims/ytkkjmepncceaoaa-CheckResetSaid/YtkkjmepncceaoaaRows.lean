/-
  No cell of these rows narrows 'for every input' (looked for: loops, veiled, ifaces, maps, wideKeys, modest, calm, conditions, laid).
  DERIVED. THE GIVEN ROWS OF THIS SEAT. 3 by the template 'for every input the law returns true; each argument reads behind the call as it read before'; 0 by the template 'total and deterministic' (their statements: YtkkjmepncceaoaaTotals.lean).
  GIVEN WITH THE SEED: the statements are not yours to turn. If you find one false, say at which input.
  Laid BY PROGRAM, IN A SANDBOX (cutbox-rows.mjs): the forced cells as the released guide's own fill.sh prints them over the translation 17336110814ce501… (all of the seat's roots in one cut). By AI agents, Wed Nov 11 2026. No macro, syntax, notation, axiom, sorry.
-/
import Derived.Test.YtkkjmepncceaoaaChecked
import GoSem.Claim
import GoSem.ClaimJoined
import GoSem.ClaimMapViews
import Derived.JoinedTies
import Derived.KernelRfl
namespace Go.Proofs.Ytkkjmepncceaoaa
/- THE CELL 'sum', in the pinned program and in every row, IS THE sha256 OF THE DUMP (.gsa) THAT YtkkjmepncceaoaaProg.lean LOADS. Nothing in Lean hashes anything: it is a label: what it is worth is what the hold of that sum in a sandbox is worth. -/
noncomputable def Try.pinned : Pinned := { name := "ytkkjmepncceaoaa", sum := "17336110814ce5011b72496739459ab09221f43878667035b456a4efd10438cb", checked := Try.checked }
namespace Rows
def none {H : Type} : Left H := { results := [], args := [] }

/-- 'flarepathlaw16.CheckTells': WHATEVER THE INPUT: true; the input reads as it did. -/
def checkTellsSpec : ChangeSpec := { name := "checkTells", fn := fun _ => fun
  | [d1, d2, d3, d4] => { results := [.lit (.bool true)], args := [d1, d2, d3, d4] }
  | _ => none }
def checkTellsRow : OpenClaim := { program := "ytkkjmepncceaoaa", sum := "17336110814ce5011b72496739459ab09221f43878667035b456a4efd10438cb", func := "flarepath/flarepathlaw16.CheckTells", spec := "checkTells", apart := false }
def CheckTellsSaid : Prop := checkTellsRow.holds Try.pinned (OpenSpec.ofChange checkTellsSpec)

/-- ITS FALSE NEIGHBOUR: 'it returns false'. Refute it at one input. -/
def checkTellsWrong : ChangeSpec := { name := "checkTells", fn := fun _ => fun
  | [d1, d2, d3, d4] => { results := [.lit (.bool false)], args := [d1, d2, d3, d4] }
  | _ => none }
def CheckTellsWrongFalsely : Prop := checkTellsRow.holds Try.pinned (OpenSpec.ofChange checkTellsWrong)

/-- 'flarepathlaw16.CheckOver': WHATEVER THE INPUT: true; the input reads as it did. -/
def checkOverSpec : ChangeSpec := { name := "checkOver", fn := fun _ => fun
  | [d] => { results := [.lit (.bool true)], args := [d] }
  | _ => none }
def checkOverRow : OpenClaim := { program := "ytkkjmepncceaoaa", sum := "17336110814ce5011b72496739459ab09221f43878667035b456a4efd10438cb", func := "flarepath/flarepathlaw16.CheckOver", spec := "checkOver", apart := false }
def CheckOverSaid : Prop := checkOverRow.holds Try.pinned (OpenSpec.ofChange checkOverSpec)

/-- ITS FALSE NEIGHBOUR: 'it returns false'. Refute it at one input. -/
def checkOverWrong : ChangeSpec := { name := "checkOver", fn := fun _ => fun
  | [d] => { results := [.lit (.bool false)], args := [d] }
  | _ => none }
def CheckOverWrongFalsely : Prop := checkOverRow.holds Try.pinned (OpenSpec.ofChange checkOverWrong)

/-- 'flarepathlaw16.CheckReset': WHATEVER THE INPUT: true; the input reads as it did. -/
def checkResetSpec : ChangeSpec := { name := "checkReset", fn := fun _ => fun
  | [d1, d2, d3] => { results := [.lit (.bool true)], args := [d1, d2, d3] }
  | _ => none }
def checkResetRow : OpenClaim := { program := "ytkkjmepncceaoaa", sum := "17336110814ce5011b72496739459ab09221f43878667035b456a4efd10438cb", func := "flarepath/flarepathlaw16.CheckReset", spec := "checkReset", apart := false }
def CheckResetSaid : Prop := checkResetRow.holds Try.pinned (OpenSpec.ofChange checkResetSpec)

/-- ITS FALSE NEIGHBOUR: 'it returns false'. Refute it at one input. -/
def checkResetWrong : ChangeSpec := { name := "checkReset", fn := fun _ => fun
  | [d1, d2, d3] => { results := [.lit (.bool false)], args := [d1, d2, d3] }
  | _ => none }
def CheckResetWrongFalsely : Prop := checkResetRow.holds Try.pinned (OpenSpec.ofChange checkResetWrong)

/- THE SECOND FORM. 'bulk': how many values and letters a reading holds, each counted each time it is reached (what is shared counts as often as it is met; a slice's spare places count too). A statement '..UptoSaid' is the law's where the arguments, and the package variables that the reading takes, are together of bulk at most 1048576: NARROWER than '..Said'. Prove '..Said' where nothing that the law and all that it calls make is longer than what came in: it says more and counts as full. Else prove '..UptoSaid'. A law counts once. -/
mutual
def uptoBulk {H : Type} : DataW H → Nat
  | .lit (.string bytes) => bytes.length + 1
  | .lit _ => 1
  | .nil => 1
  | .ptr d => uptoBulk d + 1
  | .slice elems spare => uptoBulkAll elems + uptoBulkAll spare + 1
  | .agg parts => uptoBulkAll parts + 1
  | .iface _ d => uptoBulk d + 1
  | .map entries => uptoBulkEntries entries + 1
  | .held _ => 1
def uptoBulkAll {H : Type} : List (DataW H) → Nat
  | [] => 0
  | d :: r => uptoBulk d + uptoBulkAll r
def uptoBulkEntries {H : Type} : List (Lit × DataW H) → Nat
  | [] => 0
  | x :: r => uptoBulkEntry x + uptoBulkEntries r
def uptoBulkEntry {H : Type} : Lit × DataW H → Nat
  | (.string bytes, d) => bytes.length + uptoBulk d + 1
  | (_, d) => uptoBulk d + 1
 end
def uptoSmall : (H : Type) → List (DataW H) → Bool := fun _ ds => decide (uptoBulkAll ds ≤ 1048576)
def OpenSpec.upto (s : _root_.Go.ChangeSpec) : _root_.Go.OpenSpec := { _root_.Go.OpenSpec.ofChange s with cond := some uptoSmall }

/-- 'flarepathlaw16.CheckTells', WHERE WHAT IT READS IS OF BULK AT MOST 1048576: true; the input reads as it did. -/
def checkTellsUptoRow : OpenClaim := { program := "ytkkjmepncceaoaa", sum := "17336110814ce5011b72496739459ab09221f43878667035b456a4efd10438cb", func := "flarepath/flarepathlaw16.CheckTells", spec := "checkTells", apart := false, narrowed := true }
def CheckTellsUptoSaid : Prop := checkTellsUptoRow.holds Try.pinned (OpenSpec.upto checkTellsSpec)

/-- 'flarepathlaw16.CheckOver', WHERE WHAT IT READS IS OF BULK AT MOST 1048576: true; the input reads as it did. -/
def checkOverUptoRow : OpenClaim := { program := "ytkkjmepncceaoaa", sum := "17336110814ce5011b72496739459ab09221f43878667035b456a4efd10438cb", func := "flarepath/flarepathlaw16.CheckOver", spec := "checkOver", apart := false, narrowed := true }
def CheckOverUptoSaid : Prop := checkOverUptoRow.holds Try.pinned (OpenSpec.upto checkOverSpec)

/-- 'flarepathlaw16.CheckReset', WHERE WHAT IT READS IS OF BULK AT MOST 1048576: true; the input reads as it did. -/
def checkResetUptoRow : OpenClaim := { program := "ytkkjmepncceaoaa", sum := "17336110814ce5011b72496739459ab09221f43878667035b456a4efd10438cb", func := "flarepath/flarepathlaw16.CheckReset", spec := "checkReset", apart := false, narrowed := true }
def CheckResetUptoSaid : Prop := checkResetUptoRow.holds Try.pinned (OpenSpec.upto checkResetSpec)

end Rows
end Go.Proofs.Ytkkjmepncceaoaa
