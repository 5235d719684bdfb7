/-
  No cell of these rows narrows 'for every input' (looked for: loops, veiled, ifaces, maps, wideKeys, modest, calm, conditions, laid).
  DERIVED. THE GIVEN ROWS OF THIS SEAT. 4 by the template 'for every input the law returns true; each argument reads behind the call as it read before'; 0 by the template 'total and deterministic' (their statements: YtghbjnbddafobaaTotals.lean).
  GIVEN WITH THE SEED: the statements are not yours to turn. If you find one false, say at which input.
  Laid BY PROGRAM, IN A SANDBOX (cutbox-rows.mjs): the forced cells as the released guide's own fill.sh prints them over the translation 8f91d3cc890ee8bd… (all of the seat's roots in one cut). By AI agents, Wed Nov 11 2026. No macro, syntax, notation, axiom, sorry.
-/
import Derived.Test.YtghbjnbddafobaaChecked
import GoSem.Claim
import GoSem.ClaimJoined
import GoSem.ClaimMapViews
import Derived.JoinedTies
import Derived.KernelRfl
namespace Go.Proofs.Ytghbjnbddafobaa
/- THE CELL 'sum', in the pinned program and in every row, IS THE sha256 OF THE DUMP (.gsa) THAT YtghbjnbddafobaaProg.lean LOADS. Nothing in Lean hashes anything: it is a label: what it is worth is what the hold of that sum in a sandbox is worth. -/
noncomputable def Try.pinned : Pinned := { name := "ytghbjnbddafobaa", sum := "8f91d3cc890ee8bd6b39827621e6bcac2a57bba00655a19d7a11e148e99adb76", checked := Try.checked }
namespace Rows
def none {H : Type} : Left H := { results := [], args := [] }

/-- 'flarepathlaw05.WordTells': WHATEVER THE INPUT: true; the input reads as it did. -/
def wordTellsSpec : ChangeSpec := { name := "wordTells", fn := fun _ => fun
  | [d1, d2, d3] => { results := [.lit (.bool true)], args := [d1, d2, d3] }
  | _ => none }
def wordTellsRow : OpenClaim := { program := "ytghbjnbddafobaa", sum := "8f91d3cc890ee8bd6b39827621e6bcac2a57bba00655a19d7a11e148e99adb76", func := "flarepath/flarepathlaw05.WordTells", spec := "wordTells", apart := false }
def WordTellsSaid : Prop := wordTellsRow.holds Try.pinned (OpenSpec.ofChange wordTellsSpec)

/-- ITS FALSE NEIGHBOUR: 'it returns false'. Refute it at one input. -/
def wordTellsWrong : ChangeSpec := { name := "wordTells", fn := fun _ => fun
  | [d1, d2, d3] => { results := [.lit (.bool false)], args := [d1, d2, d3] }
  | _ => none }
def WordTellsWrongFalsely : Prop := wordTellsRow.holds Try.pinned (OpenSpec.ofChange wordTellsWrong)

/-- 'flarepathlaw05.WordBack': WHATEVER THE INPUT: true; the input reads as it did. -/
def wordBackSpec : ChangeSpec := { name := "wordBack", fn := fun _ => fun
  | [d1, d2] => { results := [.lit (.bool true)], args := [d1, d2] }
  | _ => none }
def wordBackRow : OpenClaim := { program := "ytghbjnbddafobaa", sum := "8f91d3cc890ee8bd6b39827621e6bcac2a57bba00655a19d7a11e148e99adb76", func := "flarepath/flarepathlaw05.WordBack", spec := "wordBack", apart := false }
def WordBackSaid : Prop := wordBackRow.holds Try.pinned (OpenSpec.ofChange wordBackSpec)

/-- ITS FALSE NEIGHBOUR: 'it returns false'. Refute it at one input. -/
def wordBackWrong : ChangeSpec := { name := "wordBack", fn := fun _ => fun
  | [d1, d2] => { results := [.lit (.bool false)], args := [d1, d2] }
  | _ => none }
def WordBackWrongFalsely : Prop := wordBackRow.holds Try.pinned (OpenSpec.ofChange wordBackWrong)

/-- 'flarepathlaw05.WordBit': WHATEVER THE INPUT: true; the input reads as it did. -/
def wordBitSpec : ChangeSpec := { name := "wordBit", fn := fun _ => fun
  | [d1, d2] => { results := [.lit (.bool true)], args := [d1, d2] }
  | _ => none }
def wordBitRow : OpenClaim := { program := "ytghbjnbddafobaa", sum := "8f91d3cc890ee8bd6b39827621e6bcac2a57bba00655a19d7a11e148e99adb76", func := "flarepath/flarepathlaw05.WordBit", spec := "wordBit", apart := false }
def WordBitSaid : Prop := wordBitRow.holds Try.pinned (OpenSpec.ofChange wordBitSpec)

/-- ITS FALSE NEIGHBOUR: 'it returns false'. Refute it at one input. -/
def wordBitWrong : ChangeSpec := { name := "wordBit", fn := fun _ => fun
  | [d1, d2] => { results := [.lit (.bool false)], args := [d1, d2] }
  | _ => none }
def WordBitWrongFalsely : Prop := wordBitRow.holds Try.pinned (OpenSpec.ofChange wordBitWrong)

/-- 'flarepathlaw05.WordTurn': WHATEVER THE INPUT: true; the input reads as it did. -/
def wordTurnSpec : ChangeSpec := { name := "wordTurn", fn := fun _ => fun
  | [d] => { results := [.lit (.bool true)], args := [d] }
  | _ => none }
def wordTurnRow : OpenClaim := { program := "ytghbjnbddafobaa", sum := "8f91d3cc890ee8bd6b39827621e6bcac2a57bba00655a19d7a11e148e99adb76", func := "flarepath/flarepathlaw05.WordTurn", spec := "wordTurn", apart := false }
def WordTurnSaid : Prop := wordTurnRow.holds Try.pinned (OpenSpec.ofChange wordTurnSpec)

/-- ITS FALSE NEIGHBOUR: 'it returns false'. Refute it at one input. -/
def wordTurnWrong : ChangeSpec := { name := "wordTurn", fn := fun _ => fun
  | [d] => { results := [.lit (.bool false)], args := [d] }
  | _ => none }
def WordTurnWrongFalsely : Prop := wordTurnRow.holds Try.pinned (OpenSpec.ofChange wordTurnWrong)

/- THE SECOND FORM. 'bulk': how many values and letters a reading holds, each counted each time it is reached (what is shared counts as often as it is met; a slice's spare places count too). A statement '..UptoSaid' is the law's where the arguments, and the package variables that the reading takes, are together of bulk at most 1048576: NARROWER than '..Said'. Prove '..Said' where nothing that the law and all that it calls make is longer than what came in: it says more and counts as full. Else prove '..UptoSaid'. A law counts once. -/
mutual
def uptoBulk {H : Type} : DataW H → Nat
  | .lit (.string bytes) => bytes.length + 1
  | .lit _ => 1
  | .nil => 1
  | .ptr d => uptoBulk d + 1
  | .slice elems spare => uptoBulkAll elems + uptoBulkAll spare + 1
  | .agg parts => uptoBulkAll parts + 1
  | .iface _ d => uptoBulk d + 1
  | .map entries => uptoBulkEntries entries + 1
  | .held _ => 1
def uptoBulkAll {H : Type} : List (DataW H) → Nat
  | [] => 0
  | d :: r => uptoBulk d + uptoBulkAll r
def uptoBulkEntries {H : Type} : List (Lit × DataW H) → Nat
  | [] => 0
  | x :: r => uptoBulkEntry x + uptoBulkEntries r
def uptoBulkEntry {H : Type} : Lit × DataW H → Nat
  | (.string bytes, d) => bytes.length + uptoBulk d + 1
  | (_, d) => uptoBulk d + 1
 end
def uptoSmall : (H : Type) → List (DataW H) → Bool := fun _ ds => decide (uptoBulkAll ds ≤ 1048576)
def OpenSpec.upto (s : _root_.Go.ChangeSpec) : _root_.Go.OpenSpec := { _root_.Go.OpenSpec.ofChange s with cond := some uptoSmall }

/-- 'flarepathlaw05.WordTells', WHERE WHAT IT READS IS OF BULK AT MOST 1048576: true; the input reads as it did. -/
def wordTellsUptoRow : OpenClaim := { program := "ytghbjnbddafobaa", sum := "8f91d3cc890ee8bd6b39827621e6bcac2a57bba00655a19d7a11e148e99adb76", func := "flarepath/flarepathlaw05.WordTells", spec := "wordTells", apart := false, narrowed := true }
def WordTellsUptoSaid : Prop := wordTellsUptoRow.holds Try.pinned (OpenSpec.upto wordTellsSpec)

/-- 'flarepathlaw05.WordBack', WHERE WHAT IT READS IS OF BULK AT MOST 1048576: true; the input reads as it did. -/
def wordBackUptoRow : OpenClaim := { program := "ytghbjnbddafobaa", sum := "8f91d3cc890ee8bd6b39827621e6bcac2a57bba00655a19d7a11e148e99adb76", func := "flarepath/flarepathlaw05.WordBack", spec := "wordBack", apart := false, narrowed := true }
def WordBackUptoSaid : Prop := wordBackUptoRow.holds Try.pinned (OpenSpec.upto wordBackSpec)

/-- 'flarepathlaw05.WordBit', WHERE WHAT IT READS IS OF BULK AT MOST 1048576: true; the input reads as it did. -/
def wordBitUptoRow : OpenClaim := { program := "ytghbjnbddafobaa", sum := "8f91d3cc890ee8bd6b39827621e6bcac2a57bba00655a19d7a11e148e99adb76", func := "flarepath/flarepathlaw05.WordBit", spec := "wordBit", apart := false, narrowed := true }
def WordBitUptoSaid : Prop := wordBitUptoRow.holds Try.pinned (OpenSpec.upto wordBitSpec)

/-- 'flarepathlaw05.WordTurn', WHERE WHAT IT READS IS OF BULK AT MOST 1048576: true; the input reads as it did. -/
def wordTurnUptoRow : OpenClaim := { program := "ytghbjnbddafobaa", sum := "8f91d3cc890ee8bd6b39827621e6bcac2a57bba00655a19d7a11e148e99adb76", func := "flarepath/flarepathlaw05.WordTurn", spec := "wordTurn", apart := false, narrowed := true }
def WordTurnUptoSaid : Prop := wordTurnUptoRow.holds Try.pinned (OpenSpec.upto wordTurnSpec)

end Rows
end Go.Proofs.Ytghbjnbddafobaa
