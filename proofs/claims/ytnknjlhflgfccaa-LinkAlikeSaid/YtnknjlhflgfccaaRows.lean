/-
  No cell of these rows narrows 'for every input' (looked for: loops, veiled, ifaces, maps, wideKeys, modest, calm, conditions, laid).
  DERIVED. THE GIVEN ROWS OF THIS SEAT. 2 by the template 'for every input the law returns true; each argument reads behind the call as it read before'; 0 by the template 'total and deterministic' (their statements: YtnknjlhflgfccaaTotals.lean).
  GIVEN WITH THE SEED: the statements are not yours to turn. If you find one false, say at which input.
  Laid BY PROGRAM, IN A SANDBOX (cutbox-rows.mjs): the forced cells as the released guide's own fill.sh prints them over the translation 706fb51a1d3514ab… (all of the seat's roots in one cut). By AI agents, Wed Nov 11 2026. No macro, syntax, notation, axiom, sorry.
-/
import Derived.Test.YtnknjlhflgfccaaChecked
import GoSem.Claim
import GoSem.ClaimJoined
import GoSem.ClaimMapViews
import Derived.JoinedTies
import Derived.KernelRfl
namespace Go.Proofs.Ytnknjlhflgfccaa
/- THE CELL 'sum', in the pinned program and in every row, IS THE sha256 OF THE DUMP (.gsa) THAT YtnknjlhflgfccaaProg.lean LOADS. Nothing in Lean hashes anything: it is a label: what it is worth is what the hold of that sum in a sandbox is worth. -/
noncomputable def Try.pinned : Pinned := { name := "ytnknjlhflgfccaa", sum := "706fb51a1d3514ab6a829fca828158e6effdebef93b9b7856b95d59c77c000e5", checked := Try.checked }
namespace Rows
def none {H : Type} : Left H := { results := [], args := [] }

/-- 'flarepathlaw13.LinkAlike': WHATEVER THE INPUT: true; the input reads as it did. -/
def linkAlikeSpec : ChangeSpec := { name := "linkAlike", fn := fun _ => fun
  | [d1, d2] => { results := [.lit (.bool true)], args := [d1, d2] }
  | _ => none }
def linkAlikeRow : OpenClaim := { program := "ytnknjlhflgfccaa", sum := "706fb51a1d3514ab6a829fca828158e6effdebef93b9b7856b95d59c77c000e5", func := "flarepath/flarepathlaw13.LinkAlike", spec := "linkAlike", apart := false }
def LinkAlikeSaid : Prop := linkAlikeRow.holds Try.pinned (OpenSpec.ofChange linkAlikeSpec)

/-- ITS FALSE NEIGHBOUR: 'it returns false'. Refute it at one input. -/
def linkAlikeWrong : ChangeSpec := { name := "linkAlike", fn := fun _ => fun
  | [d1, d2] => { results := [.lit (.bool false)], args := [d1, d2] }
  | _ => none }
def LinkAlikeWrongFalsely : Prop := linkAlikeRow.holds Try.pinned (OpenSpec.ofChange linkAlikeWrong)

/-- 'flarepathlaw13.LinkDead': WHATEVER THE INPUT: true; the input reads as it did. -/
def linkDeadSpec : ChangeSpec := { name := "linkDead", fn := fun _ => fun
  | [d1, d2, d3, d4] => { results := [.lit (.bool true)], args := [d1, d2, d3, d4] }
  | _ => none }
def linkDeadRow : OpenClaim := { program := "ytnknjlhflgfccaa", sum := "706fb51a1d3514ab6a829fca828158e6effdebef93b9b7856b95d59c77c000e5", func := "flarepath/flarepathlaw13.LinkDead", spec := "linkDead", apart := false }
def LinkDeadSaid : Prop := linkDeadRow.holds Try.pinned (OpenSpec.ofChange linkDeadSpec)

/-- ITS FALSE NEIGHBOUR: 'it returns false'. Refute it at one input. -/
def linkDeadWrong : ChangeSpec := { name := "linkDead", fn := fun _ => fun
  | [d1, d2, d3, d4] => { results := [.lit (.bool false)], args := [d1, d2, d3, d4] }
  | _ => none }
def LinkDeadWrongFalsely : Prop := linkDeadRow.holds Try.pinned (OpenSpec.ofChange linkDeadWrong)

/- THE SECOND FORM. 'bulk': how many values and letters a reading holds, each counted each time it is reached (what is shared counts as often as it is met; a slice's spare places count too). A statement '..UptoSaid' is the law's where the arguments, and the package variables that the reading takes, are together of bulk at most 1048576: NARROWER than '..Said'. Prove '..Said' where nothing that the law and all that it calls make is longer than what came in: it says more and counts as full. Else prove '..UptoSaid'. A law counts once. -/
mutual
def uptoBulk {H : Type} : DataW H → Nat
  | .lit (.string bytes) => bytes.length + 1
  | .lit _ => 1
  | .nil => 1
  | .ptr d => uptoBulk d + 1
  | .slice elems spare => uptoBulkAll elems + uptoBulkAll spare + 1
  | .agg parts => uptoBulkAll parts + 1
  | .iface _ d => uptoBulk d + 1
  | .map entries => uptoBulkEntries entries + 1
  | .held _ => 1
def uptoBulkAll {H : Type} : List (DataW H) → Nat
  | [] => 0
  | d :: r => uptoBulk d + uptoBulkAll r
def uptoBulkEntries {H : Type} : List (Lit × DataW H) → Nat
  | [] => 0
  | x :: r => uptoBulkEntry x + uptoBulkEntries r
def uptoBulkEntry {H : Type} : Lit × DataW H → Nat
  | (.string bytes, d) => bytes.length + uptoBulk d + 1
  | (_, d) => uptoBulk d + 1
 end
def uptoSmall : (H : Type) → List (DataW H) → Bool := fun _ ds => decide (uptoBulkAll ds ≤ 1048576)
def OpenSpec.upto (s : _root_.Go.ChangeSpec) : _root_.Go.OpenSpec := { _root_.Go.OpenSpec.ofChange s with cond := some uptoSmall }

/-- 'flarepathlaw13.LinkAlike', WHERE WHAT IT READS IS OF BULK AT MOST 1048576: true; the input reads as it did. -/
def linkAlikeUptoRow : OpenClaim := { program := "ytnknjlhflgfccaa", sum := "706fb51a1d3514ab6a829fca828158e6effdebef93b9b7856b95d59c77c000e5", func := "flarepath/flarepathlaw13.LinkAlike", spec := "linkAlike", apart := false, narrowed := true }
def LinkAlikeUptoSaid : Prop := linkAlikeUptoRow.holds Try.pinned (OpenSpec.upto linkAlikeSpec)

/-- 'flarepathlaw13.LinkDead', WHERE WHAT IT READS IS OF BULK AT MOST 1048576: true; the input reads as it did. -/
def linkDeadUptoRow : OpenClaim := { program := "ytnknjlhflgfccaa", sum := "706fb51a1d3514ab6a829fca828158e6effdebef93b9b7856b95d59c77c000e5", func := "flarepath/flarepathlaw13.LinkDead", spec := "linkDead", apart := false, narrowed := true }
def LinkDeadUptoSaid : Prop := linkDeadUptoRow.holds Try.pinned (OpenSpec.upto linkDeadSpec)

end Rows
end Go.Proofs.Ytnknjlhflgfccaa
