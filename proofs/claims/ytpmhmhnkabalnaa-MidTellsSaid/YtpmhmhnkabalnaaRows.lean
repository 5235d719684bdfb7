/-
  No cell of these rows narrows 'for every input' (looked for: loops, veiled, ifaces, maps, wideKeys, modest, calm, conditions, laid).
  DERIVED. THE GIVEN ROWS OF THIS SEAT. 3 by the template 'for every input the law returns true; each argument reads behind the call as it read before'; 0 by the template 'total and deterministic' (their statements: YtpmhmhnkabalnaaTotals.lean).
  GIVEN WITH THE SEED: the statements are not yours to turn. If you find one false, say at which input.
  Laid BY PROGRAM, IN A SANDBOX (cutbox-rows.mjs): the forced cells as the released guide's own fill.sh prints them over the translation 4a392d22575d5fd0… (all of the seat's roots in one cut). By AI agents, Wed Nov 11 2026. No macro, syntax, notation, axiom, sorry.
-/
import Derived.Test.YtpmhmhnkabalnaaChecked
import GoSem.Claim
import GoSem.ClaimJoined
import GoSem.ClaimMapViews
import Derived.JoinedTies
import Derived.KernelRfl
namespace Go.Proofs.Ytpmhmhnkabalnaa
/- THE CELL 'sum', in the pinned program and in every row, IS THE sha256 OF THE DUMP (.gsa) THAT YtpmhmhnkabalnaaProg.lean LOADS. Nothing in Lean hashes anything: it is a label: what it is worth is what the hold of that sum in a sandbox is worth. -/
noncomputable def Try.pinned : Pinned := { name := "ytpmhmhnkabalnaa", sum := "4a392d22575d5fd0e0df2148d63c4820a34223e397a4d3bf127374aa3664150d", checked := Try.checked }
namespace Rows
def none {H : Type} : Left H := { results := [], args := [] }

/-- 'flarepathlaw09.MidTells': WHATEVER THE INPUT: true; the input reads as it did. -/
def midTellsSpec : ChangeSpec := { name := "midTells", fn := fun _ => fun
  | [d1, d2, d3, d4, d5] => { results := [.lit (.bool true)], args := [d1, d2, d3, d4, d5] }
  | _ => none }
def midTellsRow : OpenClaim := { program := "ytpmhmhnkabalnaa", sum := "4a392d22575d5fd0e0df2148d63c4820a34223e397a4d3bf127374aa3664150d", func := "flarepath/flarepathlaw09.MidTells", spec := "midTells", apart := false }
def MidTellsSaid : Prop := midTellsRow.holds Try.pinned (OpenSpec.ofChange midTellsSpec)

/-- ITS FALSE NEIGHBOUR: 'it returns false'. Refute it at one input. -/
def midTellsWrong : ChangeSpec := { name := "midTells", fn := fun _ => fun
  | [d1, d2, d3, d4, d5] => { results := [.lit (.bool false)], args := [d1, d2, d3, d4, d5] }
  | _ => none }
def MidTellsWrongFalsely : Prop := midTellsRow.holds Try.pinned (OpenSpec.ofChange midTellsWrong)

/-- 'flarepathlaw09.MidBetween': WHATEVER THE INPUT: true; the input reads as it did. -/
def midBetweenSpec : ChangeSpec := { name := "midBetween", fn := fun _ => fun
  | [d1, d2, d3, d4] => { results := [.lit (.bool true)], args := [d1, d2, d3, d4] }
  | _ => none }
def midBetweenRow : OpenClaim := { program := "ytpmhmhnkabalnaa", sum := "4a392d22575d5fd0e0df2148d63c4820a34223e397a4d3bf127374aa3664150d", func := "flarepath/flarepathlaw09.MidBetween", spec := "midBetween", apart := false }
def MidBetweenSaid : Prop := midBetweenRow.holds Try.pinned (OpenSpec.ofChange midBetweenSpec)

/-- ITS FALSE NEIGHBOUR: 'it returns false'. Refute it at one input. -/
def midBetweenWrong : ChangeSpec := { name := "midBetween", fn := fun _ => fun
  | [d1, d2, d3, d4] => { results := [.lit (.bool false)], args := [d1, d2, d3, d4] }
  | _ => none }
def MidBetweenWrongFalsely : Prop := midBetweenRow.holds Try.pinned (OpenSpec.ofChange midBetweenWrong)

/-- 'flarepathlaw09.MidFollows': WHATEVER THE INPUT: true; the input reads as it did. -/
def midFollowsSpec : ChangeSpec := { name := "midFollows", fn := fun _ => fun
  | [d1, d2, d3, d4, d5] => { results := [.lit (.bool true)], args := [d1, d2, d3, d4, d5] }
  | _ => none }
def midFollowsRow : OpenClaim := { program := "ytpmhmhnkabalnaa", sum := "4a392d22575d5fd0e0df2148d63c4820a34223e397a4d3bf127374aa3664150d", func := "flarepath/flarepathlaw09.MidFollows", spec := "midFollows", apart := false }
def MidFollowsSaid : Prop := midFollowsRow.holds Try.pinned (OpenSpec.ofChange midFollowsSpec)

/-- ITS FALSE NEIGHBOUR: 'it returns false'. Refute it at one input. -/
def midFollowsWrong : ChangeSpec := { name := "midFollows", fn := fun _ => fun
  | [d1, d2, d3, d4, d5] => { results := [.lit (.bool false)], args := [d1, d2, d3, d4, d5] }
  | _ => none }
def MidFollowsWrongFalsely : Prop := midFollowsRow.holds Try.pinned (OpenSpec.ofChange midFollowsWrong)

/- THE SECOND FORM. 'bulk': how many values and letters a reading holds, each counted each time it is reached (what is shared counts as often as it is met; a slice's spare places count too). A statement '..UptoSaid' is the law's where the arguments, and the package variables that the reading takes, are together of bulk at most 1048576: NARROWER than '..Said'. Prove '..Said' where nothing that the law and all that it calls make is longer than what came in: it says more and counts as full. Else prove '..UptoSaid'. A law counts once. -/
mutual
def uptoBulk {H : Type} : DataW H → Nat
  | .lit (.string bytes) => bytes.length + 1
  | .lit _ => 1
  | .nil => 1
  | .ptr d => uptoBulk d + 1
  | .slice elems spare => uptoBulkAll elems + uptoBulkAll spare + 1
  | .agg parts => uptoBulkAll parts + 1
  | .iface _ d => uptoBulk d + 1
  | .map entries => uptoBulkEntries entries + 1
  | .held _ => 1
def uptoBulkAll {H : Type} : List (DataW H) → Nat
  | [] => 0
  | d :: r => uptoBulk d + uptoBulkAll r
def uptoBulkEntries {H : Type} : List (Lit × DataW H) → Nat
  | [] => 0
  | x :: r => uptoBulkEntry x + uptoBulkEntries r
def uptoBulkEntry {H : Type} : Lit × DataW H → Nat
  | (.string bytes, d) => bytes.length + uptoBulk d + 1
  | (_, d) => uptoBulk d + 1
 end
def uptoSmall : (H : Type) → List (DataW H) → Bool := fun _ ds => decide (uptoBulkAll ds ≤ 1048576)
def OpenSpec.upto (s : _root_.Go.ChangeSpec) : _root_.Go.OpenSpec := { _root_.Go.OpenSpec.ofChange s with cond := some uptoSmall }

/-- 'flarepathlaw09.MidTells', WHERE WHAT IT READS IS OF BULK AT MOST 1048576: true; the input reads as it did. -/
def midTellsUptoRow : OpenClaim := { program := "ytpmhmhnkabalnaa", sum := "4a392d22575d5fd0e0df2148d63c4820a34223e397a4d3bf127374aa3664150d", func := "flarepath/flarepathlaw09.MidTells", spec := "midTells", apart := false, narrowed := true }
def MidTellsUptoSaid : Prop := midTellsUptoRow.holds Try.pinned (OpenSpec.upto midTellsSpec)

/-- 'flarepathlaw09.MidBetween', WHERE WHAT IT READS IS OF BULK AT MOST 1048576: true; the input reads as it did. -/
def midBetweenUptoRow : OpenClaim := { program := "ytpmhmhnkabalnaa", sum := "4a392d22575d5fd0e0df2148d63c4820a34223e397a4d3bf127374aa3664150d", func := "flarepath/flarepathlaw09.MidBetween", spec := "midBetween", apart := false, narrowed := true }
def MidBetweenUptoSaid : Prop := midBetweenUptoRow.holds Try.pinned (OpenSpec.upto midBetweenSpec)

/-- 'flarepathlaw09.MidFollows', WHERE WHAT IT READS IS OF BULK AT MOST 1048576: true; the input reads as it did. -/
def midFollowsUptoRow : OpenClaim := { program := "ytpmhmhnkabalnaa", sum := "4a392d22575d5fd0e0df2148d63c4820a34223e397a4d3bf127374aa3664150d", func := "flarepath/flarepathlaw09.MidFollows", spec := "midFollows", apart := false, narrowed := true }
def MidFollowsUptoSaid : Prop := midFollowsUptoRow.holds Try.pinned (OpenSpec.upto midFollowsSpec)

end Rows
end Go.Proofs.Ytpmhmhnkabalnaa
