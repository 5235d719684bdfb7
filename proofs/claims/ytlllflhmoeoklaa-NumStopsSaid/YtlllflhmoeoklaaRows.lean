/-
  No cell of these rows narrows 'for every input' (looked for: loops, veiled, ifaces, maps, wideKeys, modest, calm, conditions, laid).
  DERIVED. THE GIVEN ROWS OF THIS SEAT. 5 by the template 'for every input the law returns true; each argument reads behind the call as it read before'; 0 by the template 'total and deterministic' (their statements: YtlllflhmoeoklaaTotals.lean).
  GIVEN WITH THE SEED: the statements are not yours to turn. If you find one false, say at which input.
  Laid BY PROGRAM, IN A SANDBOX (cutbox-rows.mjs): the forced cells as the released guide's own fill.sh prints them over the translation 7c4558f873f8b490… (all of the seat's roots in one cut). By AI agents, Wed Nov 11 2026. No macro, syntax, notation, axiom, sorry.
-/
import Derived.Test.YtlllflhmoeoklaaChecked
import GoSem.Claim
import GoSem.ClaimJoined
import GoSem.ClaimMapViews
import Derived.JoinedTies
import Derived.KernelRfl
namespace Go.Proofs.Ytlllflhmoeoklaa
/- THE CELL 'sum', in the pinned program and in every row, IS THE sha256 OF THE DUMP (.gsa) THAT YtlllflhmoeoklaaProg.lean LOADS. Nothing in Lean hashes anything: it is a label: what it is worth is what the hold of that sum in a sandbox is worth. -/
noncomputable def Try.pinned : Pinned := { name := "ytlllflhmoeoklaa", sum := "7c4558f873f8b4902a9738f2ae7a1924506cbc2cbfb324ff4432d15c8960673d", checked := Try.checked }
namespace Rows
def none {H : Type} : Left H := { results := [], args := [] }

/-- 'flarepathlaw01.NumReckons': WHATEVER THE INPUT: true; the input reads as it did. -/
def numReckonsSpec : ChangeSpec := { name := "numReckons", fn := fun _ => fun
  | [d1, d2] => { results := [.lit (.bool true)], args := [d1, d2] }
  | _ => none }
def numReckonsRow : OpenClaim := { program := "ytlllflhmoeoklaa", sum := "7c4558f873f8b4902a9738f2ae7a1924506cbc2cbfb324ff4432d15c8960673d", func := "flarepath/flarepathlaw01.NumReckons", spec := "numReckons", apart := false }
def NumReckonsSaid : Prop := numReckonsRow.holds Try.pinned (OpenSpec.ofChange numReckonsSpec)

/-- ITS FALSE NEIGHBOUR: 'it returns false'. Refute it at one input. -/
def numReckonsWrong : ChangeSpec := { name := "numReckons", fn := fun _ => fun
  | [d1, d2] => { results := [.lit (.bool false)], args := [d1, d2] }
  | _ => none }
def NumReckonsWrongFalsely : Prop := numReckonsRow.holds Try.pinned (OpenSpec.ofChange numReckonsWrong)

/-- 'flarepathlaw01.NumStops': WHATEVER THE INPUT: true; the input reads as it did. -/
def numStopsSpec : ChangeSpec := { name := "numStops", fn := fun _ => fun
  | [d1, d2, d3] => { results := [.lit (.bool true)], args := [d1, d2, d3] }
  | _ => none }
def numStopsRow : OpenClaim := { program := "ytlllflhmoeoklaa", sum := "7c4558f873f8b4902a9738f2ae7a1924506cbc2cbfb324ff4432d15c8960673d", func := "flarepath/flarepathlaw01.NumStops", spec := "numStops", apart := false }
def NumStopsSaid : Prop := numStopsRow.holds Try.pinned (OpenSpec.ofChange numStopsSpec)

/-- ITS FALSE NEIGHBOUR: 'it returns false'. Refute it at one input. -/
def numStopsWrong : ChangeSpec := { name := "numStops", fn := fun _ => fun
  | [d1, d2, d3] => { results := [.lit (.bool false)], args := [d1, d2, d3] }
  | _ => none }
def NumStopsWrongFalsely : Prop := numStopsRow.holds Try.pinned (OpenSpec.ofChange numStopsWrong)

/-- 'flarepathlaw01.NumRises': WHATEVER THE INPUT: true; the input reads as it did. -/
def numRisesSpec : ChangeSpec := { name := "numRises", fn := fun _ => fun
  | [d1, d2, d3] => { results := [.lit (.bool true)], args := [d1, d2, d3] }
  | _ => none }
def numRisesRow : OpenClaim := { program := "ytlllflhmoeoklaa", sum := "7c4558f873f8b4902a9738f2ae7a1924506cbc2cbfb324ff4432d15c8960673d", func := "flarepath/flarepathlaw01.NumRises", spec := "numRises", apart := false }
def NumRisesSaid : Prop := numRisesRow.holds Try.pinned (OpenSpec.ofChange numRisesSpec)

/-- ITS FALSE NEIGHBOUR: 'it returns false'. Refute it at one input. -/
def numRisesWrong : ChangeSpec := { name := "numRises", fn := fun _ => fun
  | [d1, d2, d3] => { results := [.lit (.bool false)], args := [d1, d2, d3] }
  | _ => none }
def NumRisesWrongFalsely : Prop := numRisesRow.holds Try.pinned (OpenSpec.ofChange numRisesWrong)

/-- 'flarepathlaw01.NumNear': WHATEVER THE INPUT: true; the input reads as it did. -/
def numNearSpec : ChangeSpec := { name := "numNear", fn := fun _ => fun
  | [d1, d2, d3] => { results := [.lit (.bool true)], args := [d1, d2, d3] }
  | _ => none }
def numNearRow : OpenClaim := { program := "ytlllflhmoeoklaa", sum := "7c4558f873f8b4902a9738f2ae7a1924506cbc2cbfb324ff4432d15c8960673d", func := "flarepath/flarepathlaw01.NumNear", spec := "numNear", apart := false }
def NumNearSaid : Prop := numNearRow.holds Try.pinned (OpenSpec.ofChange numNearSpec)

/-- ITS FALSE NEIGHBOUR: 'it returns false'. Refute it at one input. -/
def numNearWrong : ChangeSpec := { name := "numNear", fn := fun _ => fun
  | [d1, d2, d3] => { results := [.lit (.bool false)], args := [d1, d2, d3] }
  | _ => none }
def NumNearWrongFalsely : Prop := numNearRow.holds Try.pinned (OpenSpec.ofChange numNearWrong)

/-- 'flarepathlaw01.NumWithin': WHATEVER THE INPUT: true; the input reads as it did. -/
def numWithinSpec : ChangeSpec := { name := "numWithin", fn := fun _ => fun
  | [d1, d2, d3] => { results := [.lit (.bool true)], args := [d1, d2, d3] }
  | _ => none }
def numWithinRow : OpenClaim := { program := "ytlllflhmoeoklaa", sum := "7c4558f873f8b4902a9738f2ae7a1924506cbc2cbfb324ff4432d15c8960673d", func := "flarepath/flarepathlaw01.NumWithin", spec := "numWithin", apart := false }
def NumWithinSaid : Prop := numWithinRow.holds Try.pinned (OpenSpec.ofChange numWithinSpec)

/-- ITS FALSE NEIGHBOUR: 'it returns false'. Refute it at one input. -/
def numWithinWrong : ChangeSpec := { name := "numWithin", fn := fun _ => fun
  | [d1, d2, d3] => { results := [.lit (.bool false)], args := [d1, d2, d3] }
  | _ => none }
def NumWithinWrongFalsely : Prop := numWithinRow.holds Try.pinned (OpenSpec.ofChange numWithinWrong)

/- THE SECOND FORM. 'bulk': how many values and letters a reading holds, each counted each time it is reached (what is shared counts as often as it is met; a slice's spare places count too). A statement '..UptoSaid' is the law's where the arguments, and the package variables that the reading takes, are together of bulk at most 1048576: NARROWER than '..Said'. Prove '..Said' where nothing that the law and all that it calls make is longer than what came in: it says more and counts as full. Else prove '..UptoSaid'. A law counts once. -/
mutual
def uptoBulk {H : Type} : DataW H → Nat
  | .lit (.string bytes) => bytes.length + 1
  | .lit _ => 1
  | .nil => 1
  | .ptr d => uptoBulk d + 1
  | .slice elems spare => uptoBulkAll elems + uptoBulkAll spare + 1
  | .agg parts => uptoBulkAll parts + 1
  | .iface _ d => uptoBulk d + 1
  | .map entries => uptoBulkEntries entries + 1
  | .held _ => 1
def uptoBulkAll {H : Type} : List (DataW H) → Nat
  | [] => 0
  | d :: r => uptoBulk d + uptoBulkAll r
def uptoBulkEntries {H : Type} : List (Lit × DataW H) → Nat
  | [] => 0
  | x :: r => uptoBulkEntry x + uptoBulkEntries r
def uptoBulkEntry {H : Type} : Lit × DataW H → Nat
  | (.string bytes, d) => bytes.length + uptoBulk d + 1
  | (_, d) => uptoBulk d + 1
 end
def uptoSmall : (H : Type) → List (DataW H) → Bool := fun _ ds => decide (uptoBulkAll ds ≤ 1048576)
def OpenSpec.upto (s : _root_.Go.ChangeSpec) : _root_.Go.OpenSpec := { _root_.Go.OpenSpec.ofChange s with cond := some uptoSmall }

/-- 'flarepathlaw01.NumReckons', WHERE WHAT IT READS IS OF BULK AT MOST 1048576: true; the input reads as it did. -/
def numReckonsUptoRow : OpenClaim := { program := "ytlllflhmoeoklaa", sum := "7c4558f873f8b4902a9738f2ae7a1924506cbc2cbfb324ff4432d15c8960673d", func := "flarepath/flarepathlaw01.NumReckons", spec := "numReckons", apart := false, narrowed := true }
def NumReckonsUptoSaid : Prop := numReckonsUptoRow.holds Try.pinned (OpenSpec.upto numReckonsSpec)

/-- 'flarepathlaw01.NumStops', WHERE WHAT IT READS IS OF BULK AT MOST 1048576: true; the input reads as it did. -/
def numStopsUptoRow : OpenClaim := { program := "ytlllflhmoeoklaa", sum := "7c4558f873f8b4902a9738f2ae7a1924506cbc2cbfb324ff4432d15c8960673d", func := "flarepath/flarepathlaw01.NumStops", spec := "numStops", apart := false, narrowed := true }
def NumStopsUptoSaid : Prop := numStopsUptoRow.holds Try.pinned (OpenSpec.upto numStopsSpec)

/-- 'flarepathlaw01.NumRises', WHERE WHAT IT READS IS OF BULK AT MOST 1048576: true; the input reads as it did. -/
def numRisesUptoRow : OpenClaim := { program := "ytlllflhmoeoklaa", sum := "7c4558f873f8b4902a9738f2ae7a1924506cbc2cbfb324ff4432d15c8960673d", func := "flarepath/flarepathlaw01.NumRises", spec := "numRises", apart := false, narrowed := true }
def NumRisesUptoSaid : Prop := numRisesUptoRow.holds Try.pinned (OpenSpec.upto numRisesSpec)

/-- 'flarepathlaw01.NumNear', WHERE WHAT IT READS IS OF BULK AT MOST 1048576: true; the input reads as it did. -/
def numNearUptoRow : OpenClaim := { program := "ytlllflhmoeoklaa", sum := "7c4558f873f8b4902a9738f2ae7a1924506cbc2cbfb324ff4432d15c8960673d", func := "flarepath/flarepathlaw01.NumNear", spec := "numNear", apart := false, narrowed := true }
def NumNearUptoSaid : Prop := numNearUptoRow.holds Try.pinned (OpenSpec.upto numNearSpec)

/-- 'flarepathlaw01.NumWithin', WHERE WHAT IT READS IS OF BULK AT MOST 1048576: true; the input reads as it did. -/
def numWithinUptoRow : OpenClaim := { program := "ytlllflhmoeoklaa", sum := "7c4558f873f8b4902a9738f2ae7a1924506cbc2cbfb324ff4432d15c8960673d", func := "flarepath/flarepathlaw01.NumWithin", spec := "numWithin", apart := false, narrowed := true }
def NumWithinUptoSaid : Prop := numWithinUptoRow.holds Try.pinned (OpenSpec.upto numWithinSpec)

end Rows
end Go.Proofs.Ytlllflhmoeoklaa
