/-
  No cell of these rows narrows 'for every input' (looked for: loops, veiled, ifaces, maps, wideKeys, modest, calm, conditions, laid).
  DERIVED. THE GIVEN ROWS OF THIS SEAT. 3 by the template 'for every input the law returns true; each argument reads behind the call as it read before'; 0 by the template 'total and deterministic' (their statements: YtblcejljgmjbcaaTotals.lean).
  GIVEN WITH THE SEED: the statements are not yours to turn. If you find one false, say at which input.
  Laid BY PROGRAM, IN A SANDBOX (cutbox-rows.mjs): the forced cells as the released guide's own fill.sh prints them over the translation b50036b695657618… (all of the seat's roots in one cut). By AI agents, Wed Nov 11 2026. No macro, syntax, notation, axiom, sorry.
-/
import Derived.Test.YtblcejljgmjbcaaChecked
import GoSem.Claim
import GoSem.ClaimJoined
import GoSem.ClaimMapViews
import Derived.JoinedTies
import Derived.KernelRfl
namespace Go.Proofs.Ytblcejljgmjbcaa
/- THE CELL 'sum', in the pinned program and in every row, IS THE sha256 OF THE DUMP (.gsa) THAT YtblcejljgmjbcaaProg.lean LOADS. Nothing in Lean hashes anything: it is a label: what it is worth is what the hold of that sum in a sandbox is worth. -/
noncomputable def Try.pinned : Pinned := { name := "ytblcejljgmjbcaa", sum := "b50036b6956576181d10319220d679683172d3756a222e14b803c527f3c9d7b2", checked := Try.checked }
namespace Rows
def none {H : Type} : Left H := { results := [], args := [] }

/-- 'flarepathlaw03.LagGoes': WHATEVER THE INPUT: true; the input reads as it did. -/
def lagGoesSpec : ChangeSpec := { name := "lagGoes", fn := fun _ => fun
  | [d1, d2, d3, d4, d5] => { results := [.lit (.bool true)], args := [d1, d2, d3, d4, d5] }
  | _ => none }
def lagGoesRow : OpenClaim := { program := "ytblcejljgmjbcaa", sum := "b50036b6956576181d10319220d679683172d3756a222e14b803c527f3c9d7b2", func := "flarepath/flarepathlaw03.LagGoes", spec := "lagGoes", apart := false }
def LagGoesSaid : Prop := lagGoesRow.holds Try.pinned (OpenSpec.ofChange lagGoesSpec)

/-- ITS FALSE NEIGHBOUR: 'it returns false'. Refute it at one input. -/
def lagGoesWrong : ChangeSpec := { name := "lagGoes", fn := fun _ => fun
  | [d1, d2, d3, d4, d5] => { results := [.lit (.bool false)], args := [d1, d2, d3, d4, d5] }
  | _ => none }
def LagGoesWrongFalsely : Prop := lagGoesRow.holds Try.pinned (OpenSpec.ofChange lagGoesWrong)

/-- 'flarepathlaw03.LagNears': WHATEVER THE INPUT: true; the input reads as it did. -/
def lagNearsSpec : ChangeSpec := { name := "lagNears", fn := fun _ => fun
  | [d1, d2, d3, d4] => { results := [.lit (.bool true)], args := [d1, d2, d3, d4] }
  | _ => none }
def lagNearsRow : OpenClaim := { program := "ytblcejljgmjbcaa", sum := "b50036b6956576181d10319220d679683172d3756a222e14b803c527f3c9d7b2", func := "flarepath/flarepathlaw03.LagNears", spec := "lagNears", apart := false }
def LagNearsSaid : Prop := lagNearsRow.holds Try.pinned (OpenSpec.ofChange lagNearsSpec)

/-- ITS FALSE NEIGHBOUR: 'it returns false'. Refute it at one input. -/
def lagNearsWrong : ChangeSpec := { name := "lagNears", fn := fun _ => fun
  | [d1, d2, d3, d4] => { results := [.lit (.bool false)], args := [d1, d2, d3, d4] }
  | _ => none }
def LagNearsWrongFalsely : Prop := lagNearsRow.holds Try.pinned (OpenSpec.ofChange lagNearsWrong)

/-- 'flarepathlaw03.LagComes': WHATEVER THE INPUT: true; the input reads as it did. -/
def lagComesSpec : ChangeSpec := { name := "lagComes", fn := fun _ => fun
  | [d1, d2, d3] => { results := [.lit (.bool true)], args := [d1, d2, d3] }
  | _ => none }
def lagComesRow : OpenClaim := { program := "ytblcejljgmjbcaa", sum := "b50036b6956576181d10319220d679683172d3756a222e14b803c527f3c9d7b2", func := "flarepath/flarepathlaw03.LagComes", spec := "lagComes", apart := false }
def LagComesSaid : Prop := lagComesRow.holds Try.pinned (OpenSpec.ofChange lagComesSpec)

/-- ITS FALSE NEIGHBOUR: 'it returns false'. Refute it at one input. -/
def lagComesWrong : ChangeSpec := { name := "lagComes", fn := fun _ => fun
  | [d1, d2, d3] => { results := [.lit (.bool false)], args := [d1, d2, d3] }
  | _ => none }
def LagComesWrongFalsely : Prop := lagComesRow.holds Try.pinned (OpenSpec.ofChange lagComesWrong)

/- THE SECOND FORM. 'bulk': how many values and letters a reading holds, each counted each time it is reached (what is shared counts as often as it is met; a slice's spare places count too). A statement '..UptoSaid' is the law's where the arguments, and the package variables that the reading takes, are together of bulk at most 1048576: NARROWER than '..Said'. Prove '..Said' where nothing that the law and all that it calls make is longer than what came in: it says more and counts as full. Else prove '..UptoSaid'. A law counts once. -/
mutual
def uptoBulk {H : Type} : DataW H → Nat
  | .lit (.string bytes) => bytes.length + 1
  | .lit _ => 1
  | .nil => 1
  | .ptr d => uptoBulk d + 1
  | .slice elems spare => uptoBulkAll elems + uptoBulkAll spare + 1
  | .agg parts => uptoBulkAll parts + 1
  | .iface _ d => uptoBulk d + 1
  | .map entries => uptoBulkEntries entries + 1
  | .held _ => 1
def uptoBulkAll {H : Type} : List (DataW H) → Nat
  | [] => 0
  | d :: r => uptoBulk d + uptoBulkAll r
def uptoBulkEntries {H : Type} : List (Lit × DataW H) → Nat
  | [] => 0
  | x :: r => uptoBulkEntry x + uptoBulkEntries r
def uptoBulkEntry {H : Type} : Lit × DataW H → Nat
  | (.string bytes, d) => bytes.length + uptoBulk d + 1
  | (_, d) => uptoBulk d + 1
 end
def uptoSmall : (H : Type) → List (DataW H) → Bool := fun _ ds => decide (uptoBulkAll ds ≤ 1048576)
def OpenSpec.upto (s : _root_.Go.ChangeSpec) : _root_.Go.OpenSpec := { _root_.Go.OpenSpec.ofChange s with cond := some uptoSmall }

/-- 'flarepathlaw03.LagGoes', WHERE WHAT IT READS IS OF BULK AT MOST 1048576: true; the input reads as it did. -/
def lagGoesUptoRow : OpenClaim := { program := "ytblcejljgmjbcaa", sum := "b50036b6956576181d10319220d679683172d3756a222e14b803c527f3c9d7b2", func := "flarepath/flarepathlaw03.LagGoes", spec := "lagGoes", apart := false, narrowed := true }
def LagGoesUptoSaid : Prop := lagGoesUptoRow.holds Try.pinned (OpenSpec.upto lagGoesSpec)

/-- 'flarepathlaw03.LagNears', WHERE WHAT IT READS IS OF BULK AT MOST 1048576: true; the input reads as it did. -/
def lagNearsUptoRow : OpenClaim := { program := "ytblcejljgmjbcaa", sum := "b50036b6956576181d10319220d679683172d3756a222e14b803c527f3c9d7b2", func := "flarepath/flarepathlaw03.LagNears", spec := "lagNears", apart := false, narrowed := true }
def LagNearsUptoSaid : Prop := lagNearsUptoRow.holds Try.pinned (OpenSpec.upto lagNearsSpec)

/-- 'flarepathlaw03.LagComes', WHERE WHAT IT READS IS OF BULK AT MOST 1048576: true; the input reads as it did. -/
def lagComesUptoRow : OpenClaim := { program := "ytblcejljgmjbcaa", sum := "b50036b6956576181d10319220d679683172d3756a222e14b803c527f3c9d7b2", func := "flarepath/flarepathlaw03.LagComes", spec := "lagComes", apart := false, narrowed := true }
def LagComesUptoSaid : Prop := lagComesUptoRow.holds Try.pinned (OpenSpec.upto lagComesSpec)

end Rows
end Go.Proofs.Ytblcejljgmjbcaa
