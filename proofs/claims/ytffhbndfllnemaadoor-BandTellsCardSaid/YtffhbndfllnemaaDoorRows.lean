/-
  NARROWER THAN 'FOR EVERY INPUT', by the rows' own cells (each row's printed sentence says how): BandTells: laid · BandFalls: laid.
  DERIVED. THE GIVEN ROWS OF THIS SEAT. 2 by the template 'for every input the law returns true; each argument reads behind the call as it read before'; 0 by the template 'total and deterministic' (their statements: YtffhbndfllnemaaDoorTotals.lean).
  GIVEN WITH THE SEED: the statements are not yours to turn. If you find one false, say at which input.
  Laid BY PROGRAM, IN A SANDBOX (cutbox-rows.mjs): the forced cells as the released guide's own fill.sh prints them over the translation 65515af3b9c720bb… (all of the seat's roots in one cut). By AI agents, Wed Nov 11 2026. No macro, syntax, notation, axiom, sorry.
-/
import Derived.Test.YtffhbndfllnemaaDoorChecked
import GoSem.Claim
import GoSem.ClaimJoined
import GoSem.ClaimMapViews
import Derived.JoinedTies
import Derived.KernelRfl
namespace Go.Proofs.YtffhbndfllnemaaDoor
/- THE CELL 'sum', in the pinned program and in every row, IS THE sha256 OF THE DUMP (.gsa) THAT YtffhbndfllnemaaDoorProg.lean LOADS. Nothing in Lean hashes anything: it is a label: what it is worth is what the hold of that sum in a sandbox is worth. -/
noncomputable def Tryd.pinned : Pinned := { name := "ytffhbndfllnemaadoor", sum := "65515af3b9c720bbeb2db1795f0a6d9d6dc66c7e2ea77531849ebc2c78c88f81", checked := Tryd.checked }
namespace Rows
def none {H : Type} : Left H := { results := [], args := [] }

/- WHAT THE LISTED PACKAGE-LEVEL VARIABLES READ AS WHEN THE CALL BEGINS. Each datum BY PROGRAM (the guide's laid-datum.mjs) off the statement by which the dump's own 'gosem.cut.vars' lays the variable. In a bare row this is a premise. The card (YtffhbndfllnemaaDoorCards.lean) ties it to the program's text. -/
def laid_flarepath_band_edges {H : Type} : DataW H := .agg [.agg [.lit (.int .i64 6096), .lit (.int .u8 0)], .agg [.lit (.int .i64 1524), .lit (.int .u8 1)], .agg [.lit (.int .i64 300), .lit (.int .u8 2)]]

/-- 'flarepathlaw19.BandTells': WHATEVER THE INPUT: true; the input reads as it did. -/
def bandTellsSpec : ChangeSpec := { name := "bandTells", fn := fun _ => fun
  | [d1, d2, d3, d4, d5, d6] => { results := [.lit (.bool true)], args := [d1, d2, d3, d4, d5, d6] }
  | _ => none }
def bandTellsRow : OpenClaim := { program := "ytffhbndfllnemaadoor", sum := "65515af3b9c720bbeb2db1795f0a6d9d6dc66c7e2ea77531849ebc2c78c88f81", func := "flarepath/flarepathlaw19.BandTells", spec := "bandTells", named := ["flarepath/band.edges"], apart := false, laid := [("flarepath/band.edges", laid_flarepath_band_edges)] }
def BandTellsSaid : Prop := bandTellsRow.holds Tryd.pinned (OpenSpec.ofChange bandTellsSpec)

/-- ITS FALSE NEIGHBOUR: 'it returns false'. Refute it at one input. -/
def bandTellsWrong : ChangeSpec := { name := "bandTells", fn := fun _ => fun
  | [d1, d2, d3, d4, d5, d6] => { results := [.lit (.bool false)], args := [d1, d2, d3, d4, d5, d6] }
  | _ => none }
def BandTellsWrongFalsely : Prop := bandTellsRow.holds Tryd.pinned (OpenSpec.ofChange bandTellsWrong)

/-- 'flarepathlaw19.BandFalls': WHATEVER THE INPUT: true; the input reads as it did. -/
def bandFallsSpec : ChangeSpec := { name := "bandFalls", fn := fun _ => fun
  | [d1, d2] => { results := [.lit (.bool true)], args := [d1, d2] }
  | _ => none }
def bandFallsRow : OpenClaim := { program := "ytffhbndfllnemaadoor", sum := "65515af3b9c720bbeb2db1795f0a6d9d6dc66c7e2ea77531849ebc2c78c88f81", func := "flarepath/flarepathlaw19.BandFalls", spec := "bandFalls", named := ["flarepath/band.edges"], apart := false, laid := [("flarepath/band.edges", laid_flarepath_band_edges)] }
def BandFallsSaid : Prop := bandFallsRow.holds Tryd.pinned (OpenSpec.ofChange bandFallsSpec)

/-- ITS FALSE NEIGHBOUR: 'it returns false'. Refute it at one input. -/
def bandFallsWrong : ChangeSpec := { name := "bandFalls", fn := fun _ => fun
  | [d1, d2] => { results := [.lit (.bool false)], args := [d1, d2] }
  | _ => none }
def BandFallsWrongFalsely : Prop := bandFallsRow.holds Tryd.pinned (OpenSpec.ofChange bandFallsWrong)

/- THE SECOND FORM. 'bulk': how many values and letters a reading holds, each counted each time it is reached (what is shared counts as often as it is met; a slice's spare places count too). A statement '..UptoSaid' is the law's where the arguments, and the package variables that the reading takes, are together of bulk at most 1048576: NARROWER than '..Said'. Prove '..Said' where nothing that the law and all that it calls make is longer than what came in: it says more and counts as full. Else prove '..UptoSaid'. A law counts once. -/
mutual
def uptoBulk {H : Type} : DataW H → Nat
  | .lit (.string bytes) => bytes.length + 1
  | .lit _ => 1
  | .nil => 1
  | .ptr d => uptoBulk d + 1
  | .slice elems spare => uptoBulkAll elems + uptoBulkAll spare + 1
  | .agg parts => uptoBulkAll parts + 1
  | .iface _ d => uptoBulk d + 1
  | .map entries => uptoBulkEntries entries + 1
  | .held _ => 1
def uptoBulkAll {H : Type} : List (DataW H) → Nat
  | [] => 0
  | d :: r => uptoBulk d + uptoBulkAll r
def uptoBulkEntries {H : Type} : List (Lit × DataW H) → Nat
  | [] => 0
  | x :: r => uptoBulkEntry x + uptoBulkEntries r
def uptoBulkEntry {H : Type} : Lit × DataW H → Nat
  | (.string bytes, d) => bytes.length + uptoBulk d + 1
  | (_, d) => uptoBulk d + 1
 end
def uptoSmall : (H : Type) → List (DataW H) → Bool := fun _ ds => decide (uptoBulkAll ds ≤ 1048576)
def OpenSpec.upto (s : _root_.Go.ChangeSpec) : _root_.Go.OpenSpec := { _root_.Go.OpenSpec.ofChange s with cond := some uptoSmall }

/-- 'flarepathlaw19.BandTells', WHERE WHAT IT READS IS OF BULK AT MOST 1048576: true; the input reads as it did. -/
def bandTellsUptoRow : OpenClaim := { program := "ytffhbndfllnemaadoor", sum := "65515af3b9c720bbeb2db1795f0a6d9d6dc66c7e2ea77531849ebc2c78c88f81", func := "flarepath/flarepathlaw19.BandTells", spec := "bandTells", named := ["flarepath/band.edges"], apart := false, laid := [("flarepath/band.edges", laid_flarepath_band_edges)], narrowed := true }
def BandTellsUptoSaid : Prop := bandTellsUptoRow.holds Tryd.pinned (OpenSpec.upto bandTellsSpec)

/-- 'flarepathlaw19.BandFalls', WHERE WHAT IT READS IS OF BULK AT MOST 1048576: true; the input reads as it did. -/
def bandFallsUptoRow : OpenClaim := { program := "ytffhbndfllnemaadoor", sum := "65515af3b9c720bbeb2db1795f0a6d9d6dc66c7e2ea77531849ebc2c78c88f81", func := "flarepath/flarepathlaw19.BandFalls", spec := "bandFalls", named := ["flarepath/band.edges"], apart := false, laid := [("flarepath/band.edges", laid_flarepath_band_edges)], narrowed := true }
def BandFallsUptoSaid : Prop := bandFallsUptoRow.holds Tryd.pinned (OpenSpec.upto bandFallsSpec)

end Rows
end Go.Proofs.YtffhbndfllnemaaDoor
