/-
  NARROWER THAN 'FOR EVERY INPUT', by the rows' own cells (each row's printed sentence says how): OutTells: laid · OutSteps: laid.
  DERIVED. THE GIVEN ROWS OF THIS SEAT. 2 by the template 'for every input the law returns true; each argument reads behind the call as it read before'; 0 by the template 'total and deterministic' (their statements: YtgmgpefegmlnoaaDoorTotals.lean).
  GIVEN WITH THE SEED: the statements are not yours to turn. If you find one false, say at which input.
  Laid BY PROGRAM, IN A SANDBOX (cutbox-rows.mjs): the forced cells as the released guide's own fill.sh prints them over the translation 2fbaeec09974fde3… (all of the seat's roots in one cut). By AI agents, Wed Nov 11 2026. No macro, syntax, notation, axiom, sorry.
-/
import Derived.Test.YtgmgpefegmlnoaaDoorChecked
import GoSem.Claim
import GoSem.ClaimJoined
import GoSem.ClaimMapViews
import Derived.JoinedTies
import Derived.KernelRfl
namespace Go.Proofs.YtgmgpefegmlnoaaDoor
/- THE CELL 'sum', in the pinned program and in every row, IS THE sha256 OF THE DUMP (.gsa) THAT YtgmgpefegmlnoaaDoorProg.lean LOADS. Nothing in Lean hashes anything: it is a label: what it is worth is what the hold of that sum in a sandbox is worth. -/
noncomputable def Tryd.pinned : Pinned := { name := "ytgmgpefegmlnoaadoor", sum := "2fbaeec09974fde35a259329a6730ef2ab4078ae34a19dd2aa724946f339be3d", checked := Tryd.checked }
namespace Rows
def none {H : Type} : Left H := { results := [], args := [] }

/- WHAT THE LISTED PACKAGE-LEVEL VARIABLES READ AS WHEN THE CALL BEGINS. Each datum BY PROGRAM (the guide's laid-datum.mjs) off the statement by which the dump's own 'gosem.cut.vars' lays the variable. In a bare row this is a premise. The card (YtgmgpefegmlnoaaDoorCards.lean) ties it to the program's text. -/
def laid_flarepath_out_bounds {H : Type} : DataW H := .agg [.agg [.lit (.int .i64 (-20)), .lit (.int .i64 20), .lit (.int .i64 40)], .agg [.lit (.int .i64 (-20)), .lit (.int .i64 24), .lit (.int .i64 14)], .agg [.lit (.int .i64 (-500)), .lit (.int .i64 500), .lit (.int .i64 1000)]]

/-- 'flarepathlaw25.OutTells': WHATEVER THE INPUT: true; the input reads as it did. -/
def outTellsSpec : ChangeSpec := { name := "outTells", fn := fun _ => fun
  | [d1, d2, d3, d4] => { results := [.lit (.bool true)], args := [d1, d2, d3, d4] }
  | _ => none }
def outTellsRow : OpenClaim := { program := "ytgmgpefegmlnoaadoor", sum := "2fbaeec09974fde35a259329a6730ef2ab4078ae34a19dd2aa724946f339be3d", func := "flarepath/flarepathlaw25.OutTells", spec := "outTells", unfollowed := true, recurses := true, named := ["flarepath/out.bounds"], apart := false, laid := [("flarepath/out.bounds", laid_flarepath_out_bounds)] }
def OutTellsSaid : Prop := outTellsRow.holds Tryd.pinned (OpenSpec.ofChange outTellsSpec)

/-- ITS FALSE NEIGHBOUR: 'it returns false'. Refute it at one input. -/
def outTellsWrong : ChangeSpec := { name := "outTells", fn := fun _ => fun
  | [d1, d2, d3, d4] => { results := [.lit (.bool false)], args := [d1, d2, d3, d4] }
  | _ => none }
def OutTellsWrongFalsely : Prop := outTellsRow.holds Tryd.pinned (OpenSpec.ofChange outTellsWrong)

/-- 'flarepathlaw25.OutSteps': WHATEVER THE INPUT: true; the input reads as it did. -/
def outStepsSpec : ChangeSpec := { name := "outSteps", fn := fun _ => fun
  | [d1, d2, d3, d4] => { results := [.lit (.bool true)], args := [d1, d2, d3, d4] }
  | _ => none }
def outStepsRow : OpenClaim := { program := "ytgmgpefegmlnoaadoor", sum := "2fbaeec09974fde35a259329a6730ef2ab4078ae34a19dd2aa724946f339be3d", func := "flarepath/flarepathlaw25.OutSteps", spec := "outSteps", unfollowed := true, recurses := true, named := ["flarepath/out.bounds"], apart := false, laid := [("flarepath/out.bounds", laid_flarepath_out_bounds)] }
def OutStepsSaid : Prop := outStepsRow.holds Tryd.pinned (OpenSpec.ofChange outStepsSpec)

/-- ITS FALSE NEIGHBOUR: 'it returns false'. Refute it at one input. -/
def outStepsWrong : ChangeSpec := { name := "outSteps", fn := fun _ => fun
  | [d1, d2, d3, d4] => { results := [.lit (.bool false)], args := [d1, d2, d3, d4] }
  | _ => none }
def OutStepsWrongFalsely : Prop := outStepsRow.holds Tryd.pinned (OpenSpec.ofChange outStepsWrong)

/- THE SECOND FORM. 'bulk': how many values and letters a reading holds, each counted each time it is reached (what is shared counts as often as it is met; a slice's spare places count too). A statement '..UptoSaid' is the law's where the arguments, and the package variables that the reading takes, are together of bulk at most 1048576: NARROWER than '..Said'. Prove '..Said' where nothing that the law and all that it calls make is longer than what came in: it says more and counts as full. Else prove '..UptoSaid'. A law counts once. -/
mutual
def uptoBulk {H : Type} : DataW H → Nat
  | .lit (.string bytes) => bytes.length + 1
  | .lit _ => 1
  | .nil => 1
  | .ptr d => uptoBulk d + 1
  | .slice elems spare => uptoBulkAll elems + uptoBulkAll spare + 1
  | .agg parts => uptoBulkAll parts + 1
  | .iface _ d => uptoBulk d + 1
  | .map entries => uptoBulkEntries entries + 1
  | .held _ => 1
def uptoBulkAll {H : Type} : List (DataW H) → Nat
  | [] => 0
  | d :: r => uptoBulk d + uptoBulkAll r
def uptoBulkEntries {H : Type} : List (Lit × DataW H) → Nat
  | [] => 0
  | x :: r => uptoBulkEntry x + uptoBulkEntries r
def uptoBulkEntry {H : Type} : Lit × DataW H → Nat
  | (.string bytes, d) => bytes.length + uptoBulk d + 1
  | (_, d) => uptoBulk d + 1
 end
def uptoSmall : (H : Type) → List (DataW H) → Bool := fun _ ds => decide (uptoBulkAll ds ≤ 1048576)
def OpenSpec.upto (s : _root_.Go.ChangeSpec) : _root_.Go.OpenSpec := { _root_.Go.OpenSpec.ofChange s with cond := some uptoSmall }

/-- 'flarepathlaw25.OutTells', WHERE WHAT IT READS IS OF BULK AT MOST 1048576: true; the input reads as it did. -/
def outTellsUptoRow : OpenClaim := { program := "ytgmgpefegmlnoaadoor", sum := "2fbaeec09974fde35a259329a6730ef2ab4078ae34a19dd2aa724946f339be3d", func := "flarepath/flarepathlaw25.OutTells", spec := "outTells", unfollowed := true, recurses := true, named := ["flarepath/out.bounds"], apart := false, laid := [("flarepath/out.bounds", laid_flarepath_out_bounds)], narrowed := true }
def OutTellsUptoSaid : Prop := outTellsUptoRow.holds Tryd.pinned (OpenSpec.upto outTellsSpec)

/-- 'flarepathlaw25.OutSteps', WHERE WHAT IT READS IS OF BULK AT MOST 1048576: true; the input reads as it did. -/
def outStepsUptoRow : OpenClaim := { program := "ytgmgpefegmlnoaadoor", sum := "2fbaeec09974fde35a259329a6730ef2ab4078ae34a19dd2aa724946f339be3d", func := "flarepath/flarepathlaw25.OutSteps", spec := "outSteps", unfollowed := true, recurses := true, named := ["flarepath/out.bounds"], apart := false, laid := [("flarepath/out.bounds", laid_flarepath_out_bounds)], narrowed := true }
def OutStepsUptoSaid : Prop := outStepsUptoRow.holds Tryd.pinned (OpenSpec.upto outStepsSpec)

end Rows
end Go.Proofs.YtgmgpefegmlnoaaDoor
