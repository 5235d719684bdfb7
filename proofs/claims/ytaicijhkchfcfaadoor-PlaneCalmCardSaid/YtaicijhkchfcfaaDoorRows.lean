/-
  NARROWER THAN 'FOR EVERY INPUT', by the rows' own cells (each row's printed sentence says how): PlaneFlies: laid · PlaneCalm: laid · PlaneDown: laid · PlaneSays: laid.
  DERIVED. THE GIVEN ROWS OF THIS SEAT. 4 by the template 'for every input the law returns true; each argument reads behind the call as it read before'; 0 by the template 'total and deterministic' (their statements: YtaicijhkchfcfaaDoorTotals.lean).
  GIVEN WITH THE SEED: the statements are not yours to turn. If you find one false, say at which input.
  Laid BY PROGRAM, IN A SANDBOX (cutbox-rows.mjs): the forced cells as the released guide's own fill.sh prints them over the translation 50b79291bf389b7a… (all of the seat's roots in one cut). By AI agents, Wed Nov 11 2026. No macro, syntax, notation, axiom, sorry.
-/
import Derived.Test.YtaicijhkchfcfaaDoorChecked
import GoSem.Claim
import GoSem.ClaimJoined
import GoSem.ClaimMapViews
import Derived.JoinedTies
import Derived.KernelRfl
namespace Go.Proofs.YtaicijhkchfcfaaDoor
/- THE CELL 'sum', in the pinned program and in every row, IS THE sha256 OF THE DUMP (.gsa) THAT YtaicijhkchfcfaaDoorProg.lean LOADS. Nothing in Lean hashes anything: it is a label: what it is worth is what the hold of that sum in a sandbox is worth. -/
noncomputable def Tryd.pinned : Pinned := { name := "ytaicijhkchfcfaadoor", sum := "50b79291bf389b7a4ea4c5cb919b689934a861d821eaed4d1372dc745e693795", checked := Tryd.checked }
namespace Rows
def none {H : Type} : Left H := { results := [], args := [] }

/- WHAT THE LISTED PACKAGE-LEVEL VARIABLES READ AS WHEN THE CALL BEGINS. Each datum BY PROGRAM (the guide's laid-datum.mjs) off the statement by which the dump's own 'gosem.cut.vars' lays the variable. In a bare row this is a premise. The card (YtaicijhkchfcfaaDoorCards.lean) ties it to the program's text. -/
def laid_flarepath_plane_mostAir {H : Type} : DataW H := .agg [.lit (.int .i64 20), .lit (.int .i64 2), .lit (.int .i64 1), .lit (.int .i64 50)]
def laid_flarepath_plane_mostWrong {H : Type} : DataW H := .agg [.lit (.int .i64 30), .lit (.int .i64 30), .lit (.int .i64 30), .lit (.int .i64 500)]

/-- 'flarepathlaw28.PlaneFlies': WHATEVER THE INPUT: true; the input reads as it did. -/
def planeFliesSpec : ChangeSpec := { name := "planeFlies", fn := fun _ => fun
  | [d1, d2, d3] => { results := [.lit (.bool true)], args := [d1, d2, d3] }
  | _ => none }
def planeFliesRow : OpenClaim := { program := "ytaicijhkchfcfaadoor", sum := "50b79291bf389b7a4ea4c5cb919b689934a861d821eaed4d1372dc745e693795", func := "flarepath/flarepathlaw28.PlaneFlies", spec := "planeFlies", unfollowed := true, recurses := true, named := ["flarepath/plane.mostAir", "flarepath/plane.mostWrong"], apart := false, laid := [("flarepath/plane.mostAir", laid_flarepath_plane_mostAir), ("flarepath/plane.mostWrong", laid_flarepath_plane_mostWrong)] }
def PlaneFliesSaid : Prop := planeFliesRow.holds Tryd.pinned (OpenSpec.ofChange planeFliesSpec)

/-- ITS FALSE NEIGHBOUR: 'it returns false'. Refute it at one input. -/
def planeFliesWrong : ChangeSpec := { name := "planeFlies", fn := fun _ => fun
  | [d1, d2, d3] => { results := [.lit (.bool false)], args := [d1, d2, d3] }
  | _ => none }
def PlaneFliesWrongFalsely : Prop := planeFliesRow.holds Tryd.pinned (OpenSpec.ofChange planeFliesWrong)

/-- 'flarepathlaw28.PlaneCalm': WHATEVER THE INPUT: true; the input reads as it did. -/
def planeCalmSpec : ChangeSpec := { name := "planeCalm", fn := fun _ => fun
  | [d1, d2, d3] => { results := [.lit (.bool true)], args := [d1, d2, d3] }
  | _ => none }
def planeCalmRow : OpenClaim := { program := "ytaicijhkchfcfaadoor", sum := "50b79291bf389b7a4ea4c5cb919b689934a861d821eaed4d1372dc745e693795", func := "flarepath/flarepathlaw28.PlaneCalm", spec := "planeCalm", unfollowed := true, recurses := true, named := ["flarepath/plane.mostAir", "flarepath/plane.mostWrong"], apart := false, laid := [("flarepath/plane.mostAir", laid_flarepath_plane_mostAir), ("flarepath/plane.mostWrong", laid_flarepath_plane_mostWrong)] }
def PlaneCalmSaid : Prop := planeCalmRow.holds Tryd.pinned (OpenSpec.ofChange planeCalmSpec)

/-- ITS FALSE NEIGHBOUR: 'it returns false'. Refute it at one input. -/
def planeCalmWrong : ChangeSpec := { name := "planeCalm", fn := fun _ => fun
  | [d1, d2, d3] => { results := [.lit (.bool false)], args := [d1, d2, d3] }
  | _ => none }
def PlaneCalmWrongFalsely : Prop := planeCalmRow.holds Tryd.pinned (OpenSpec.ofChange planeCalmWrong)

/-- 'flarepathlaw28.PlaneDown': WHATEVER THE INPUT: true; the input reads as it did. -/
def planeDownSpec : ChangeSpec := { name := "planeDown", fn := fun _ => fun
  | [d1, d2, d3] => { results := [.lit (.bool true)], args := [d1, d2, d3] }
  | _ => none }
def planeDownRow : OpenClaim := { program := "ytaicijhkchfcfaadoor", sum := "50b79291bf389b7a4ea4c5cb919b689934a861d821eaed4d1372dc745e693795", func := "flarepath/flarepathlaw28.PlaneDown", spec := "planeDown", unfollowed := true, recurses := true, named := ["flarepath/plane.mostAir", "flarepath/plane.mostWrong"], apart := false, laid := [("flarepath/plane.mostAir", laid_flarepath_plane_mostAir), ("flarepath/plane.mostWrong", laid_flarepath_plane_mostWrong)] }
def PlaneDownSaid : Prop := planeDownRow.holds Tryd.pinned (OpenSpec.ofChange planeDownSpec)

/-- ITS FALSE NEIGHBOUR: 'it returns false'. Refute it at one input. -/
def planeDownWrong : ChangeSpec := { name := "planeDown", fn := fun _ => fun
  | [d1, d2, d3] => { results := [.lit (.bool false)], args := [d1, d2, d3] }
  | _ => none }
def PlaneDownWrongFalsely : Prop := planeDownRow.holds Tryd.pinned (OpenSpec.ofChange planeDownWrong)

/-- 'flarepathlaw28.PlaneSays': WHATEVER THE INPUT: true; the input reads as it did. -/
def planeSaysSpec : ChangeSpec := { name := "planeSays", fn := fun _ => fun
  | [d1, d2] => { results := [.lit (.bool true)], args := [d1, d2] }
  | _ => none }
def planeSaysRow : OpenClaim := { program := "ytaicijhkchfcfaadoor", sum := "50b79291bf389b7a4ea4c5cb919b689934a861d821eaed4d1372dc745e693795", func := "flarepath/flarepathlaw28.PlaneSays", spec := "planeSays", unfollowed := true, recurses := true, named := ["flarepath/plane.mostAir", "flarepath/plane.mostWrong"], apart := false, laid := [("flarepath/plane.mostAir", laid_flarepath_plane_mostAir), ("flarepath/plane.mostWrong", laid_flarepath_plane_mostWrong)] }
def PlaneSaysSaid : Prop := planeSaysRow.holds Tryd.pinned (OpenSpec.ofChange planeSaysSpec)

/-- ITS FALSE NEIGHBOUR: 'it returns false'. Refute it at one input. -/
def planeSaysWrong : ChangeSpec := { name := "planeSays", fn := fun _ => fun
  | [d1, d2] => { results := [.lit (.bool false)], args := [d1, d2] }
  | _ => none }
def PlaneSaysWrongFalsely : Prop := planeSaysRow.holds Tryd.pinned (OpenSpec.ofChange planeSaysWrong)

/- THE SECOND FORM. 'bulk': how many values and letters a reading holds, each counted each time it is reached (what is shared counts as often as it is met; a slice's spare places count too). A statement '..UptoSaid' is the law's where the arguments, and the package variables that the reading takes, are together of bulk at most 1048576: NARROWER than '..Said'. Prove '..Said' where nothing that the law and all that it calls make is longer than what came in: it says more and counts as full. Else prove '..UptoSaid'. A law counts once. -/
mutual
def uptoBulk {H : Type} : DataW H → Nat
  | .lit (.string bytes) => bytes.length + 1
  | .lit _ => 1
  | .nil => 1
  | .ptr d => uptoBulk d + 1
  | .slice elems spare => uptoBulkAll elems + uptoBulkAll spare + 1
  | .agg parts => uptoBulkAll parts + 1
  | .iface _ d => uptoBulk d + 1
  | .map entries => uptoBulkEntries entries + 1
  | .held _ => 1
def uptoBulkAll {H : Type} : List (DataW H) → Nat
  | [] => 0
  | d :: r => uptoBulk d + uptoBulkAll r
def uptoBulkEntries {H : Type} : List (Lit × DataW H) → Nat
  | [] => 0
  | x :: r => uptoBulkEntry x + uptoBulkEntries r
def uptoBulkEntry {H : Type} : Lit × DataW H → Nat
  | (.string bytes, d) => bytes.length + uptoBulk d + 1
  | (_, d) => uptoBulk d + 1
 end
def uptoSmall : (H : Type) → List (DataW H) → Bool := fun _ ds => decide (uptoBulkAll ds ≤ 1048576)
def OpenSpec.upto (s : _root_.Go.ChangeSpec) : _root_.Go.OpenSpec := { _root_.Go.OpenSpec.ofChange s with cond := some uptoSmall }

/-- 'flarepathlaw28.PlaneFlies', WHERE WHAT IT READS IS OF BULK AT MOST 1048576: true; the input reads as it did. -/
def planeFliesUptoRow : OpenClaim := { program := "ytaicijhkchfcfaadoor", sum := "50b79291bf389b7a4ea4c5cb919b689934a861d821eaed4d1372dc745e693795", func := "flarepath/flarepathlaw28.PlaneFlies", spec := "planeFlies", unfollowed := true, recurses := true, named := ["flarepath/plane.mostAir", "flarepath/plane.mostWrong"], apart := false, laid := [("flarepath/plane.mostAir", laid_flarepath_plane_mostAir), ("flarepath/plane.mostWrong", laid_flarepath_plane_mostWrong)], narrowed := true }
def PlaneFliesUptoSaid : Prop := planeFliesUptoRow.holds Tryd.pinned (OpenSpec.upto planeFliesSpec)

/-- 'flarepathlaw28.PlaneCalm', WHERE WHAT IT READS IS OF BULK AT MOST 1048576: true; the input reads as it did. -/
def planeCalmUptoRow : OpenClaim := { program := "ytaicijhkchfcfaadoor", sum := "50b79291bf389b7a4ea4c5cb919b689934a861d821eaed4d1372dc745e693795", func := "flarepath/flarepathlaw28.PlaneCalm", spec := "planeCalm", unfollowed := true, recurses := true, named := ["flarepath/plane.mostAir", "flarepath/plane.mostWrong"], apart := false, laid := [("flarepath/plane.mostAir", laid_flarepath_plane_mostAir), ("flarepath/plane.mostWrong", laid_flarepath_plane_mostWrong)], narrowed := true }
def PlaneCalmUptoSaid : Prop := planeCalmUptoRow.holds Tryd.pinned (OpenSpec.upto planeCalmSpec)

/-- 'flarepathlaw28.PlaneDown', WHERE WHAT IT READS IS OF BULK AT MOST 1048576: true; the input reads as it did. -/
def planeDownUptoRow : OpenClaim := { program := "ytaicijhkchfcfaadoor", sum := "50b79291bf389b7a4ea4c5cb919b689934a861d821eaed4d1372dc745e693795", func := "flarepath/flarepathlaw28.PlaneDown", spec := "planeDown", unfollowed := true, recurses := true, named := ["flarepath/plane.mostAir", "flarepath/plane.mostWrong"], apart := false, laid := [("flarepath/plane.mostAir", laid_flarepath_plane_mostAir), ("flarepath/plane.mostWrong", laid_flarepath_plane_mostWrong)], narrowed := true }
def PlaneDownUptoSaid : Prop := planeDownUptoRow.holds Tryd.pinned (OpenSpec.upto planeDownSpec)

/-- 'flarepathlaw28.PlaneSays', WHERE WHAT IT READS IS OF BULK AT MOST 1048576: true; the input reads as it did. -/
def planeSaysUptoRow : OpenClaim := { program := "ytaicijhkchfcfaadoor", sum := "50b79291bf389b7a4ea4c5cb919b689934a861d821eaed4d1372dc745e693795", func := "flarepath/flarepathlaw28.PlaneSays", spec := "planeSays", unfollowed := true, recurses := true, named := ["flarepath/plane.mostAir", "flarepath/plane.mostWrong"], apart := false, laid := [("flarepath/plane.mostAir", laid_flarepath_plane_mostAir), ("flarepath/plane.mostWrong", laid_flarepath_plane_mostWrong)], narrowed := true }
def PlaneSaysUptoSaid : Prop := planeSaysUptoRow.holds Tryd.pinned (OpenSpec.upto planeSaysSpec)

end Rows
end Go.Proofs.YtaicijhkchfcfaaDoor
