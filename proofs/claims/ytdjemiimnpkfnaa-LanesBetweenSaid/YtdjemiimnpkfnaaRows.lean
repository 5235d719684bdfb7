/-
  No cell of these rows narrows 'for every input' (looked for: loops, veiled, ifaces, maps, wideKeys, modest, calm, conditions, laid).
  DERIVED. THE GIVEN ROWS OF THIS SEAT. 3 by the template 'for every input the law returns true; each argument reads behind the call as it read before'; 0 by the template 'total and deterministic' (their statements: YtdjemiimnpkfnaaTotals.lean).
  GIVEN WITH THE SEED: the statements are not yours to turn. If you find one false, say at which input.
  Laid BY PROGRAM, IN A SANDBOX (cutbox-rows.mjs): the forced cells as the released guide's own fill.sh prints them over the translation e85a9fcdcbbe2866… (all of the seat's roots in one cut). By AI agents, Wed Nov 11 2026. No macro, syntax, notation, axiom, sorry.
-/
import Derived.Test.YtdjemiimnpkfnaaChecked
import GoSem.Claim
import GoSem.ClaimJoined
import GoSem.ClaimMapViews
import Derived.JoinedTies
import Derived.KernelRfl
namespace Go.Proofs.Ytdjemiimnpkfnaa
/- THE CELL 'sum', in the pinned program and in every row, IS THE sha256 OF THE DUMP (.gsa) THAT YtdjemiimnpkfnaaProg.lean LOADS. Nothing in Lean hashes anything: it is a label: what it is worth is what the hold of that sum in a sandbox is worth. -/
noncomputable def Try.pinned : Pinned := { name := "ytdjemiimnpkfnaa", sum := "e85a9fcdcbbe28662eed860e8fbfd4e9db8d28856931b498d135bd3a09a203cd", checked := Try.checked }
namespace Rows
def none {H : Type} : Left H := { results := [], args := [] }

/-- 'flarepathlaw14.LanesTell': WHATEVER THE INPUT: true; the input reads as it did. -/
def lanesTellSpec : ChangeSpec := { name := "lanesTell", fn := fun _ => fun
  | [d1, d2, d3, d4] => { results := [.lit (.bool true)], args := [d1, d2, d3, d4] }
  | _ => none }
def lanesTellRow : OpenClaim := { program := "ytdjemiimnpkfnaa", sum := "e85a9fcdcbbe28662eed860e8fbfd4e9db8d28856931b498d135bd3a09a203cd", func := "flarepath/flarepathlaw14.LanesTell", spec := "lanesTell", unfollowed := true, recurses := true, apart := false }
def LanesTellSaid : Prop := lanesTellRow.holds Try.pinned (OpenSpec.ofChange lanesTellSpec)

/-- ITS FALSE NEIGHBOUR: 'it returns false'. Refute it at one input. -/
def lanesTellWrong : ChangeSpec := { name := "lanesTell", fn := fun _ => fun
  | [d1, d2, d3, d4] => { results := [.lit (.bool false)], args := [d1, d2, d3, d4] }
  | _ => none }
def LanesTellWrongFalsely : Prop := lanesTellRow.holds Try.pinned (OpenSpec.ofChange lanesTellWrong)

/-- 'flarepathlaw14.LanesAlike': WHATEVER THE INPUT: true; the input reads as it did. -/
def lanesAlikeSpec : ChangeSpec := { name := "lanesAlike", fn := fun _ => fun
  | [d1, d2, d3, d4] => { results := [.lit (.bool true)], args := [d1, d2, d3, d4] }
  | _ => none }
def lanesAlikeRow : OpenClaim := { program := "ytdjemiimnpkfnaa", sum := "e85a9fcdcbbe28662eed860e8fbfd4e9db8d28856931b498d135bd3a09a203cd", func := "flarepath/flarepathlaw14.LanesAlike", spec := "lanesAlike", unfollowed := true, recurses := true, apart := false }
def LanesAlikeSaid : Prop := lanesAlikeRow.holds Try.pinned (OpenSpec.ofChange lanesAlikeSpec)

/-- ITS FALSE NEIGHBOUR: 'it returns false'. Refute it at one input. -/
def lanesAlikeWrong : ChangeSpec := { name := "lanesAlike", fn := fun _ => fun
  | [d1, d2, d3, d4] => { results := [.lit (.bool false)], args := [d1, d2, d3, d4] }
  | _ => none }
def LanesAlikeWrongFalsely : Prop := lanesAlikeRow.holds Try.pinned (OpenSpec.ofChange lanesAlikeWrong)

/-- 'flarepathlaw14.LanesBetween': WHATEVER THE INPUT: true; the input reads as it did. -/
def lanesBetweenSpec : ChangeSpec := { name := "lanesBetween", fn := fun _ => fun
  | [d1, d2] => { results := [.lit (.bool true)], args := [d1, d2] }
  | _ => none }
def lanesBetweenRow : OpenClaim := { program := "ytdjemiimnpkfnaa", sum := "e85a9fcdcbbe28662eed860e8fbfd4e9db8d28856931b498d135bd3a09a203cd", func := "flarepath/flarepathlaw14.LanesBetween", spec := "lanesBetween", unfollowed := true, recurses := true, apart := false }
def LanesBetweenSaid : Prop := lanesBetweenRow.holds Try.pinned (OpenSpec.ofChange lanesBetweenSpec)

/-- ITS FALSE NEIGHBOUR: 'it returns false'. Refute it at one input. -/
def lanesBetweenWrong : ChangeSpec := { name := "lanesBetween", fn := fun _ => fun
  | [d1, d2] => { results := [.lit (.bool false)], args := [d1, d2] }
  | _ => none }
def LanesBetweenWrongFalsely : Prop := lanesBetweenRow.holds Try.pinned (OpenSpec.ofChange lanesBetweenWrong)

/- THE SECOND FORM. 'bulk': how many values and letters a reading holds, each counted each time it is reached (what is shared counts as often as it is met; a slice's spare places count too). A statement '..UptoSaid' is the law's where the arguments, and the package variables that the reading takes, are together of bulk at most 1048576: NARROWER than '..Said'. Prove '..Said' where nothing that the law and all that it calls make is longer than what came in: it says more and counts as full. Else prove '..UptoSaid'. A law counts once. -/
mutual
def uptoBulk {H : Type} : DataW H → Nat
  | .lit (.string bytes) => bytes.length + 1
  | .lit _ => 1
  | .nil => 1
  | .ptr d => uptoBulk d + 1
  | .slice elems spare => uptoBulkAll elems + uptoBulkAll spare + 1
  | .agg parts => uptoBulkAll parts + 1
  | .iface _ d => uptoBulk d + 1
  | .map entries => uptoBulkEntries entries + 1
  | .held _ => 1
def uptoBulkAll {H : Type} : List (DataW H) → Nat
  | [] => 0
  | d :: r => uptoBulk d + uptoBulkAll r
def uptoBulkEntries {H : Type} : List (Lit × DataW H) → Nat
  | [] => 0
  | x :: r => uptoBulkEntry x + uptoBulkEntries r
def uptoBulkEntry {H : Type} : Lit × DataW H → Nat
  | (.string bytes, d) => bytes.length + uptoBulk d + 1
  | (_, d) => uptoBulk d + 1
 end
def uptoSmall : (H : Type) → List (DataW H) → Bool := fun _ ds => decide (uptoBulkAll ds ≤ 1048576)
def OpenSpec.upto (s : _root_.Go.ChangeSpec) : _root_.Go.OpenSpec := { _root_.Go.OpenSpec.ofChange s with cond := some uptoSmall }

/-- 'flarepathlaw14.LanesTell', WHERE WHAT IT READS IS OF BULK AT MOST 1048576: true; the input reads as it did. -/
def lanesTellUptoRow : OpenClaim := { program := "ytdjemiimnpkfnaa", sum := "e85a9fcdcbbe28662eed860e8fbfd4e9db8d28856931b498d135bd3a09a203cd", func := "flarepath/flarepathlaw14.LanesTell", spec := "lanesTell", unfollowed := true, recurses := true, apart := false, narrowed := true }
def LanesTellUptoSaid : Prop := lanesTellUptoRow.holds Try.pinned (OpenSpec.upto lanesTellSpec)

/-- 'flarepathlaw14.LanesAlike', WHERE WHAT IT READS IS OF BULK AT MOST 1048576: true; the input reads as it did. -/
def lanesAlikeUptoRow : OpenClaim := { program := "ytdjemiimnpkfnaa", sum := "e85a9fcdcbbe28662eed860e8fbfd4e9db8d28856931b498d135bd3a09a203cd", func := "flarepath/flarepathlaw14.LanesAlike", spec := "lanesAlike", unfollowed := true, recurses := true, apart := false, narrowed := true }
def LanesAlikeUptoSaid : Prop := lanesAlikeUptoRow.holds Try.pinned (OpenSpec.upto lanesAlikeSpec)

/-- 'flarepathlaw14.LanesBetween', WHERE WHAT IT READS IS OF BULK AT MOST 1048576: true; the input reads as it did. -/
def lanesBetweenUptoRow : OpenClaim := { program := "ytdjemiimnpkfnaa", sum := "e85a9fcdcbbe28662eed860e8fbfd4e9db8d28856931b498d135bd3a09a203cd", func := "flarepath/flarepathlaw14.LanesBetween", spec := "lanesBetween", unfollowed := true, recurses := true, apart := false, narrowed := true }
def LanesBetweenUptoSaid : Prop := lanesBetweenUptoRow.holds Try.pinned (OpenSpec.upto lanesBetweenSpec)

end Rows
end Go.Proofs.Ytdjemiimnpkfnaa
