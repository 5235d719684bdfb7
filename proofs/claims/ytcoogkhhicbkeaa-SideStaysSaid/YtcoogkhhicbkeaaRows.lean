/-
  No cell of these rows narrows 'for every input' (looked for: loops, veiled, ifaces, maps, wideKeys, modest, calm, conditions, laid).
  DERIVED. THE GIVEN ROWS OF THIS SEAT. 3 by the template 'for every input the law returns true; each argument reads behind the call as it read before'; 0 by the template 'total and deterministic' (their statements: YtcoogkhhicbkeaaTotals.lean).
  GIVEN WITH THE SEED: the statements are not yours to turn. If you find one false, say at which input.
  Laid BY PROGRAM, IN A SANDBOX (cutbox-rows.mjs): the forced cells as the released guide's own fill.sh prints them over the translation 95e5db0936ee7325… (all of the seat's roots in one cut). By AI agents, Wed Nov 11 2026. No macro, syntax, notation, axiom, sorry.
-/
import Derived.Test.YtcoogkhhicbkeaaChecked
import GoSem.Claim
import GoSem.ClaimJoined
import GoSem.ClaimMapViews
import Derived.JoinedTies
import Derived.KernelRfl
namespace Go.Proofs.Ytcoogkhhicbkeaa
/- THE CELL 'sum', in the pinned program and in every row, IS THE sha256 OF THE DUMP (.gsa) THAT YtcoogkhhicbkeaaProg.lean LOADS. Nothing in Lean hashes anything: it is a label: what it is worth is what the hold of that sum in a sandbox is worth. -/
noncomputable def Try.pinned : Pinned := { name := "ytcoogkhhicbkeaa", sum := "95e5db0936ee73253021f34fe2db5968be89950a91354e831ae6f63775bff7a0", checked := Try.checked }
namespace Rows
def none {H : Type} : Left H := { results := [], args := [] }

/-- 'flarepathlaw23.SideTells': WHATEVER THE INPUT: true; the input reads as it did. -/
def sideTellsSpec : ChangeSpec := { name := "sideTells", fn := fun _ => fun
  | [d1, d2, d3, d4, d5] => { results := [.lit (.bool true)], args := [d1, d2, d3, d4, d5] }
  | _ => none }
def sideTellsRow : OpenClaim := { program := "ytcoogkhhicbkeaa", sum := "95e5db0936ee73253021f34fe2db5968be89950a91354e831ae6f63775bff7a0", func := "flarepath/flarepathlaw23.SideTells", spec := "sideTells", unfollowed := true, recurses := true, apart := false }
def SideTellsSaid : Prop := sideTellsRow.holds Try.pinned (OpenSpec.ofChange sideTellsSpec)

/-- ITS FALSE NEIGHBOUR: 'it returns false'. Refute it at one input. -/
def sideTellsWrong : ChangeSpec := { name := "sideTells", fn := fun _ => fun
  | [d1, d2, d3, d4, d5] => { results := [.lit (.bool false)], args := [d1, d2, d3, d4, d5] }
  | _ => none }
def SideTellsWrongFalsely : Prop := sideTellsRow.holds Try.pinned (OpenSpec.ofChange sideTellsWrong)

/-- 'flarepathlaw23.SideBack': WHATEVER THE INPUT: true; the input reads as it did. -/
def sideBackSpec : ChangeSpec := { name := "sideBack", fn := fun _ => fun
  | [d1, d2, d3, d4] => { results := [.lit (.bool true)], args := [d1, d2, d3, d4] }
  | _ => none }
def sideBackRow : OpenClaim := { program := "ytcoogkhhicbkeaa", sum := "95e5db0936ee73253021f34fe2db5968be89950a91354e831ae6f63775bff7a0", func := "flarepath/flarepathlaw23.SideBack", spec := "sideBack", unfollowed := true, recurses := true, apart := false }
def SideBackSaid : Prop := sideBackRow.holds Try.pinned (OpenSpec.ofChange sideBackSpec)

/-- ITS FALSE NEIGHBOUR: 'it returns false'. Refute it at one input. -/
def sideBackWrong : ChangeSpec := { name := "sideBack", fn := fun _ => fun
  | [d1, d2, d3, d4] => { results := [.lit (.bool false)], args := [d1, d2, d3, d4] }
  | _ => none }
def SideBackWrongFalsely : Prop := sideBackRow.holds Try.pinned (OpenSpec.ofChange sideBackWrong)

/-- 'flarepathlaw23.SideStays': WHATEVER THE INPUT: true; the input reads as it did. -/
def sideStaysSpec : ChangeSpec := { name := "sideStays", fn := fun _ => fun
  | [d1, d2, d3, d4, d5] => { results := [.lit (.bool true)], args := [d1, d2, d3, d4, d5] }
  | _ => none }
def sideStaysRow : OpenClaim := { program := "ytcoogkhhicbkeaa", sum := "95e5db0936ee73253021f34fe2db5968be89950a91354e831ae6f63775bff7a0", func := "flarepath/flarepathlaw23.SideStays", spec := "sideStays", unfollowed := true, recurses := true, apart := false }
def SideStaysSaid : Prop := sideStaysRow.holds Try.pinned (OpenSpec.ofChange sideStaysSpec)

/-- ITS FALSE NEIGHBOUR: 'it returns false'. Refute it at one input. -/
def sideStaysWrong : ChangeSpec := { name := "sideStays", fn := fun _ => fun
  | [d1, d2, d3, d4, d5] => { results := [.lit (.bool false)], args := [d1, d2, d3, d4, d5] }
  | _ => none }
def SideStaysWrongFalsely : Prop := sideStaysRow.holds Try.pinned (OpenSpec.ofChange sideStaysWrong)

/- THE SECOND FORM. 'bulk': how many values and letters a reading holds, each counted each time it is reached (what is shared counts as often as it is met; a slice's spare places count too). A statement '..UptoSaid' is the law's where the arguments, and the package variables that the reading takes, are together of bulk at most 1048576: NARROWER than '..Said'. Prove '..Said' where nothing that the law and all that it calls make is longer than what came in: it says more and counts as full. Else prove '..UptoSaid'. A law counts once. -/
mutual
def uptoBulk {H : Type} : DataW H → Nat
  | .lit (.string bytes) => bytes.length + 1
  | .lit _ => 1
  | .nil => 1
  | .ptr d => uptoBulk d + 1
  | .slice elems spare => uptoBulkAll elems + uptoBulkAll spare + 1
  | .agg parts => uptoBulkAll parts + 1
  | .iface _ d => uptoBulk d + 1
  | .map entries => uptoBulkEntries entries + 1
  | .held _ => 1
def uptoBulkAll {H : Type} : List (DataW H) → Nat
  | [] => 0
  | d :: r => uptoBulk d + uptoBulkAll r
def uptoBulkEntries {H : Type} : List (Lit × DataW H) → Nat
  | [] => 0
  | x :: r => uptoBulkEntry x + uptoBulkEntries r
def uptoBulkEntry {H : Type} : Lit × DataW H → Nat
  | (.string bytes, d) => bytes.length + uptoBulk d + 1
  | (_, d) => uptoBulk d + 1
 end
def uptoSmall : (H : Type) → List (DataW H) → Bool := fun _ ds => decide (uptoBulkAll ds ≤ 1048576)
def OpenSpec.upto (s : _root_.Go.ChangeSpec) : _root_.Go.OpenSpec := { _root_.Go.OpenSpec.ofChange s with cond := some uptoSmall }

/-- 'flarepathlaw23.SideTells', WHERE WHAT IT READS IS OF BULK AT MOST 1048576: true; the input reads as it did. -/
def sideTellsUptoRow : OpenClaim := { program := "ytcoogkhhicbkeaa", sum := "95e5db0936ee73253021f34fe2db5968be89950a91354e831ae6f63775bff7a0", func := "flarepath/flarepathlaw23.SideTells", spec := "sideTells", unfollowed := true, recurses := true, apart := false, narrowed := true }
def SideTellsUptoSaid : Prop := sideTellsUptoRow.holds Try.pinned (OpenSpec.upto sideTellsSpec)

/-- 'flarepathlaw23.SideBack', WHERE WHAT IT READS IS OF BULK AT MOST 1048576: true; the input reads as it did. -/
def sideBackUptoRow : OpenClaim := { program := "ytcoogkhhicbkeaa", sum := "95e5db0936ee73253021f34fe2db5968be89950a91354e831ae6f63775bff7a0", func := "flarepath/flarepathlaw23.SideBack", spec := "sideBack", unfollowed := true, recurses := true, apart := false, narrowed := true }
def SideBackUptoSaid : Prop := sideBackUptoRow.holds Try.pinned (OpenSpec.upto sideBackSpec)

/-- 'flarepathlaw23.SideStays', WHERE WHAT IT READS IS OF BULK AT MOST 1048576: true; the input reads as it did. -/
def sideStaysUptoRow : OpenClaim := { program := "ytcoogkhhicbkeaa", sum := "95e5db0936ee73253021f34fe2db5968be89950a91354e831ae6f63775bff7a0", func := "flarepath/flarepathlaw23.SideStays", spec := "sideStays", unfollowed := true, recurses := true, apart := false, narrowed := true }
def SideStaysUptoSaid : Prop := sideStaysUptoRow.holds Try.pinned (OpenSpec.upto sideStaysSpec)

end Rows
end Go.Proofs.Ytcoogkhhicbkeaa
