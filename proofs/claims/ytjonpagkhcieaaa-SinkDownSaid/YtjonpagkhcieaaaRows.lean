/-
  No cell of these rows narrows 'for every input' (looked for: loops, veiled, ifaces, maps, wideKeys, modest, calm, conditions, laid).
  DERIVED. THE GIVEN ROWS OF THIS SEAT. 3 by the template 'for every input the law returns true; each argument reads behind the call as it read before'; 0 by the template 'total and deterministic' (their statements: YtjonpagkhcieaaaTotals.lean).
  GIVEN WITH THE SEED: the statements are not yours to turn. If you find one false, say at which input.
  Laid BY PROGRAM, IN A SANDBOX (cutbox-rows.mjs): the forced cells as the released guide's own fill.sh prints them over the translation 1a5ca598e904a6d9… (all of the seat's roots in one cut). By AI agents, Wed Nov 11 2026. No macro, syntax, notation, axiom, sorry.
-/
import Derived.Test.YtjonpagkhcieaaaChecked
import GoSem.Claim
import GoSem.ClaimJoined
import GoSem.ClaimMapViews
import Derived.JoinedTies
import Derived.KernelRfl
namespace Go.Proofs.Ytjonpagkhcieaaa
/- THE CELL 'sum', in the pinned program and in every row, IS THE sha256 OF THE DUMP (.gsa) THAT YtjonpagkhcieaaaProg.lean LOADS. Nothing in Lean hashes anything: it is a label: what it is worth is what the hold of that sum in a sandbox is worth. -/
noncomputable def Try.pinned : Pinned := { name := "ytjonpagkhcieaaa", sum := "1a5ca598e904a6d9692b9e9d0c9325820bb1232daf6d7089b79327b878ecd298", checked := Try.checked }
namespace Rows
def none {H : Type} : Left H := { results := [], args := [] }

/-- 'flarepathlaw24.SinkTells': WHATEVER THE INPUT: true; the input reads as it did. -/
def sinkTellsSpec : ChangeSpec := { name := "sinkTells", fn := fun _ => fun
  | [d1, d2, d3, d4] => { results := [.lit (.bool true)], args := [d1, d2, d3, d4] }
  | _ => none }
def sinkTellsRow : OpenClaim := { program := "ytjonpagkhcieaaa", sum := "1a5ca598e904a6d9692b9e9d0c9325820bb1232daf6d7089b79327b878ecd298", func := "flarepath/flarepathlaw24.SinkTells", spec := "sinkTells", apart := false }
def SinkTellsSaid : Prop := sinkTellsRow.holds Try.pinned (OpenSpec.ofChange sinkTellsSpec)

/-- ITS FALSE NEIGHBOUR: 'it returns false'. Refute it at one input. -/
def sinkTellsWrong : ChangeSpec := { name := "sinkTells", fn := fun _ => fun
  | [d1, d2, d3, d4] => { results := [.lit (.bool false)], args := [d1, d2, d3, d4] }
  | _ => none }
def SinkTellsWrongFalsely : Prop := sinkTellsRow.holds Try.pinned (OpenSpec.ofChange sinkTellsWrong)

/-- 'flarepathlaw24.SinkFlares': WHATEVER THE INPUT: true; the input reads as it did. -/
def sinkFlaresSpec : ChangeSpec := { name := "sinkFlares", fn := fun _ => fun
  | [d1, d2, d3, d4, d5, d6] => { results := [.lit (.bool true)], args := [d1, d2, d3, d4, d5, d6] }
  | _ => none }
def sinkFlaresRow : OpenClaim := { program := "ytjonpagkhcieaaa", sum := "1a5ca598e904a6d9692b9e9d0c9325820bb1232daf6d7089b79327b878ecd298", func := "flarepath/flarepathlaw24.SinkFlares", spec := "sinkFlares", apart := false }
def SinkFlaresSaid : Prop := sinkFlaresRow.holds Try.pinned (OpenSpec.ofChange sinkFlaresSpec)

/-- ITS FALSE NEIGHBOUR: 'it returns false'. Refute it at one input. -/
def sinkFlaresWrong : ChangeSpec := { name := "sinkFlares", fn := fun _ => fun
  | [d1, d2, d3, d4, d5, d6] => { results := [.lit (.bool false)], args := [d1, d2, d3, d4, d5, d6] }
  | _ => none }
def SinkFlaresWrongFalsely : Prop := sinkFlaresRow.holds Try.pinned (OpenSpec.ofChange sinkFlaresWrong)

/-- 'flarepathlaw24.SinkDown': WHATEVER THE INPUT: true; the input reads as it did. -/
def sinkDownSpec : ChangeSpec := { name := "sinkDown", fn := fun _ => fun
  | [d1, d2, d3] => { results := [.lit (.bool true)], args := [d1, d2, d3] }
  | _ => none }
def sinkDownRow : OpenClaim := { program := "ytjonpagkhcieaaa", sum := "1a5ca598e904a6d9692b9e9d0c9325820bb1232daf6d7089b79327b878ecd298", func := "flarepath/flarepathlaw24.SinkDown", spec := "sinkDown", apart := false }
def SinkDownSaid : Prop := sinkDownRow.holds Try.pinned (OpenSpec.ofChange sinkDownSpec)

/-- ITS FALSE NEIGHBOUR: 'it returns false'. Refute it at one input. -/
def sinkDownWrong : ChangeSpec := { name := "sinkDown", fn := fun _ => fun
  | [d1, d2, d3] => { results := [.lit (.bool false)], args := [d1, d2, d3] }
  | _ => none }
def SinkDownWrongFalsely : Prop := sinkDownRow.holds Try.pinned (OpenSpec.ofChange sinkDownWrong)

/- THE SECOND FORM. 'bulk': how many values and letters a reading holds, each counted each time it is reached (what is shared counts as often as it is met; a slice's spare places count too). A statement '..UptoSaid' is the law's where the arguments, and the package variables that the reading takes, are together of bulk at most 1048576: NARROWER than '..Said'. Prove '..Said' where nothing that the law and all that it calls make is longer than what came in: it says more and counts as full. Else prove '..UptoSaid'. A law counts once. -/
mutual
def uptoBulk {H : Type} : DataW H → Nat
  | .lit (.string bytes) => bytes.length + 1
  | .lit _ => 1
  | .nil => 1
  | .ptr d => uptoBulk d + 1
  | .slice elems spare => uptoBulkAll elems + uptoBulkAll spare + 1
  | .agg parts => uptoBulkAll parts + 1
  | .iface _ d => uptoBulk d + 1
  | .map entries => uptoBulkEntries entries + 1
  | .held _ => 1
def uptoBulkAll {H : Type} : List (DataW H) → Nat
  | [] => 0
  | d :: r => uptoBulk d + uptoBulkAll r
def uptoBulkEntries {H : Type} : List (Lit × DataW H) → Nat
  | [] => 0
  | x :: r => uptoBulkEntry x + uptoBulkEntries r
def uptoBulkEntry {H : Type} : Lit × DataW H → Nat
  | (.string bytes, d) => bytes.length + uptoBulk d + 1
  | (_, d) => uptoBulk d + 1
 end
def uptoSmall : (H : Type) → List (DataW H) → Bool := fun _ ds => decide (uptoBulkAll ds ≤ 1048576)
def OpenSpec.upto (s : _root_.Go.ChangeSpec) : _root_.Go.OpenSpec := { _root_.Go.OpenSpec.ofChange s with cond := some uptoSmall }

/-- 'flarepathlaw24.SinkTells', WHERE WHAT IT READS IS OF BULK AT MOST 1048576: true; the input reads as it did. -/
def sinkTellsUptoRow : OpenClaim := { program := "ytjonpagkhcieaaa", sum := "1a5ca598e904a6d9692b9e9d0c9325820bb1232daf6d7089b79327b878ecd298", func := "flarepath/flarepathlaw24.SinkTells", spec := "sinkTells", apart := false, narrowed := true }
def SinkTellsUptoSaid : Prop := sinkTellsUptoRow.holds Try.pinned (OpenSpec.upto sinkTellsSpec)

/-- 'flarepathlaw24.SinkFlares', WHERE WHAT IT READS IS OF BULK AT MOST 1048576: true; the input reads as it did. -/
def sinkFlaresUptoRow : OpenClaim := { program := "ytjonpagkhcieaaa", sum := "1a5ca598e904a6d9692b9e9d0c9325820bb1232daf6d7089b79327b878ecd298", func := "flarepath/flarepathlaw24.SinkFlares", spec := "sinkFlares", apart := false, narrowed := true }
def SinkFlaresUptoSaid : Prop := sinkFlaresUptoRow.holds Try.pinned (OpenSpec.upto sinkFlaresSpec)

/-- 'flarepathlaw24.SinkDown', WHERE WHAT IT READS IS OF BULK AT MOST 1048576: true; the input reads as it did. -/
def sinkDownUptoRow : OpenClaim := { program := "ytjonpagkhcieaaa", sum := "1a5ca598e904a6d9692b9e9d0c9325820bb1232daf6d7089b79327b878ecd298", func := "flarepath/flarepathlaw24.SinkDown", spec := "sinkDown", apart := false, narrowed := true }
def SinkDownUptoSaid : Prop := sinkDownUptoRow.holds Try.pinned (OpenSpec.upto sinkDownSpec)

end Rows
end Go.Proofs.Ytjonpagkhcieaaa
