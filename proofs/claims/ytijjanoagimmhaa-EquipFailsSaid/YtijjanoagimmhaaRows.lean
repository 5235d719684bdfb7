/-
  No cell of these rows narrows 'for every input' (looked for: loops, veiled, ifaces, maps, wideKeys, modest, calm, conditions, laid).
  DERIVED. THE GIVEN ROWS OF THIS SEAT. 3 by the template 'for every input the law returns true; each argument reads behind the call as it read before'; 0 by the template 'total and deterministic' (their statements: YtijjanoagimmhaaTotals.lean).
  GIVEN WITH THE SEED: the statements are not yours to turn. If you find one false, say at which input.
  Laid BY PROGRAM, IN A SANDBOX (cutbox-rows.mjs): the forced cells as the released guide's own fill.sh prints them over the translation eed652b782232401… (all of the seat's roots in one cut). By AI agents, Wed Nov 11 2026. No macro, syntax, notation, axiom, sorry.
-/
import Derived.Test.YtijjanoagimmhaaChecked
import GoSem.Claim
import GoSem.ClaimJoined
import GoSem.ClaimMapViews
import Derived.JoinedTies
import Derived.KernelRfl
namespace Go.Proofs.Ytijjanoagimmhaa
/- THE CELL 'sum', in the pinned program and in every row, IS THE sha256 OF THE DUMP (.gsa) THAT YtijjanoagimmhaaProg.lean LOADS. Nothing in Lean hashes anything: it is a label: what it is worth is what the hold of that sum in a sandbox is worth. -/
noncomputable def Try.pinned : Pinned := { name := "ytijjanoagimmhaa", sum := "eed652b782232401439799e6958a9314d595c332835ae97a341475dbef521dba", checked := Try.checked }
namespace Rows
def none {H : Type} : Left H := { results := [], args := [] }

/-- 'flarepathlaw15.EquipTells': WHATEVER THE INPUT: true; the input reads as it did. -/
def equipTellsSpec : ChangeSpec := { name := "equipTells", fn := fun _ => fun
  | [d1, d2, d3, d4, d5] => { results := [.lit (.bool true)], args := [d1, d2, d3, d4, d5] }
  | _ => none }
def equipTellsRow : OpenClaim := { program := "ytijjanoagimmhaa", sum := "eed652b782232401439799e6958a9314d595c332835ae97a341475dbef521dba", func := "flarepath/flarepathlaw15.EquipTells", spec := "equipTells", apart := false }
def EquipTellsSaid : Prop := equipTellsRow.holds Try.pinned (OpenSpec.ofChange equipTellsSpec)

/-- ITS FALSE NEIGHBOUR: 'it returns false'. Refute it at one input. -/
def equipTellsWrong : ChangeSpec := { name := "equipTells", fn := fun _ => fun
  | [d1, d2, d3, d4, d5] => { results := [.lit (.bool false)], args := [d1, d2, d3, d4, d5] }
  | _ => none }
def EquipTellsWrongFalsely : Prop := equipTellsRow.holds Try.pinned (OpenSpec.ofChange equipTellsWrong)

/-- 'flarepathlaw15.EquipFails': WHATEVER THE INPUT: true; the input reads as it did. -/
def equipFailsSpec : ChangeSpec := { name := "equipFails", fn := fun _ => fun
  | [d1, d2, d3, d4, d5, d6, d7] => { results := [.lit (.bool true)], args := [d1, d2, d3, d4, d5, d6, d7] }
  | _ => none }
def equipFailsRow : OpenClaim := { program := "ytijjanoagimmhaa", sum := "eed652b782232401439799e6958a9314d595c332835ae97a341475dbef521dba", func := "flarepath/flarepathlaw15.EquipFails", spec := "equipFails", apart := false }
def EquipFailsSaid : Prop := equipFailsRow.holds Try.pinned (OpenSpec.ofChange equipFailsSpec)

/-- ITS FALSE NEIGHBOUR: 'it returns false'. Refute it at one input. -/
def equipFailsWrong : ChangeSpec := { name := "equipFails", fn := fun _ => fun
  | [d1, d2, d3, d4, d5, d6, d7] => { results := [.lit (.bool false)], args := [d1, d2, d3, d4, d5, d6, d7] }
  | _ => none }
def EquipFailsWrongFalsely : Prop := equipFailsRow.holds Try.pinned (OpenSpec.ofChange equipFailsWrong)

/-- 'flarepathlaw15.EquipOrder': WHATEVER THE INPUT: true; the input reads as it did. -/
def equipOrderSpec : ChangeSpec := { name := "equipOrder", fn := fun _ => fun
  | [d1, d2, d3] => { results := [.lit (.bool true)], args := [d1, d2, d3] }
  | _ => none }
def equipOrderRow : OpenClaim := { program := "ytijjanoagimmhaa", sum := "eed652b782232401439799e6958a9314d595c332835ae97a341475dbef521dba", func := "flarepath/flarepathlaw15.EquipOrder", spec := "equipOrder", apart := false }
def EquipOrderSaid : Prop := equipOrderRow.holds Try.pinned (OpenSpec.ofChange equipOrderSpec)

/-- ITS FALSE NEIGHBOUR: 'it returns false'. Refute it at one input. -/
def equipOrderWrong : ChangeSpec := { name := "equipOrder", fn := fun _ => fun
  | [d1, d2, d3] => { results := [.lit (.bool false)], args := [d1, d2, d3] }
  | _ => none }
def EquipOrderWrongFalsely : Prop := equipOrderRow.holds Try.pinned (OpenSpec.ofChange equipOrderWrong)

/- THE SECOND FORM. 'bulk': how many values and letters a reading holds, each counted each time it is reached (what is shared counts as often as it is met; a slice's spare places count too). A statement '..UptoSaid' is the law's where the arguments, and the package variables that the reading takes, are together of bulk at most 1048576: NARROWER than '..Said'. Prove '..Said' where nothing that the law and all that it calls make is longer than what came in: it says more and counts as full. Else prove '..UptoSaid'. A law counts once. -/
mutual
def uptoBulk {H : Type} : DataW H → Nat
  | .lit (.string bytes) => bytes.length + 1
  | .lit _ => 1
  | .nil => 1
  | .ptr d => uptoBulk d + 1
  | .slice elems spare => uptoBulkAll elems + uptoBulkAll spare + 1
  | .agg parts => uptoBulkAll parts + 1
  | .iface _ d => uptoBulk d + 1
  | .map entries => uptoBulkEntries entries + 1
  | .held _ => 1
def uptoBulkAll {H : Type} : List (DataW H) → Nat
  | [] => 0
  | d :: r => uptoBulk d + uptoBulkAll r
def uptoBulkEntries {H : Type} : List (Lit × DataW H) → Nat
  | [] => 0
  | x :: r => uptoBulkEntry x + uptoBulkEntries r
def uptoBulkEntry {H : Type} : Lit × DataW H → Nat
  | (.string bytes, d) => bytes.length + uptoBulk d + 1
  | (_, d) => uptoBulk d + 1
 end
def uptoSmall : (H : Type) → List (DataW H) → Bool := fun _ ds => decide (uptoBulkAll ds ≤ 1048576)
def OpenSpec.upto (s : _root_.Go.ChangeSpec) : _root_.Go.OpenSpec := { _root_.Go.OpenSpec.ofChange s with cond := some uptoSmall }

/-- 'flarepathlaw15.EquipTells', WHERE WHAT IT READS IS OF BULK AT MOST 1048576: true; the input reads as it did. -/
def equipTellsUptoRow : OpenClaim := { program := "ytijjanoagimmhaa", sum := "eed652b782232401439799e6958a9314d595c332835ae97a341475dbef521dba", func := "flarepath/flarepathlaw15.EquipTells", spec := "equipTells", apart := false, narrowed := true }
def EquipTellsUptoSaid : Prop := equipTellsUptoRow.holds Try.pinned (OpenSpec.upto equipTellsSpec)

/-- 'flarepathlaw15.EquipFails', WHERE WHAT IT READS IS OF BULK AT MOST 1048576: true; the input reads as it did. -/
def equipFailsUptoRow : OpenClaim := { program := "ytijjanoagimmhaa", sum := "eed652b782232401439799e6958a9314d595c332835ae97a341475dbef521dba", func := "flarepath/flarepathlaw15.EquipFails", spec := "equipFails", apart := false, narrowed := true }
def EquipFailsUptoSaid : Prop := equipFailsUptoRow.holds Try.pinned (OpenSpec.upto equipFailsSpec)

/-- 'flarepathlaw15.EquipOrder', WHERE WHAT IT READS IS OF BULK AT MOST 1048576: true; the input reads as it did. -/
def equipOrderUptoRow : OpenClaim := { program := "ytijjanoagimmhaa", sum := "eed652b782232401439799e6958a9314d595c332835ae97a341475dbef521dba", func := "flarepath/flarepathlaw15.EquipOrder", spec := "equipOrder", apart := false, narrowed := true }
def EquipOrderUptoSaid : Prop := equipOrderUptoRow.holds Try.pinned (OpenSpec.upto equipOrderSpec)

end Rows
end Go.Proofs.Ytijjanoagimmhaa
