/-
  No cell of these rows narrows 'for every input' (looked for: loops, veiled, ifaces, maps, wideKeys, modest, calm, conditions, laid).
  DERIVED. THE GIVEN ROWS OF THIS SEAT. 5 by the template 'for every input the law returns true; each argument reads behind the call as it read before'; 0 by the template 'total and deterministic' (their statements: YtafifglfbebhaaaTotals.lean).
  GIVEN WITH THE SEED: the statements are not yours to turn. If you find one false, say at which input.
  Laid BY PROGRAM, IN A SANDBOX (cutbox-rows.mjs): the forced cells as the released guide's own fill.sh prints them over the translation 7420ea2cf0f68037… (all of the seat's roots in one cut). By AI agents, Wed Nov 11 2026. No macro, syntax, notation, axiom, sorry.
-/
import Derived.Test.YtafifglfbebhaaaChecked
import GoSem.Claim
import GoSem.ClaimJoined
import GoSem.ClaimMapViews
import Derived.JoinedTies
import Derived.KernelRfl
namespace Go.Proofs.Ytafifglfbebhaaa
/- THE CELL 'sum', in the pinned program and in every row, IS THE sha256 OF THE DUMP (.gsa) THAT YtafifglfbebhaaaProg.lean LOADS. Nothing in Lean hashes anything: it is a label: what it is worth is what the hold of that sum in a sandbox is worth. -/
noncomputable def Try.pinned : Pinned := { name := "ytafifglfbebhaaa", sum := "7420ea2cf0f68037af221e395ffecd62ee2fe102236f9a623f04a1a4de82fd10", checked := Try.checked }
namespace Rows
def none {H : Type} : Left H := { results := [], args := [] }

/-- 'flarepathlaw11.VoteTells': WHATEVER THE INPUT: true; the input reads as it did. -/
def voteTellsSpec : ChangeSpec := { name := "voteTells", fn := fun _ => fun
  | [d1, d2, d3, d4] => { results := [.lit (.bool true)], args := [d1, d2, d3, d4] }
  | _ => none }
def voteTellsRow : OpenClaim := { program := "ytafifglfbebhaaa", sum := "7420ea2cf0f68037af221e395ffecd62ee2fe102236f9a623f04a1a4de82fd10", func := "flarepath/flarepathlaw11.VoteTells", spec := "voteTells", apart := false }
def VoteTellsSaid : Prop := voteTellsRow.holds Try.pinned (OpenSpec.ofChange voteTellsSpec)

/-- ITS FALSE NEIGHBOUR: 'it returns false'. Refute it at one input. -/
def voteTellsWrong : ChangeSpec := { name := "voteTells", fn := fun _ => fun
  | [d1, d2, d3, d4] => { results := [.lit (.bool false)], args := [d1, d2, d3, d4] }
  | _ => none }
def VoteTellsWrongFalsely : Prop := voteTellsRow.holds Try.pinned (OpenSpec.ofChange voteTellsWrong)

/-- 'flarepathlaw11.VoteAll': WHATEVER THE INPUT: true; the input reads as it did. -/
def voteAllSpec : ChangeSpec := { name := "voteAll", fn := fun _ => fun
  | [d1, d2, d3] => { results := [.lit (.bool true)], args := [d1, d2, d3] }
  | _ => none }
def voteAllRow : OpenClaim := { program := "ytafifglfbebhaaa", sum := "7420ea2cf0f68037af221e395ffecd62ee2fe102236f9a623f04a1a4de82fd10", func := "flarepath/flarepathlaw11.VoteAll", spec := "voteAll", unfollowed := true, recurses := true, apart := false }
def VoteAllSaid : Prop := voteAllRow.holds Try.pinned (OpenSpec.ofChange voteAllSpec)

/-- ITS FALSE NEIGHBOUR: 'it returns false'. Refute it at one input. -/
def voteAllWrong : ChangeSpec := { name := "voteAll", fn := fun _ => fun
  | [d1, d2, d3] => { results := [.lit (.bool false)], args := [d1, d2, d3] }
  | _ => none }
def VoteAllWrongFalsely : Prop := voteAllRow.holds Try.pinned (OpenSpec.ofChange voteAllWrong)

/-- 'flarepathlaw11.VoteFollows': WHATEVER THE INPUT: true; the input reads as it did. -/
def voteFollowsSpec : ChangeSpec := { name := "voteFollows", fn := fun _ => fun
  | [d1, d2, d3, d4, d5, d6, d7, d8] => { results := [.lit (.bool true)], args := [d1, d2, d3, d4, d5, d6, d7, d8] }
  | _ => none }
def voteFollowsRow : OpenClaim := { program := "ytafifglfbebhaaa", sum := "7420ea2cf0f68037af221e395ffecd62ee2fe102236f9a623f04a1a4de82fd10", func := "flarepath/flarepathlaw11.VoteFollows", spec := "voteFollows", apart := false }
def VoteFollowsSaid : Prop := voteFollowsRow.holds Try.pinned (OpenSpec.ofChange voteFollowsSpec)

/-- ITS FALSE NEIGHBOUR: 'it returns false'. Refute it at one input. -/
def voteFollowsWrong : ChangeSpec := { name := "voteFollows", fn := fun _ => fun
  | [d1, d2, d3, d4, d5, d6, d7, d8] => { results := [.lit (.bool false)], args := [d1, d2, d3, d4, d5, d6, d7, d8] }
  | _ => none }
def VoteFollowsWrongFalsely : Prop := voteFollowsRow.holds Try.pinned (OpenSpec.ofChange voteFollowsWrong)

/-- 'flarepathlaw11.VoteOut': WHATEVER THE INPUT: true; the input reads as it did. -/
def voteOutSpec : ChangeSpec := { name := "voteOut", fn := fun _ => fun
  | [d1, d2, d3, d4, d5] => { results := [.lit (.bool true)], args := [d1, d2, d3, d4, d5] }
  | _ => none }
def voteOutRow : OpenClaim := { program := "ytafifglfbebhaaa", sum := "7420ea2cf0f68037af221e395ffecd62ee2fe102236f9a623f04a1a4de82fd10", func := "flarepath/flarepathlaw11.VoteOut", spec := "voteOut", apart := false }
def VoteOutSaid : Prop := voteOutRow.holds Try.pinned (OpenSpec.ofChange voteOutSpec)

/-- ITS FALSE NEIGHBOUR: 'it returns false'. Refute it at one input. -/
def voteOutWrong : ChangeSpec := { name := "voteOut", fn := fun _ => fun
  | [d1, d2, d3, d4, d5] => { results := [.lit (.bool false)], args := [d1, d2, d3, d4, d5] }
  | _ => none }
def VoteOutWrongFalsely : Prop := voteOutRow.holds Try.pinned (OpenSpec.ofChange voteOutWrong)

/-- 'flarepathlaw11.VoteOrder': WHATEVER THE INPUT: true; the input reads as it did. -/
def voteOrderSpec : ChangeSpec := { name := "voteOrder", fn := fun _ => fun
  | [d1, d2, d3] => { results := [.lit (.bool true)], args := [d1, d2, d3] }
  | _ => none }
def voteOrderRow : OpenClaim := { program := "ytafifglfbebhaaa", sum := "7420ea2cf0f68037af221e395ffecd62ee2fe102236f9a623f04a1a4de82fd10", func := "flarepath/flarepathlaw11.VoteOrder", spec := "voteOrder", apart := false }
def VoteOrderSaid : Prop := voteOrderRow.holds Try.pinned (OpenSpec.ofChange voteOrderSpec)

/-- ITS FALSE NEIGHBOUR: 'it returns false'. Refute it at one input. -/
def voteOrderWrong : ChangeSpec := { name := "voteOrder", fn := fun _ => fun
  | [d1, d2, d3] => { results := [.lit (.bool false)], args := [d1, d2, d3] }
  | _ => none }
def VoteOrderWrongFalsely : Prop := voteOrderRow.holds Try.pinned (OpenSpec.ofChange voteOrderWrong)

/- THE SECOND FORM. 'bulk': how many values and letters a reading holds, each counted each time it is reached (what is shared counts as often as it is met; a slice's spare places count too). A statement '..UptoSaid' is the law's where the arguments, and the package variables that the reading takes, are together of bulk at most 1048576: NARROWER than '..Said'. Prove '..Said' where nothing that the law and all that it calls make is longer than what came in: it says more and counts as full. Else prove '..UptoSaid'. A law counts once. -/
mutual
def uptoBulk {H : Type} : DataW H → Nat
  | .lit (.string bytes) => bytes.length + 1
  | .lit _ => 1
  | .nil => 1
  | .ptr d => uptoBulk d + 1
  | .slice elems spare => uptoBulkAll elems + uptoBulkAll spare + 1
  | .agg parts => uptoBulkAll parts + 1
  | .iface _ d => uptoBulk d + 1
  | .map entries => uptoBulkEntries entries + 1
  | .held _ => 1
def uptoBulkAll {H : Type} : List (DataW H) → Nat
  | [] => 0
  | d :: r => uptoBulk d + uptoBulkAll r
def uptoBulkEntries {H : Type} : List (Lit × DataW H) → Nat
  | [] => 0
  | x :: r => uptoBulkEntry x + uptoBulkEntries r
def uptoBulkEntry {H : Type} : Lit × DataW H → Nat
  | (.string bytes, d) => bytes.length + uptoBulk d + 1
  | (_, d) => uptoBulk d + 1
 end
def uptoSmall : (H : Type) → List (DataW H) → Bool := fun _ ds => decide (uptoBulkAll ds ≤ 1048576)
def OpenSpec.upto (s : _root_.Go.ChangeSpec) : _root_.Go.OpenSpec := { _root_.Go.OpenSpec.ofChange s with cond := some uptoSmall }

/-- 'flarepathlaw11.VoteTells', WHERE WHAT IT READS IS OF BULK AT MOST 1048576: true; the input reads as it did. -/
def voteTellsUptoRow : OpenClaim := { program := "ytafifglfbebhaaa", sum := "7420ea2cf0f68037af221e395ffecd62ee2fe102236f9a623f04a1a4de82fd10", func := "flarepath/flarepathlaw11.VoteTells", spec := "voteTells", apart := false, narrowed := true }
def VoteTellsUptoSaid : Prop := voteTellsUptoRow.holds Try.pinned (OpenSpec.upto voteTellsSpec)

/-- 'flarepathlaw11.VoteAll', WHERE WHAT IT READS IS OF BULK AT MOST 1048576: true; the input reads as it did. -/
def voteAllUptoRow : OpenClaim := { program := "ytafifglfbebhaaa", sum := "7420ea2cf0f68037af221e395ffecd62ee2fe102236f9a623f04a1a4de82fd10", func := "flarepath/flarepathlaw11.VoteAll", spec := "voteAll", unfollowed := true, recurses := true, apart := false, narrowed := true }
def VoteAllUptoSaid : Prop := voteAllUptoRow.holds Try.pinned (OpenSpec.upto voteAllSpec)

/-- 'flarepathlaw11.VoteFollows', WHERE WHAT IT READS IS OF BULK AT MOST 1048576: true; the input reads as it did. -/
def voteFollowsUptoRow : OpenClaim := { program := "ytafifglfbebhaaa", sum := "7420ea2cf0f68037af221e395ffecd62ee2fe102236f9a623f04a1a4de82fd10", func := "flarepath/flarepathlaw11.VoteFollows", spec := "voteFollows", apart := false, narrowed := true }
def VoteFollowsUptoSaid : Prop := voteFollowsUptoRow.holds Try.pinned (OpenSpec.upto voteFollowsSpec)

/-- 'flarepathlaw11.VoteOut', WHERE WHAT IT READS IS OF BULK AT MOST 1048576: true; the input reads as it did. -/
def voteOutUptoRow : OpenClaim := { program := "ytafifglfbebhaaa", sum := "7420ea2cf0f68037af221e395ffecd62ee2fe102236f9a623f04a1a4de82fd10", func := "flarepath/flarepathlaw11.VoteOut", spec := "voteOut", apart := false, narrowed := true }
def VoteOutUptoSaid : Prop := voteOutUptoRow.holds Try.pinned (OpenSpec.upto voteOutSpec)

/-- 'flarepathlaw11.VoteOrder', WHERE WHAT IT READS IS OF BULK AT MOST 1048576: true; the input reads as it did. -/
def voteOrderUptoRow : OpenClaim := { program := "ytafifglfbebhaaa", sum := "7420ea2cf0f68037af221e395ffecd62ee2fe102236f9a623f04a1a4de82fd10", func := "flarepath/flarepathlaw11.VoteOrder", spec := "voteOrder", apart := false, narrowed := true }
def VoteOrderUptoSaid : Prop := voteOrderUptoRow.holds Try.pinned (OpenSpec.upto voteOrderSpec)

end Rows
end Go.Proofs.Ytafifglfbebhaaa
