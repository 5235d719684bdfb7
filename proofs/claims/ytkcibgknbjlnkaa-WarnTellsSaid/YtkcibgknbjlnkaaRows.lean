/-
  No cell of these rows narrows 'for every input' (looked for: loops, veiled, ifaces, maps, wideKeys, modest, calm, conditions, laid).
  DERIVED. THE GIVEN ROWS OF THIS SEAT. 2 by the template 'for every input the law returns true; each argument reads behind the call as it read before'; 0 by the template 'total and deterministic' (their statements: YtkcibgknbjlnkaaTotals.lean).
  GIVEN WITH THE SEED: the statements are not yours to turn. If you find one false, say at which input.
  Laid BY PROGRAM, IN A SANDBOX (cutbox-rows.mjs): the forced cells as the released guide's own fill.sh prints them over the translation f43ecc174f0aea74… (all of the seat's roots in one cut). By AI agents, Wed Nov 11 2026. No macro, syntax, notation, axiom, sorry.
-/
import Derived.Test.YtkcibgknbjlnkaaChecked
import GoSem.Claim
import GoSem.ClaimJoined
import GoSem.ClaimMapViews
import Derived.JoinedTies
import Derived.KernelRfl
namespace Go.Proofs.Ytkcibgknbjlnkaa
/- THE CELL 'sum', in the pinned program and in every row, IS THE sha256 OF THE DUMP (.gsa) THAT YtkcibgknbjlnkaaProg.lean LOADS. Nothing in Lean hashes anything: it is a label: what it is worth is what the hold of that sum in a sandbox is worth. -/
noncomputable def Try.pinned : Pinned := { name := "ytkcibgknbjlnkaa", sum := "f43ecc174f0aea745535a9ec68052a7304fdc1cc336b12211fd29adbb91c7d49", checked := Try.checked }
namespace Rows
def none {H : Type} : Left H := { results := [], args := [] }

/-- 'flarepathlaw22.WarnTells': WHATEVER THE INPUT: true; the input reads as it did. -/
def warnTellsSpec : ChangeSpec := { name := "warnTells", fn := fun _ => fun
  | [d1, d2, d3, d4, d5, d6] => { results := [.lit (.bool true)], args := [d1, d2, d3, d4, d5, d6] }
  | _ => none }
def warnTellsRow : OpenClaim := { program := "ytkcibgknbjlnkaa", sum := "f43ecc174f0aea745535a9ec68052a7304fdc1cc336b12211fd29adbb91c7d49", func := "flarepath/flarepathlaw22.WarnTells", spec := "warnTells", unfollowed := true, recurses := true, apart := false }
def WarnTellsSaid : Prop := warnTellsRow.holds Try.pinned (OpenSpec.ofChange warnTellsSpec)

/-- ITS FALSE NEIGHBOUR: 'it returns false'. Refute it at one input. -/
def warnTellsWrong : ChangeSpec := { name := "warnTells", fn := fun _ => fun
  | [d1, d2, d3, d4, d5, d6] => { results := [.lit (.bool false)], args := [d1, d2, d3, d4, d5, d6] }
  | _ => none }
def WarnTellsWrongFalsely : Prop := warnTellsRow.holds Try.pinned (OpenSpec.ofChange warnTellsWrong)

/-- 'flarepathlaw22.WarnCalm': WHATEVER THE INPUT: true; the input reads as it did. -/
def warnCalmSpec : ChangeSpec := { name := "warnCalm", fn := fun _ => fun
  | [d1, d2, d3, d4] => { results := [.lit (.bool true)], args := [d1, d2, d3, d4] }
  | _ => none }
def warnCalmRow : OpenClaim := { program := "ytkcibgknbjlnkaa", sum := "f43ecc174f0aea745535a9ec68052a7304fdc1cc336b12211fd29adbb91c7d49", func := "flarepath/flarepathlaw22.WarnCalm", spec := "warnCalm", unfollowed := true, recurses := true, apart := false }
def WarnCalmSaid : Prop := warnCalmRow.holds Try.pinned (OpenSpec.ofChange warnCalmSpec)

/-- ITS FALSE NEIGHBOUR: 'it returns false'. Refute it at one input. -/
def warnCalmWrong : ChangeSpec := { name := "warnCalm", fn := fun _ => fun
  | [d1, d2, d3, d4] => { results := [.lit (.bool false)], args := [d1, d2, d3, d4] }
  | _ => none }
def WarnCalmWrongFalsely : Prop := warnCalmRow.holds Try.pinned (OpenSpec.ofChange warnCalmWrong)

/- THE SECOND FORM. 'bulk': how many values and letters a reading holds, each counted each time it is reached (what is shared counts as often as it is met; a slice's spare places count too). A statement '..UptoSaid' is the law's where the arguments, and the package variables that the reading takes, are together of bulk at most 1048576: NARROWER than '..Said'. Prove '..Said' where nothing that the law and all that it calls make is longer than what came in: it says more and counts as full. Else prove '..UptoSaid'. A law counts once. -/
mutual
def uptoBulk {H : Type} : DataW H → Nat
  | .lit (.string bytes) => bytes.length + 1
  | .lit _ => 1
  | .nil => 1
  | .ptr d => uptoBulk d + 1
  | .slice elems spare => uptoBulkAll elems + uptoBulkAll spare + 1
  | .agg parts => uptoBulkAll parts + 1
  | .iface _ d => uptoBulk d + 1
  | .map entries => uptoBulkEntries entries + 1
  | .held _ => 1
def uptoBulkAll {H : Type} : List (DataW H) → Nat
  | [] => 0
  | d :: r => uptoBulk d + uptoBulkAll r
def uptoBulkEntries {H : Type} : List (Lit × DataW H) → Nat
  | [] => 0
  | x :: r => uptoBulkEntry x + uptoBulkEntries r
def uptoBulkEntry {H : Type} : Lit × DataW H → Nat
  | (.string bytes, d) => bytes.length + uptoBulk d + 1
  | (_, d) => uptoBulk d + 1
 end
def uptoSmall : (H : Type) → List (DataW H) → Bool := fun _ ds => decide (uptoBulkAll ds ≤ 1048576)
def OpenSpec.upto (s : _root_.Go.ChangeSpec) : _root_.Go.OpenSpec := { _root_.Go.OpenSpec.ofChange s with cond := some uptoSmall }

/-- 'flarepathlaw22.WarnTells', WHERE WHAT IT READS IS OF BULK AT MOST 1048576: true; the input reads as it did. -/
def warnTellsUptoRow : OpenClaim := { program := "ytkcibgknbjlnkaa", sum := "f43ecc174f0aea745535a9ec68052a7304fdc1cc336b12211fd29adbb91c7d49", func := "flarepath/flarepathlaw22.WarnTells", spec := "warnTells", unfollowed := true, recurses := true, apart := false, narrowed := true }
def WarnTellsUptoSaid : Prop := warnTellsUptoRow.holds Try.pinned (OpenSpec.upto warnTellsSpec)

/-- 'flarepathlaw22.WarnCalm', WHERE WHAT IT READS IS OF BULK AT MOST 1048576: true; the input reads as it did. -/
def warnCalmUptoRow : OpenClaim := { program := "ytkcibgknbjlnkaa", sum := "f43ecc174f0aea745535a9ec68052a7304fdc1cc336b12211fd29adbb91c7d49", func := "flarepath/flarepathlaw22.WarnCalm", spec := "warnCalm", unfollowed := true, recurses := true, apart := false, narrowed := true }
def WarnCalmUptoSaid : Prop := warnCalmUptoRow.holds Try.pinned (OpenSpec.upto warnCalmSpec)

end Rows
end Go.Proofs.Ytkcibgknbjlnkaa
