/- Small words that all walks of this seat share: int64's range, min and max without a parting of the walk, how a returned value is restated. -/
import Derived.Test.YtaicijhkchfcfaaDoorRows
import Derived.WalkKit
import Derived.ProofKit
import Derived.OpenShut
import Derived.IntWalk
import Derived.Lib.Hide
import Derived.WalkLawsBesides
import Derived.Outline
import Derived.Below
import Derived.Deep.Draws
namespace Go.Proofs.YtaicijhkchfcfaaDoor.Num
open Go.ChangeShapes Go.WideShapes Go.ChangeAt Go.RowKit

/-- int64's range. -/
def In (a : Int) : Prop := -9223372036854775808 ≤ a ∧ a ≤ 9223372036854775807
theorem In_wf {a : Int} (h : (Lit.int .i64 a).wf = true) : In a := bounds_i64 h

/-- Go's min and max of two int64 numbers. -/
def gmin (a b : Int) : Int := if b < a then b else a
def gmax (a b : Int) : Int := if a < b then b else a
theorem gmin_cases (a b : Int) : (gmin a b = a ∧ a ≤ b) ∨ (gmin a b = b ∧ b < a) := by
  unfold gmin; split <;> omega
theorem gmax_cases (a b : Int) : (gmax a b = a ∧ b ≤ a) ∨ (gmax a b = b ∧ a < b) := by
  unfold gmax; split <;> omega
theorem min_i64 (ats : Array TypeId) (ty : TypeId) (a b : Int) : Builtin.min_ ats ty #[.int .i64 a, .int .i64 b] = pure (.int .i64 (gmin a b)) := by
  simp [Builtin.min_, Builtin.min2, gmin]
theorem max_i64 (ats : Array TypeId) (ty : TypeId) (a b : Int) : Builtin.max_ ats ty #[.int .i64 a, .int .i64 b] = pure (.int .i64 (gmax a b)) := by
  simp [Builtin.max_, Builtin.max2, gmax]
attribute [go_sem ↓] min_i64 max_i64

theorem ret_int {k : IntKind} {a b : Int} (h : b = a) : Ending.returned (.int k a) = .returned (.int k b) := by rw [h]
theorem ret_bool {a b : Bool} (h : b = a) : Ending.returned (.bool a) = .returned (.bool b) := by rw [h]
theorem ret_two {k l : IntKind} {a b c d : Int} (h : b = a) (g : d = c) : Ending.returned (.tuple #[.int k a, .int l c]) = .returned (.tuple #[.int k b, .int l d]) := by rw [h, g]
theorem ret_pair {k : IntKind} {a b : Int} {v : Value} (h : b = a) : Ending.returned (.tuple #[.int k a, v]) = .returned (.tuple #[.int k b, v]) := by rw [h]
theorem wrap_in (n : Int) (h : -9223372036854775808 ≤ n ∧ n ≤ 9223372036854775807) : wrap64 n = n := by unfold wrap64; omega
theorem gtrans {a b c : World} (h : Grown a b) (g : Grown b c) : Grown a c :=
  ⟨World.keptBut_trans h.1 g.1, fun x => (g.2.1 x).trans (h.2.1 x), Nat.le_trans h.2.2 g.2.2⟩
theorem below_drewN {B : Nat} {a w : World} (h : Below B a w) (n : Nat) : Below B a (w.drewN n) := ⟨h.os, h.tape, h.output, h.size, h.block⟩

/-- Below the first world's end nothing has turned, over two steps. -/
theorem bthen {a b c : World} (h : Below a.heap.size a b) (k : Below b.heap.size b c) : Below a.heap.size a c := h.trans (k.mono h.size)
end Go.Proofs.YtaicijhkchfcfaaDoor.Num
