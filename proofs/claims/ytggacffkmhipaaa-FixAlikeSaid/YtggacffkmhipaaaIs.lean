/- errors.Is over this program's errors, by contracts: the target is a number of an error (api.Errno); err is such a number, or the struct of layer 2 (fix) that wraps one. Go's own text is walked. Conditions: none. -/
import Derived.Test.YtggacffkmhipaaaBase
import Derived.LaidEql
import Derived.Stop.Asserts
import Derived.Stop.IfaceNil
import Derived.Lib.IfaceEq
import Derived.RowKitTokens
namespace Go.Proofs.Ytggacffkmhipaaa.Is
open Num Go.RowKit Go.Extern.Stop Go.Stop Go.Extern

theorem typeOfCall (v : Value) (w : World) : (callFunc 28 #[.iface 22 v]).run Try.prog w = .ok (Next.value (.iface 45 (.agg #[.pointer (some ⟨0, 22, none⟩)]))) w := by
  rw [@run_callFunc_extern Try.prog 28 _ Extern.ReflectliteType.typeOf Try.func28 (by kernel_rfl) (by kernel_rfl) (by kernel_rfl) (by kernel_rfl)]
  kernel_rfl

theorem compCall (w : World) : (callFunc 53 #[.agg #[.pointer (some ⟨0, 22, none⟩)]]).run Try.prog w = .ok (Next.value (.bool true)) w := by
  rw [@run_callFunc_extern Try.prog 53 _ (Extern.ReflectliteType.method fun t => do Extern.Rtype.noPackHeld "Comparable" t; pure (.bool (← typeInfo t).comparable)) Try.func53 (by kernel_rfl) (by kernel_rfl) (by kernel_rfl) (by kernel_rfl)]
  kernel_rfl

theorem isMethodComparable (v : Value) (w : World) : (Go.method 191 45 v "Comparable").run Try.prog w = .ok (53, v) w := by kernel_rfl

theorem isComp : (Try.prog.info? 22).map (·.comparable) = some true := by kernel_rfl

theorem eqE (w : World) (a b : Int) : (binOp .eql 34 (.iface 22 (.int .i64 a)) (.iface 22 (.int .i64 b))).run Try.prog w = .ok (.bool (a == b)) w :=
  Lib.run_eql_iface_int w a b Try.underlying34 isComp Try.underlying22

theorem noIsE (v : Value) (xT : TypeId) (w : World) : (Instr.typeAssert (.iface 22 v) xT 47 true).run Try.prog w = .ok (.tuple #[.nilIface, .bool false]) w := run_typeAssert_lacksB Try.underlying47 (by kernel_rfl) (by kernel_rfl) v xT w

theorem noUnwrapE (v : Value) (xT : TypeId) (w : World) : (Instr.typeAssert (.iface 22 v) xT 50 true).run Try.prog w = .ok (.tuple #[.nilIface, .bool false]) w := run_typeAssert_lacksB Try.underlying50 (by kernel_rfl) (by kernel_rfl) v xT w

theorem noUnwrapsE (v : Value) (xT : TypeId) (w : World) : (Instr.typeAssert (.iface 22 v) xT 52 true).run Try.prog w = .ok (.tuple #[.nilIface, .bool false]) w := run_typeAssert_lacksB Try.underlying52 (by kernel_rfl) (by kernel_rfl) v xT w

theorem noIsW (v : Value) (xT : TypeId) (w : World) : (Instr.typeAssert (.iface 56 v) xT 47 true).run Try.prog w = .ok (.tuple #[.nilIface, .bool false]) w := run_typeAssert_lacksB Try.underlying47 (by kernel_rfl) (by kernel_rfl) v xT w

theorem hasUnwrapW (v : Value) (xT : TypeId) (w : World) : (Instr.typeAssert (.iface 56 v) xT 50 true).run Try.prog w = .ok (.tuple #[.iface 56 v, .bool true]) w := run_typeAssert_hasB Try.underlying50 (by kernel_rfl) v xT w

theorem methodUnwrap (v : Value) (w : World) : (Go.method 191 56 v "Unwrap").run Try.prog w = .ok (63, v) w := by kernel_rfl

set_option maxHeartbeats 800000 in
/-- errors.Is of two numbers of errors: whether they are the same. -/
theorem is_no (a b : Int) (w : World) :
    Calls Try.prog 23 #[.iface 22 (.int .i64 a), .iface 22 (.int .i64 b)] w fun e w' => e = .returned (.bool (a == b)) ∧ w' = w := by
  have tT := typeOfCall
  have cT := compCall
  have mR := isMethodComparable
  have nE := noIsE
  have uE := noUnwrapE
  have vE := noUnwrapsE
  have heq := eqE
  cases hab : (a == b)
  all_goals
    go_enter Try.func23, Try.ntmps23
    go_wp2
    refine wp_loop_rounds 1 ?_
    rw [rounds_succ]
    go_wp2
    go_ret
    exact ⟨ret_bool rfl, rfl⟩

set_option maxHeartbeats 800000 in
/-- errors.Is of a wrapped number of an error. -/
theorem is_fault (s : ByteArray) (a b : Int) (w : World) :
    Calls Try.prog 23 #[.iface 56 (.agg #[.string s, .iface 22 (.int .i64 a)]), .iface 22 (.int .i64 b)] w fun e w' => e = .returned (.bool (a == b)) ∧ w' = w.alloc (.cells #[.string s, .iface 22 (.int .i64 a)] 56) := by
  have tT := typeOfCall
  have cT := compCall
  have mR := isMethodComparable
  have nE := noIsE
  have uE := noUnwrapE
  have vE := noUnwrapsE
  have nW := noIsW
  have uW := hasUnwrapW
  have mU := methodUnwrap
  have hty := run_eql_iface_types (P := Try.prog) 56 22 (.agg #[.string s, .iface 22 (.int .i64 a)]) (.int .i64 b) Try.underlying34 (by decide) w
  have heq := eqE
  cases hab : (a == b)
  all_goals
    go_enter Try.func23, Try.ntmps23
    go_wp2
    refine wp_loop_rounds 2 ?_
    rw [rounds_succ]
    go_wp2
    rw [rounds_succ]
    go_wp2
    go_ret
    exact ⟨ret_bool rfl, rfl⟩

end Go.Proofs.Ytggacffkmhipaaa.Is
