/- Signals in memory: one, four of them in a block; what the modes are told; the package's table of edges; loads kept shut. Conditions: none. -/
import Derived.Test.YtjonpagkhcieaaaBandNum
import Derived.Test.YtjonpagkhcieaaaMem
namespace Go.Proofs.Ytjonpagkhcieaaa.Band
open Go.ChangeShapes Go.WideShapes Go.ChangeAt Go.RowKit Num Mem

/-- A signal's cells; four signals'. -/
abbrev vtA (V : Vt) : Array Value := #[.bool V.b, .int .i64 V.v, .int .i64 V.o]
abbrev v12 (X : Nat → Vt) : Array Value := #[.bool (X 0).b, .int .i64 (X 0).v, .int .i64 (X 0).o, .bool (X 1).b, .int .i64 (X 1).v, .int .i64 (X 1).o, .bool (X 2).b, .int .i64 (X 2).v, .int .i64 (X 2).o, .bool (X 3).b, .int .i64 (X 3).v, .int .i64 (X 3).o]
theorem infoV : (Try.prog.info? 23).map (·.size) = some 3 := by kernel_rfl

/-- What a load of a signal, of four, gives: kept shut, so that a walk meets it as one fact. -/
def ldV (x : Value) : Sem Value := Instr.loadAt 23 x
theorem ldV_eq (x : Value) : Instr.loadAt 23 x = ldV x := rfl
theorem ldV_part {W : World} {g o : Nat} {V : Vt} (K : W.rangeAt g o (vtA V).toList) : (ldV (.pointer (some ⟨g, o, none⟩))).run Try.prog W = .ok (.agg (vtA V)) W :=
  run_loadAt_mid W g o 23 (vtA V).toList _ K Try.underlying23 rfl infoV

/-- What the modes are told. -/
structure Se where
  bd : Int
  l : Bool
  g : Bool
  w : Bool
  lv : Int
  cr : Int
  wd : Bool
abbrev seA (s : Se) : Array Value := #[.int .u8 s.bd, .bool s.l, .bool s.g, .bool s.w, .int .u8 s.lv, .int .u8 s.cr, .bool s.wd]
abbrev zSe : Se := ⟨0, false, false, false, 0, 0, false⟩

end Go.Proofs.Ytjonpagkhcieaaa.Band
