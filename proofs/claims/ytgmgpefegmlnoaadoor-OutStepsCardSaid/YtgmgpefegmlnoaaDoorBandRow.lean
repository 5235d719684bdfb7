/- Signals in memory: one, four of them in a block; what the modes are told; the package's table of edges; loads kept shut. Conditions: none. -/
import Derived.Test.YtgmgpefegmlnoaaDoorBandNum
import Derived.Test.YtgmgpefegmlnoaaDoorMem
namespace Go.Proofs.YtgmgpefegmlnoaaDoor.Band
open Go.ChangeShapes Go.WideShapes Go.ChangeAt Go.RowKit Num Mem

/-- A signal's cells; four signals'. -/
abbrev vtA (V : Vt) : Array Value := #[.bool V.b, .int .i64 V.v, .int .i64 V.o]
abbrev v12 (X : Nat → Vt) : Array Value := #[.bool (X 0).b, .int .i64 (X 0).v, .int .i64 (X 0).o, .bool (X 1).b, .int .i64 (X 1).v, .int .i64 (X 1).o, .bool (X 2).b, .int .i64 (X 2).v, .int .i64 (X 2).o, .bool (X 3).b, .int .i64 (X 3).v, .int .i64 (X 3).o]
theorem infoV : (Tryd.prog.info? 23).map (·.size) = some 3 := by kernel_rfl

theorem infoX : (Tryd.prog.info? 24).map (·.size) = some 12 := by kernel_rfl

/-- What a load of a signal, of four, gives: kept shut, so that a walk meets it as one fact. -/
def ldV (x : Value) : Sem Value := Instr.loadAt 23 x
theorem ldV_eq (x : Value) : Instr.loadAt 23 x = ldV x := rfl
theorem ldV_part {W : World} {g o : Nat} {V : Vt} (K : W.rangeAt g o (vtA V).toList) : (ldV (.pointer (some ⟨g, o, none⟩))).run Tryd.prog W = .ok (.agg (vtA V)) W :=
  run_loadAt_mid W g o 23 (vtA V).toList _ K Tryd.underlying23 rfl infoV

def ldX (x : Value) : Sem Value := Instr.loadAt 24 x
theorem ldX_eq (x : Value) : Instr.loadAt 24 x = ldX x := rfl
theorem ldX_blk {W : World} {g : Nat} {X : Nat → Vt} (K : Blk W g (v12 X) 24) : (ldX (.pointer (some ⟨g, 0, none⟩))).run Tryd.prog W = .ok (.agg (v12 X)) W := by
  unfold ldX
  simp only [Instr.loadAt, Instr.sureAddr, Sem.run_bind, Sem.run_pure, Result.andThen_ok, run_loadVar_row W g _ _ (v12 X) (0, 0) _ K Tryd.underlying24 rfl infoX]
theorem v12_at (X : Nat → Vt) : ∀ k : Fin 4, ∀ j : Fin 3, (v12 X)[k.val * 3 + j.val]? = (vtA (X k.val)).toList[j.val]? := fun k j => match k, j with
  | 0, 0 => rfl
  | 0, 1 => rfl
  | 0, 2 => rfl
  | 1, 0 => rfl
  | 1, 1 => rfl
  | 1, 2 => rfl
  | 2, 0 => rfl
  | 2, 1 => rfl
  | 2, 2 => rfl
  | 3, 0 => rfl
  | 3, 1 => rfl
  | 3, 2 => rfl
theorem ldV_at {W : World} {g k : Nat} {X : Nat → Vt} {T : TypeId} (K : Blk W g (v12 X) T) (hk : k < 4) : (ldV (.pointer (some ⟨g, k * 3, none⟩))).run Tryd.prog W = .ok (.agg (vtA (X k))) W :=
  ldV_part (range_of K fun j hj => v12_at X ⟨k, hk⟩ ⟨j, hj⟩)

/-- What the modes are told. -/
structure Se where
  bd : Int
  l : Bool
  g : Bool
  w : Bool
  lv : Int
  cr : Int
  wd : Bool
abbrev seA (s : Se) : Array Value := #[.int .u8 s.bd, .bool s.l, .bool s.g, .bool s.w, .int .u8 s.lv, .int .u8 s.cr, .bool s.wd]
abbrev zSe : Se := ⟨0, false, false, false, 0, 0, false⟩

end Go.Proofs.YtgmgpefegmlnoaaDoor.Band
