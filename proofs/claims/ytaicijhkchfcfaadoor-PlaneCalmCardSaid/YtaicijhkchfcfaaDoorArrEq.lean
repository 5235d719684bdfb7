/- '==' and '!=' of arrays: element by element, as the walk's own rule. -/
import Derived.Test.YtaicijhkchfcfaaDoorBase
import Derived.Laws.StructEq
namespace Go.Proofs.YtaicijhkchfcfaaDoor.Num
open Go.ChangeShapes Go.WideShapes Go.ChangeAt Go.RowKit

/-- n elements of s cells each, from element i on. -/
def eqElems (d : Nat) (e : TypeId) (s : Nat) (xs ys : Array Value) : Nat → Nat → Sem Bool
  | 0, _ => pure true
  | n + 1, i => do
    let a ← part e xs (i * s)
    let b ← part e ys (i * s)
    let r ← Op.equalIn d e a b
    if (!r) = true then pure false else eqElems d e s xs ys n (i + 1)

theorem eqElems_zero (d : Nat) (e : TypeId) (s : Nat) (xs ys : Array Value) (i : Nat) : eqElems d e s xs ys 0 i = pure true := rfl
theorem eqElems_succ (d : Nat) (e : TypeId) (s : Nat) (xs ys : Array Value) (n i : Nat) : eqElems d e s xs ys (n + 1) i = (do
    let a ← part e xs (i * s)
    let b ← part e ys (i * s)
    let r ← Op.equalIn d e a b
    if (!r) = true then pure false else eqElems d e s xs ys n (i + 1)) := rfl

theorem run_equalIn_arr {P : Program} (w : World) (d : Nat) (t : TypeId) (xs ys : Array Value) (ht : P.underlying t = some (.array (P.arrayLen t) (P.elem t))) :
    (Op.equalIn (d + 1) t (.agg xs) (.agg ys)).run P w = ((sizeOf (P.elem t)).run P w).andThen fun s w => (eqElems d (P.elem t) s xs ys (P.arrayLen t) 0).run P w := by
  simp only [Op.equalIn, Sem.run_bind, run_underlying ht, Result.andThen_ok]
  congr 1
  funext s w0
  simp only [Std.Legacy.Range.forIn_eq_forIn_range', Std.Legacy.Range.size, Nat.sub_zero, Nat.add_sub_cancel, Nat.div_one]
  generalize P.arrayLen t = n
  generalize (0 : Nat) = i
  clear ht
  induction n generalizing w0 i with
  | zero => simp [eqElems]
  | succ n ih =>
    rw [List.range'_succ]
    simp only [List.forIn_cons, eqElems, Sem.run_bind, Sem.run_ite]
    generalize (part (P.elem t) xs (i * s)).run P w0 = r1
    cases r1 with
    | ok a w1 =>
      simp only [Result.andThen_ok]
      generalize (part (P.elem t) ys (i * s)).run P w1 = r2
      cases r2 with
      | ok b w2 =>
        simp only [Result.andThen_ok]
        generalize (Op.equalIn d (P.elem t) a b).run P w2 = r3
        cases r3 with
        | ok r w3 =>
          cases r
          · simp only [Result.andThen_ok, Bool.not_false, if_true, Sem.run_pure]
          · simp only [Result.andThen_ok, Bool.not_true, Bool.false_eq_true, if_false, Sem.run_pure]
            exact ih w3 (i + 1)
        | halt x w3 => simp [Result.andThen]
      | halt x w2 => simp [Result.andThen]
    | halt x w1 => simp [Result.andThen]

attribute [go_sem] eqElems_zero eqElems_succ run_equalIn_arr

end Go.Proofs.YtaicijhkchfcfaaDoor.Num
