/- A region whose order is drawn, by what holds between its operations: in general. Conditions: none. -/
import Derived.Test.YtgmgpefegmlnoaaDoorMem
import Derived.OrdersHeld
namespace Go.Proofs.YtgmgpefegmlnoaaDoor.Inv
open Go.ChangeShapes Go.WideShapes Go.ChangeAt Go.RowKit Num Mem

/-- Whatever comes up, I holds behind it: so whatever the order, the end is reached with I. -/
theorem any_inv {P : Program} {ops : Array Oper} {Q : Exit → Act → World → Prop} {md : Region.Mode} {S : World → Prop} {I : Nat → Array Bool → Act → World → Prop}
    (stop : ∀ n l a w, I n l a w → Region.ready md ops l = [] → Q .normal a w)
    (step : ∀ n l a w, I n l a w → ∀ i ∈ Region.ready md ops l, ∃ m, n = m + 1 ∧ wpOp P ops Q i (fun a' w' => S w' ∧ I m (l.setIfInBounds i true) a' w') a w) :
    ∀ n l a w, I n l a w → wpAnyH P md ops Q S n l a w
  | 0, l, a, w, h => by
    have e : Region.ready md ops l = [] := by
      cases hr : Region.ready md ops l with
      | nil => rfl
      | cons i t =>
        obtain ⟨m, hm, _⟩ := step 0 l a w h i (by rw [hr]; exact List.mem_cons_self ..)
        cases hm
    exact ⟨e, stop 0 l a w h e⟩
  | n + 1, l, a, w, h => ⟨fun e => stop _ l a w h e, fun i hi => by
      obtain ⟨m, hm, hp⟩ := step _ l a w h i hi
      cases hm
      exact wpOp_mono (fun a' w' h' => ⟨h'.1, any_inv stop step n _ a' w' h'.2⟩) hp⟩
/-- The same, at a beginning. -/
theorem any_inv_at {P : Program} {ops : Array Oper} {Q : Exit → Act → World → Prop} {md : Region.Mode} {S : World → Prop} {I : Nat → Array Bool → Act → World → Prop} {n n' : Nat} {l l' : Array Bool} {a : Act} {w : World} (hn : n = n') (hl : l = l')
    (stop : ∀ n l a w, I n l a w → Region.ready md ops l = [] → Q .normal a w)
    (step : ∀ n l a w, I n l a w → ∀ i ∈ Region.ready md ops l, ∃ m, n = m + 1 ∧ wpOp P ops Q i (fun a' w' => S w' ∧ I m (l.setIfInBounds i true) a' w') a w)
    (h : I n' l' a w) : wpAnyH P md ops Q S n l a w := by
  subst hn hl
  exact any_inv stop step _ _ _ _ h

end Go.Proofs.YtgmgpefegmlnoaaDoor.Inv
