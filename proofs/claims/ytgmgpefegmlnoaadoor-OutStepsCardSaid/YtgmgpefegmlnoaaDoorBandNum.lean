/- Bands, plainly: how high it is, in a word; what is low, on the beam, wide; what the modes are told. Conditions: none but those that each row names. -/
import Derived.Test.YtgmgpefegmlnoaaDoorNum
namespace Go.Proofs.YtgmgpefegmlnoaaDoor.Band
open Go.ChangeShapes Go.WideShapes Go.ChangeAt Go.RowKit Num

/-- A signal: whether it is there, what it is, of how many. -/
structure Vt where
  b : Bool
  v : Int
  o : Int
/-- The band of a height that is there, the wheels being up. -/
def bnd (n : Int) : Int := if 6096 < n then 0 else if 1524 < n then 1 else if 300 < n then 2 else 3
theorem bnd_0 {n : Int} (h : 6096 < n) : bnd n = 0 := if_pos h
theorem bnd_1 {n : Int} (h : n ≤ 6096) (g : 1524 < n) : bnd n = 1 := by
  unfold bnd
  rw [if_neg (by omega), if_pos g]
theorem bnd_2 {n : Int} (h : n ≤ 1524) (g : 300 < n) : bnd n = 2 := by
  unfold bnd
  rw [if_neg (by omega), if_neg (by omega), if_pos g]
theorem bnd_3 {n : Int} (h : n ≤ 300) : bnd n = 3 := by
  unfold bnd
  rw [if_neg (by omega), if_neg (by omega), if_neg (by omega)]
/-- The edges, by place; none of the first k is below n. -/
def ab : Nat → Int
  | 0 => 6096
  | 1 => 1524
  | _ => 300
def over (n : Int) (k : Nat) : Prop := ∀ j, j < k → n ≤ ab j
theorem over_next {n : Int} {k : Nat} (h : over n k) (g : n ≤ ab k) : over n (k + 1) := fun j hj => by
  by_cases e : j = k
  · subst e; exact g
  · exact h j (by omega)
theorem bnd_hit {n : Int} {k : Nat} (hk : k < 3) (h : over n k) (g : ab k < n) : bnd n = k := by
  have e : k = 0 ∨ k = 1 ∨ k = 2 := by omega
  rcases e with rfl | rfl | rfl
  · exact bnd_0 g
  · exact bnd_1 (h 0 (by omega)) g
  · exact bnd_2 (h 1 (by omega)) g
theorem bnd_none {n : Int} (h : over n 3) : bnd n = 3 := bnd_3 (h 2 (by omega))
theorem bnd_falls {a b : Int} (h : a ≤ b) : bnd b ≤ bnd a := by
  unfold bnd
  split
  · split <;> first | omega | (split <;> first | omega | (split <;> omega))
  · split
    · split <;> first | omega | (split <;> first | omega | (split <;> omega))
    · split
      · split <;> first | omega | (split <;> first | omega | (split <;> omega))
      · split <;> first | omega | (split <;> first | omega | (split <;> omega))
theorem bnd_bd (n : Int) : 0 ≤ bnd n ∧ bnd n ≤ 3 := by
  unfold bnd
  split
  · omega
  · split
    · omega
    · split <;> omega
/-- The band. -/
def band (V : Vt) : Bool → Int
  | true => 4
  | false => if V.b = true then bnd V.v else 5
theorem band_bd (V : Vt) (wh : Bool) : 0 ≤ band V wh ∧ band V wh ≤ 5 := by
  have := bnd_bd V.v
  cases wh
  · show 0 ≤ (if V.b = true then bnd V.v else 5) ∧ (if V.b = true then bnd V.v else 5) ≤ 5
    split <;> omega
  · show (0 : Int) ≤ 4 ∧ (4 : Int) ≤ 5
    decide
/-- No further than r from 0. -/
def wi (n r : Int) : Bool := decide (-r ≤ n ∧ n ≤ r)
theorem wi_yes {n r : Int} (h : -r ≤ n) (g : n ≤ r) : wi n r = true := decide_eq_true ⟨h, g⟩
theorem wi_lo {n r : Int} (h : n < -r) : wi n r = false := decide_eq_false (by omega)
theorem wi_hi {n r : Int} (h : r < n) : wi n r = false := decide_eq_false (by omega)
theorem wi_neg (n r : Int) : wi (-n) r = wi n r := decide_eq_decide.2 ⟨fun h => by omega, fun h => by omega⟩
theorem wi_more {n : Int} (h : wi n 300 = true) : wi n 500 = true := by
  have g := of_decide_eq_true h
  exact wi_yes (by omega) (by omega)
/-- On the beam; wide. -/
def onB (V : Vt) : Bool := V.b && wi V.v 300
def wideB (V : Vt) : Bool := V.b && !wi V.v 500
theorem on_wide {V : Vt} (h : onB V = true) : wideB V = false := by
  obtain ⟨b, v, o⟩ := V
  cases b
  · rfl
  · have g : wi v 300 = true := h
    show (true && !wi v 500) = false
    rw [wi_more g]
    rfl
/-- Below the alert height. -/
def lowB (b : Int) : Bool := decide (1 ≤ b ∧ b ≤ 4)

end Go.Proofs.YtgmgpefegmlnoaaDoor.Band
