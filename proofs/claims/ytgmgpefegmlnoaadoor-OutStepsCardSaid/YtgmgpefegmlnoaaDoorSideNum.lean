/- Along the runway, plainly: the gain at a height; a number against a gain; the command aside, the command around; what stays near the middle. Conditions: none but those that each row names. -/
import Derived.Test.YtgmgpefegmlnoaaDoorTabGains
import Derived.Test.YtgmgpefegmlnoaaDoorTabRefAt
import Derived.Test.YtgmgpefegmlnoaaDoorBandRow
namespace Go.Proofs.YtgmgpefegmlnoaaDoor.Sd
open Go.ChangeShapes Go.WideShapes Go.ChangeAt Go.RowKit Num Mem Band

/-- Where a height belongs among the points of the gains. -/
def pl (x : Int) : Nat := if x ≤ 0 then 0 else if x ≤ 1524 then 1 else if x ≤ 6096 then 2 else if x ≤ 30000 then 3 else 4
theorem pos_pl (x : Int) : Pos 4 GX x (pl x) := by
  unfold pl
  split
  · exact gpos (by omega) ⟨.inl rfl, .inr (by show x ≤ 0; omega)⟩
  split
  · exact gpos (by omega) ⟨.inr (by show 0 < x; omega), .inr (by show x ≤ 1524; omega)⟩
  split
  · exact gpos (by omega) ⟨.inr (by show 1524 < x; omega), .inr (by show x ≤ 6096; omega)⟩
  split
  · exact gpos (by omega) ⟨.inr (by show 6096 < x; omega), .inr (by show x ≤ 30000; omega)⟩
  · exact gpos (by omega) ⟨.inr (by show 30000 < x; omega), .inl rfl⟩

/-- What lies between two points whose whats rise. -/
theorem btw_bd {x0 y0 x1 y1 x : Int} (h0 : x0 ≤ x) (h1 : x ≤ x1) (h2 : x0 < x1) (hy : y0 ≤ y1) (hm : (y1 - y0) * (x - x0) ≤ 9223372036854775807) :
    btwE x0 y0 y1 x = 0 ∧ y0 ≤ btwN x0 y0 x1 y1 x ∧ btwN x0 y0 x1 y1 x ≤ y1 := by
  have hs := (share (y1 - y0) (x - x0) (x1 - x0) (by omega) (by omega) (by omega)).1 (by omega)
  have hn : 0 ≤ (y1 - y0) * (x - x0) := Int.mul_nonneg (by omega) (by omega)
  unfold btwE btwN
  rw [if_pos ⟨by omega, hm⟩, mulE_in (by omega) hm]
  exact ⟨rfl, by omega, by omega⟩

/-- The gain at a height. -/
def gv (x : Int) : Int := atN 4 GX GY x (pl x)
theorem gv_ok (x : Int) : atE 4 GX GY x (pl x) = 0 ∧ 4 ≤ gv x ∧ gv x ≤ 16 := by
  have key : ∀ p : Nat, 0 < p → p < 4 → GX (p - 1) < x → x ≤ GX p → pl x = p → atE 4 GX GY x (pl x) = 0 ∧ 4 ≤ gv x ∧ gv x ≤ 16 := by
    intro p h0 h4 hl hh hp
    unfold gv
    rw [hp]
    have hm : (GY p - GY (p - 1)) * (x - GX (p - 1)) ≤ 9223372036854775807 := by
      match p, h0, h4, hl, hh with
      | 1, _, _, hl, hh => simp [GX, GY] at *; omega
      | 2, _, _, hl, hh => simp [GX, GY] at *; omega
      | 3, _, _, hl, hh => simp [GX, GY] at *; omega
    have hy : 4 ≤ GY (p - 1) ∧ GY (p - 1) ≤ GY p ∧ GY p ≤ 16 := by
      match p, h0, h4 with
      | 1, _, _ => decide
      | 2, _, _ => decide
      | 3, _, _ => decide
    by_cases he : GX p = x
    · have := at_hit 4 GX GY x p h4 he
      rw [this.1, this.2]
      exact ⟨rfl, by omega, by omega⟩
    · have := at_between 4 GX GY x p h4 h0 he
      rw [this.1, this.2]
      have hb := btw_bd (x0 := GX (p - 1)) (y0 := GY (p - 1)) (x1 := GX p) (y1 := GY p) (x := x) (by omega) hh (by omega) hy.2.1 hm
      exact ⟨hb.1, by omega, by omega⟩
  by_cases c0 : x ≤ 0
  · have hp : pl x = 0 := if_pos c0
    unfold gv
    rw [hp, (at_zero 4 GX GY x).1]
    exact ⟨rfl, by decide, by decide⟩
  by_cases c1 : x ≤ 1524
  · exact key 1 (by omega) (by omega) (by show 0 < x; omega) c1 (by unfold pl; rw [if_neg c0, if_pos c1])
  by_cases c2 : x ≤ 6096
  · exact key 2 (by omega) (by omega) (by show 1524 < x; omega) c2 (by unfold pl; rw [if_neg c0, if_neg c1, if_pos c2])
  by_cases c3 : x ≤ 30000
  · exact key 3 (by omega) (by omega) (by show 6096 < x; omega) c3 (by unfold pl; rw [if_neg c0, if_neg c1, if_neg c2, if_pos c3])
  · have hp : pl x = 4 := by unfold pl; rw [if_neg c0, if_neg c1, if_neg c2, if_neg c3]
    have := at_last 4 GX GY x (by omega)
    unfold gv
    rw [hp, this.1, this.2]
    exact ⟨rfl, by decide, by decide⟩
/-- The gain that a signal tells. -/
def gn (V : Vt) : Int := if V.b then gv V.v else 16
theorem gn_bd (V : Vt) : 4 ≤ gn V ∧ gn V ≤ 16 := by
  obtain ⟨b, v, o⟩ := V
  cases b
  · exact ⟨show (4 : Int) ≤ 16 by decide, show (16 : Int) ≤ 16 by decide⟩
  · exact (gv_ok v).2

/-- A quotient by a gain. -/
theorem quo_bd {n g : Int} (hg : 4 ≤ g) : (0 ≤ n → 0 ≤ n.tdiv g ∧ n.tdiv g * 4 ≤ n) ∧ (n ≤ 0 → n ≤ n.tdiv g * 4 ∧ n.tdiv g ≤ 0) := by
  have key : ∀ m : Int, 0 ≤ m → 0 ≤ m.tdiv g ∧ m.tdiv g * 4 ≤ m := by
    intro m hm
    rw [Int.tdiv_eq_ediv_of_nonneg hm]
    have h1 : 0 ≤ m / g := Int.ediv_nonneg hm (by omega)
    have h2 : m / g * g ≤ m := Int.ediv_mul_le m (by omega)
    have h3 : m / g * 4 ≤ m / g * g := Int.mul_le_mul_of_nonneg_left hg h1
    exact ⟨h1, by omega⟩
  refine ⟨key n, fun h => ?_⟩
  have := key (-n) (by omega)
  rw [Int.neg_tdiv] at this
  omega
/-- Far from the middle the quotient is 4 and more. -/
theorem quo_far {n g : Int} (hg : 4 ≤ g) (hg' : g ≤ 16) : (64 ≤ n → 4 ≤ n.tdiv g) ∧ (n ≤ -64 → n.tdiv g ≤ -4) := by
  have key : ∀ m : Int, 64 ≤ m → 4 ≤ m.tdiv g := by
    intro m hm
    rw [Int.tdiv_eq_ediv_of_nonneg (by omega)]
    exact Int.le_ediv_of_mul_le (by omega) (by omega)
  refine ⟨key n, fun h => ?_⟩
  have := key (-n) (by omega)
  rw [Int.neg_tdiv] at this
  omega

/-- The negative of a number by a gain, towards 0, no further than m from 0. -/
def stp (n g m : Int) : Int := if m < n.tdiv g then -m else if n.tdiv g < -m then m else -(n.tdiv g)
theorem stp_cases (n g m : Int) : (m < n.tdiv g ∧ stp n g m = -m) ∨ (n.tdiv g ≤ m ∧ n.tdiv g < -m ∧ stp n g m = m) ∨ (n.tdiv g ≤ m ∧ -m ≤ n.tdiv g ∧ stp n g m = -(n.tdiv g)) := by
  unfold stp
  by_cases h : m < n.tdiv g
  · rw [if_pos h]; exact .inl ⟨h, rfl⟩
  by_cases k : n.tdiv g < -m
  · rw [if_neg h, if_pos k]; exact .inr (.inl ⟨by omega, k, rfl⟩)
  · rw [if_neg h, if_neg k]; exact .inr (.inr ⟨by omega, by omega, rfl⟩)
theorem stp_clamp {n g m : Int} (hm : 0 ≤ m) : stp n g m = clamp (-(n.tdiv g)) m := by
  rw [clamp_b (by omega)]
  rcases stp_cases n g m with ⟨a, e⟩ | ⟨a, b, e⟩ | ⟨a, b, e⟩
  · rw [e, within_a (by omega)]
  · rw [e, within_b (by omega) (by omega)]
  · rw [e, within_c (by omega) (by omega)]
/-- P23.2. -/
theorem stp_back {n g m : Int} (hg : 4 ≤ g) (hm : 0 ≤ m) : -m ≤ stp n g m ∧ stp n g m ≤ m ∧ (0 < n → stp n g m ≤ 0) ∧ (n < 0 → 0 ≤ stp n g m) ∧ stp (-n) g m = -(stp n g m) := by
  have hq := quo_bd (n := n) hg
  have hneg : stp (-n) g m = -(stp n g m) := by
    rcases stp_cases n g m with ⟨a, e⟩ | ⟨a, b, e⟩ | ⟨a, b, e⟩
    · rcases stp_cases (-n) g m with ⟨c, f⟩ | ⟨c, d, f⟩ | ⟨c, d, f⟩ <;> rw [Int.neg_tdiv] at * <;> omega
    · rcases stp_cases (-n) g m with ⟨c, f⟩ | ⟨c, d, f⟩ | ⟨c, d, f⟩ <;> rw [Int.neg_tdiv] at * <;> omega
    · rcases stp_cases (-n) g m with ⟨c, f⟩ | ⟨c, d, f⟩ | ⟨c, d, f⟩ <;> rw [Int.neg_tdiv] at * <;> omega
  rcases stp_cases n g m with ⟨a, e⟩ | ⟨a, b, e⟩ | ⟨a, b, e⟩
  · exact ⟨by omega, by omega, fun h => by omega, fun h => by have := hq.2 (by omega); omega, hneg⟩
  · exact ⟨by omega, by omega, fun h => by have := hq.1 (by omega); omega, fun h => by omega, hneg⟩
  · exact ⟨by omega, by omega, fun h => by have := hq.1 (by omega); omega, fun h => by have := hq.2 (by omega); omega, hneg⟩
/-- What is no further than 100 from the middle stays so: read wrong by up to 30, pushed by up to 2. -/
theorem stp_stays {n g e p : Int} (hg : 4 ≤ g) (hg' : g ≤ 16) (hn : -100 ≤ n ∧ n ≤ 100) (he : -30 ≤ e ∧ e ≤ 30) (hp : -2 ≤ p ∧ p ≤ 2) : -100 ≤ n + stp (n + e) g 20 + p ∧ n + stp (n + e) g 20 + p ≤ 100 := by
  have hq := quo_bd (n := n + e) hg
  have hf := quo_far (n := n + e) hg hg'
  rcases stp_cases (n + e) g 20 with ⟨a, x⟩ | ⟨a, b, x⟩ | ⟨a, b, x⟩
  · rw [x]
    have : 0 ≤ n + e := by
      rcases Int.lt_or_le (n + e) 0 with h | h
      · have := hq.2 (by omega); omega
      · exact h
    have := hq.1 this
    omega
  · rw [x]
    have : n + e ≤ 0 := by
      rcases Int.lt_or_le 0 (n + e) with h | h
      · have := hq.1 (by omega); omega
      · exact h
    have := hq.2 this
    omega
  · rw [x]
    generalize (n + e).tdiv g = q at *
    rcases Int.lt_or_le (n + e) 0 with h | h
    · have := hq.2 (by omega)
      rcases Int.lt_or_le (-64) (n + e) with k | k
      · omega
      · have := hf.2 k; omega
    · have := hq.1 h
      rcases Int.lt_or_le (n + e) 64 with k | k
      · omega
      · have := hf.1 k; omega

/-- What comes of a signal against a gain; what is held, where it is not there. -/
def ag (V : Vt) (g m h : Int) : Int := if V.b then stp V.v g m else h
/-- P23.1: the command aside, in a mode; the one around. -/
def sidW (m : Int) (L H : Vt) (p : Int) : Int := if m = 5 then ag L 4 10 (clamp p 20) else if 2 ≤ m ∧ m ≤ 4 then ag L (gn H) 20 (clamp p 20) else 0
def trnW (m : Int) (D : Vt) (p : Int) : Int := if m = 4 ∨ m = 5 then ag D 4 500 (clamp p 500) else 0
theorem sid_five (L H : Vt) (p : Int) : sidW 5 L H p = ag L 4 10 (clamp p 20) := if_pos rfl
theorem sid_mid {m : Int} (L H : Vt) (p : Int) (h : 2 ≤ m ∧ m ≤ 4) : sidW m L H p = ag L (gn H) 20 (clamp p 20) := by unfold sidW; rw [if_neg (by omega), if_pos h]
theorem sid_none {m : Int} (L H : Vt) (p : Int) (h : m < 2 ∨ 5 < m) : sidW m L H p = 0 := by unfold sidW; rw [if_neg (by omega), if_neg (by omega)]
theorem trn_yes {m : Int} (D : Vt) (p : Int) (h : m = 4 ∨ m = 5) : trnW m D p = ag D 4 500 (clamp p 500) := if_pos h
theorem trn_none {m : Int} (D : Vt) (p : Int) (h : m ≠ 4 ∧ m ≠ 5) : trnW m D p = 0 := if_neg (by omega)
theorem ag_yes {V : Vt} (g m h : Int) (e : V.b = true) : ag V g m h = stp V.v g m := if_pos e
theorem ag_no {V : Vt} (g m h : Int) (e : V.b = false) : ag V g m h = h := by unfold ag; rw [e]; rfl
/-- A signal's number is an int64 number. -/
abbrev Vin (V : Vt) : Prop := In V.v
theorem clamp_In {p m : Int} (hm : 0 ≤ m) (hp : m ≤ 500) : In (clamp p m) := by
  rw [clamp_b (by omega)]
  unfold within In
  split
  · omega
  · split <;> omega

end Go.Proofs.YtgmgpefegmlnoaaDoor.Sd
