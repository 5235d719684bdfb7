/- How fast it is to sink, plainly: a course, what is held, what a height comes to; what rises, what lies between; how low it is when it is down; signals handed in, a course in memory. Conditions: none but those that each row names. -/
import Derived.Test.YtgmgpefegmlnoaaDoorNumMul
import Derived.Test.YtgmgpefegmlnoaaDoorBandRow
namespace Go.Proofs.YtgmgpefegmlnoaaDoor.Sk
open Go.ChangeShapes Go.WideShapes Go.ChangeAt Go.RowKit Num Mem Band

theorem inI {n : Int} (h : -1000000 ≤ n ∧ n ≤ 1000000) : In n := ⟨by omega, by omega⟩
/-- A signal's number is an int64 number. -/
abbrev Vin (V : Vt) : Prop := In V.v
/-- A quotient by 4 or more. -/
theorem quo_bd {n g : Int} (hg : 4 ≤ g) : (0 ≤ n → 0 ≤ n.tdiv g ∧ n.tdiv g * 4 ≤ n) ∧ (n ≤ 0 → n ≤ n.tdiv g * 4 ∧ n.tdiv g ≤ 0) := by
  have key : ∀ m : Int, 0 ≤ m → 0 ≤ m.tdiv g ∧ m.tdiv g * 4 ≤ m := by
    intro m hm
    rw [Int.tdiv_eq_ediv_of_nonneg hm]
    have h1 : 0 ≤ m / g := Int.ediv_nonneg hm (by omega)
    have h2 : m / g * g ≤ m := Int.ediv_mul_le m (by omega)
    have h3 : m / g * 4 ≤ m / g * g := Int.mul_le_mul_of_nonneg_left hg h1
    exact ⟨h1, by omega⟩
  refine ⟨key n, fun h => ?_⟩
  have := key (-n) (by omega)
  rw [Int.neg_tdiv] at this
  omega
/-- It is far from the ends. -/
theorem quo_in {n g : Int} (hg : 4 ≤ g) (hn : In n) : -2305843009213693952 ≤ n.tdiv g ∧ n.tdiv g ≤ 2305843009213693952 := by
  have hq := quo_bd (n := n) hg
  obtain ⟨v0, v1⟩ := hn
  rcases Int.le_total 0 n with k | k
  · have := hq.1 k; omega
  · have := hq.2 k; omega
/-- It rises. -/
theorem quo_rise {a b g : Int} (hg : 4 ≤ g) (h : a ≤ b) : a.tdiv g ≤ b.tdiv g := by
  have key : ∀ x y : Int, 0 ≤ x → x ≤ y → x.tdiv g ≤ y.tdiv g := by
    intro x y hx hy
    rw [Int.tdiv_eq_ediv_of_nonneg hx, Int.tdiv_eq_ediv_of_nonneg (by omega)]
    exact Int.ediv_le_ediv (by omega) hy
  rcases Int.le_total 0 a with k | k
  · exact key a b k h
  rcases Int.le_total 0 b with l | l
  · have h1 := (quo_bd (n := a) hg).2 k
    have h2 := (quo_bd (n := b) hg).1 l
    omega
  · have := key (-b) (-a) (by omega) (by omega)
    rw [Int.neg_tdiv, Int.neg_tdiv] at this
    omega
theorem tmod_bd (x m : Int) (h : 0 < m) : -m < x.tmod m ∧ x.tmod m < m := by
  rcases Int.le_total 0 x with g | g
  · have h1 := Int.tmod_nonneg m g
    have h2 := Int.tmod_lt_of_pos x h
    omega
  · obtain ⟨y, rfl⟩ : ∃ y, x = -y := ⟨-x, by omega⟩
    have h1 := Int.tmod_nonneg m (show 0 ≤ y by omega)
    have h2 := Int.tmod_lt_of_pos y h
    rw [Int.neg_tmod]
    omega

theorem within_cases {n l h : Int} (c : l ≤ h) : (n < l ∧ within n l h = l) ∨ (l ≤ n ∧ n ≤ h ∧ within n l h = n) ∨ (h < n ∧ within n l h = h) := by
  by_cases a : n < l
  · exact .inl ⟨a, within_a (.inl a)⟩
  by_cases b : h < n
  · exact .inr (.inr ⟨b, within_b (by omega) b⟩)
  · exact .inr (.inl ⟨by omega, by omega, within_c (by omega) b⟩)
theorem within_bd {n l h : Int} (c : l ≤ h) : l ≤ within n l h ∧ within n l h ≤ h := by
  rcases within_cases (n := n) c with ⟨_, e⟩ | ⟨_, _, e⟩ | ⟨_, e⟩ <;> omega

/-- What is held of the one ahead; what a height comes to in Flare. -/
def hld (p : Int) : Int := within p (-20) 24
def flr (h : Int) : Int := within (3 + h.tdiv 100) 3 18
theorem flr_eq (h : Int) : flr h = within (3 + h.tdiv 100) 3 18 := rfl
/-- What comes of a course: a signal by a part, from a beginning on, between two ends; what is held, where it is not there. -/
def fol (V : Vt) (p b l m h : Int) : Int := if V.b then within (b + V.v.tdiv p) l m else hld h
theorem fol_yes {V : Vt} (p b l m h : Int) (e : V.b = true) : fol V p b l m h = within (b + V.v.tdiv p) l m := if_pos e
theorem fol_no {V : Vt} (p b l m h : Int) (e : V.b = false) : fol V p b l m h = hld h := by unfold fol; rw [e]; rfl
theorem fol_flr (x o h : Int) : fol ⟨true, x, o⟩ 100 3 3 18 h = flr x := rfl
/-- Along the beam, by the document's way. -/
theorem fol_beam {x : Int} (o h : Int) : fol ⟨true, x, o⟩ 8 18 12 24 h = 18 + within (x.tdiv 8) (-6) 6 := by
  show within (18 + x.tdiv 8) 12 24 = _
  rcases within_cases (n := x.tdiv 8) (show (-6 : Int) ≤ 6 by decide) with ⟨a, e⟩ | ⟨a, b, e⟩ | ⟨a, e⟩
  · rw [e, within_a (by omega)]; rfl
  · rw [e, within_c (by omega) (by omega)]
  · rw [e, within_b (by omega) (by omega)]; rfl
/-- P24.1: how fast it is to sink, in a mode. -/
def snk (m : Int) (G H : Vt) (p : Int) : Int := if m = 2 then fol G 8 18 12 24 p else if m = 3 ∨ m = 4 then fol H 100 3 3 18 p else if m = 6 then -20 else 0
theorem snk_two (G H : Vt) (p : Int) : snk 2 G H p = fol G 8 18 12 24 p := if_pos rfl
theorem snk_mid {m : Int} (G H : Vt) (p : Int) (h : m = 3 ∨ m = 4) : snk m G H p = fol H 100 3 3 18 p := by unfold snk; rw [if_neg (by omega), if_pos h]
theorem snk_six (G H : Vt) (p : Int) : snk 6 G H p = -20 := rfl
theorem snk_none {m : Int} (G H : Vt) (p : Int) (h : m ≠ 2 ∧ m ≠ 3 ∧ m ≠ 4 ∧ m ≠ 6) : snk m G H p = 0 := by unfold snk; rw [if_neg (by omega), if_neg (by omega), if_neg (by omega)]
/-- P24.2. -/
theorem flr_bd (h : Int) : 3 ≤ flr h ∧ flr h ≤ 18 := within_bd (by decide)
theorem flr_rise {a b : Int} (h : a ≤ b) : flr a ≤ flr b := by
  have q := quo_rise (g := 100) (by decide) h
  unfold flr
  rcases within_cases (n := 3 + a.tdiv 100) (show (3 : Int) ≤ 18 by decide) with ⟨_, e⟩ | ⟨_, _, e⟩ | ⟨_, e⟩ <;>
    rcases within_cases (n := 3 + b.tdiv 100) (show (3 : Int) ≤ 18 by decide) with ⟨_, f⟩ | ⟨_, _, f⟩ | ⟨_, f⟩ <;> omega
theorem hld_bd (p : Int) : -20 ≤ hld p ∧ hld p ≤ 24 := within_bd (by decide)
theorem hld_same {p : Int} (h : -20 ≤ p ∧ p ≤ 24) : hld p = p := within_c (by omega) (by omega)
theorem fol_bd (V : Vt) (p b h : Int) {l m : Int} (hl : -20 ≤ l) (hlm : l ≤ m) (hm : m ≤ 24) : -20 ≤ fol V p b l m h ∧ fol V p b l m h ≤ 24 := by
  obtain ⟨t, v, o⟩ := V
  cases t
  · exact hld_bd h
  · have := within_bd (n := b + v.tdiv p) hlm
    show -20 ≤ within (b + v.tdiv p) l m ∧ within (b + v.tdiv p) l m ≤ 24
    omega
theorem snk_bd (m : Int) (G H : Vt) (p : Int) : -20 ≤ snk m G H p ∧ snk m G H p ≤ 24 := by
  unfold snk
  split
  · exact fol_bd _ _ _ _ (by decide) (by decide) (by decide)
  split
  · exact fol_bd _ _ _ _ (by decide) (by decide) (by decide)
  split <;> decide
/-- Flared by a height read wrong by up to 30, pushed by up to 1: it sinks by 2 at least, and by 4 at most when it is down. -/
theorem flr_down {z u r : Int} (h : z ≤ flr (z + u) + r) (hu : u ≤ 30) (hr : r ≤ 1) : flr (z + u) + r ≤ 4 := by
  have a := flr_bd (z + u)
  have b : flr (z + u) ≤ flr 99 := flr_rise (by omega)
  have c : flr 99 = 3 := by decide
  omega

/-- A signal handed in; two of them. -/
structure BxAt (w0 : World) (V : Vt) (w : World) : Prop where
  below : Below w0.heap.size w0 w
  hb : Blk w w0.heap.size (vtA V) 23
theorem bx_box (w : World) (V : Vt) : BxAt w V (w.alloc (.cells (vtA V) 23)) := ⟨allocs w _, blk_alloc w _ _⟩
theorem bx_call {w0 w w1 : World} {V : Vt} (h : BxAt w0 V w) (b : Below w.heap.size w w1) : BxAt w0 V w1 := ⟨bthen h.below b, blk_kept h.hb b⟩
theorem bx_drew {w0 w : World} {V : Vt} (h : BxAt w0 V w) : BxAt w0 V w.drew := ⟨below_drewN h.below 1, h.hb⟩
structure TwAt (w0 : World) (L H : Vt) (w : World) : Prop where
  below : Below w0.heap.size w0 w
  hl : Blk w w0.heap.size (vtA L) 23
  hh : Blk w (w0.heap.size + 1) (vtA H) 23
theorem tw_box (w : World) (L H : Vt) : TwAt w L H ((w.alloc (.cells (vtA L) 23)).alloc (.cells (vtA H) 23)) :=
  ⟨below_new (allocs w _) _, blk_kept (blk_alloc w _ _) (allocs _ _), blk_alloc2 w _ _ _⟩
theorem tw_call {w0 w w1 : World} {L H : Vt} (h : TwAt w0 L H w) (b : Below w.heap.size w w1) : TwAt w0 L H w1 := ⟨bthen h.below b, blk_kept h.hl b, blk_kept h.hh b⟩
theorem tw_drew {w0 w : World} {L H : Vt} (h : TwAt w0 L H w) : TwAt w0 L H w.drew := ⟨below_drewN h.below 1, h.hl, h.hh⟩
theorem ldV_blk {W : World} {g : Nat} {V : Vt} (K : Blk W g (vtA V) 23) : (ldV (.pointer (some ⟨g, 0, none⟩))).run Tryd.prog W = .ok (.agg (vtA V)) W :=
  ldV_part (range_of K fun j _ => by rw [Nat.zero_add]; simp)
/-- A course's cells; one handed in. -/
abbrev coA (V : Vt) (p b l m : Int) : Array Value := #[.bool V.b, .int .i64 V.v, .int .i64 V.o, .int .i64 p, .int .i64 b, .int .i64 l, .int .i64 m]
structure CoAt (w0 : World) (V : Vt) (p b l m : Int) (w : World) : Prop where
  below : Below w0.heap.size w0 w
  hb : Blk w w0.heap.size (coA V p b l m) 50
theorem co_box (w : World) (V : Vt) (p b l m : Int) : CoAt w V p b l m (w.alloc (.cells (coA V p b l m) 50)) := ⟨allocs w _, blk_alloc w _ _⟩
theorem co_drew {w0 w : World} {V : Vt} {p b l m : Int} (h : CoAt w0 V p b l m w) : CoAt w0 V p b l m w.drew := ⟨below_drewN h.below 1, h.hb⟩

end Go.Proofs.YtgmgpefegmlnoaaDoor.Sk
