/- What goes to the surfaces, plainly: a command's three numbers, brought within what may be, moved from one to the next; that what comes may be, goes by so much at most, and gets there. Conditions: none but those that each row names. -/
import Derived.Test.YtgmgpefegmlnoaaDoorNum
namespace Go.Proofs.YtgmgpefegmlnoaaDoor.Out
open Go.ChangeShapes Go.WideShapes Go.ChangeAt Go.RowKit Num

/-- The ends of a command's numbers (Side, Sink, Turn), and by how much each goes at most. -/
def lo : Nat → Int
  | 0 => -20
  | 1 => -20
  | _ => -500
def hi : Nat → Int
  | 0 => 20
  | 1 => 24
  | _ => 500
def st : Nat → Int
  | 0 => 40
  | 1 => 14
  | _ => 1000
theorem lo_hi (i : Nat) : lo i ≤ hi i ∧ -500 ≤ lo i ∧ hi i ≤ 500 ∧ 14 ≤ st i ∧ st i ≤ 1000 ∧ hi i - lo i ≤ 6 * st i := by
  match i with
  | 0 => decide
  | 1 => decide
  | n + 2 => exact (by decide : (-500 : Int) ≤ 500 ∧ (-500 : Int) ≤ -500 ∧ (500 : Int) ≤ 500 ∧ (14 : Int) ≤ 1000 ∧ (1000 : Int) ≤ 1000 ∧ (500 : Int) - -500 ≤ 6 * 1000)

/-- A number between two ends. -/
theorem wi_cases {n l h : Int} (c : l ≤ h) : (n < l ∧ within n l h = l) ∨ (l ≤ n ∧ n ≤ h ∧ within n l h = n) ∨ (h < n ∧ within n l h = h) := by
  by_cases a : n < l
  · exact .inl ⟨a, within_a (.inl a)⟩
  by_cases b : h < n
  · exact .inr (.inr ⟨b, within_b (by omega) b⟩)
  · exact .inr (.inl ⟨by omega, by omega, within_c (by omega) b⟩)
theorem wi_bd {n l h : Int} (c : l ≤ h) : l ≤ within n l h ∧ within n l h ≤ h := by
  rcases wi_cases (n := n) c with ⟨_, e⟩ | ⟨_, _, e⟩ | ⟨_, e⟩ <;> omega
theorem wi_same {n l h : Int} (a : l ≤ n) (b : n ≤ h) : within n l h = n := within_c (by omega) (by omega)
theorem clamp_wi {n m : Int} (h : 0 ≤ m) : clamp n m = within n (-m) m := clamp_b (by omega)

/-- One step towards another number. -/
theorem near_cases {f t s : Int} (hs : 0 ≤ s) : (f + s < t ∧ near f t s = f + s) ∨ (t < f - s ∧ near f t s = f - s) ∨ (t ≤ f + s ∧ f - s ≤ t ∧ near f t s = t) := by
  by_cases c : f < t
  · rw [near_b (by omega) c, Int.min_def]
    split <;> omega
  · rw [near_c (by omega) c, Int.max_def]
    split <;> omega
theorem near_self {f s : Int} (hs : 0 ≤ s) : near f f s = f := by
  rcases near_cases (f := f) (t := f) hs with ⟨_, e⟩ | ⟨_, e⟩ | ⟨_, _, e⟩ <;> omega

/-- A command's numbers, brought within; from one command towards another. -/
def br (c : Nat → Int) (i : Nat) : Int := within (c i) (lo i) (hi i)
def lim (a b : Nat → Int) (i : Nat) : Int := near (br a i) (br b i) (st i)
def may (c : Nat → Int) : Prop := ∀ i, i < 3 → lo i ≤ c i ∧ c i ≤ hi i
def mayB (c : Nat → Int) : Bool := decide (-20 ≤ c 0 ∧ c 0 ≤ 20 ∧ -20 ≤ c 1 ∧ c 1 ≤ 24 ∧ -500 ≤ c 2 ∧ c 2 ≤ 500)
theorem may_is (c : Nat → Int) : mayB c = true ↔ may c := by
  unfold mayB may
  rw [decide_eq_true_iff]
  constructor
  · rintro ⟨a, b, d, e, f, g⟩ i hi'
    match i, hi' with
    | 0, _ => exact ⟨a, b⟩
    | 1, _ => exact ⟨d, e⟩
    | 2, _ => exact ⟨f, g⟩
  · intro h
    exact ⟨(h 0 (by decide)).1, (h 0 (by decide)).2, (h 1 (by decide)).1, (h 1 (by decide)).2, (h 2 (by decide)).1, (h 2 (by decide)).2⟩
theorem br_bd (c : Nat → Int) (i : Nat) : lo i ≤ br c i ∧ br c i ≤ hi i := wi_bd (lo_hi i).1
theorem br_same {c : Nat → Int} {i : Nat} (h : lo i ≤ c i ∧ c i ≤ hi i) : br c i = c i := wi_same h.1 h.2
/-- What may be is what stays when it is brought within. -/
theorem may_same (c : Nat → Int) : mayB c = true ↔ (c 0 = br c 0 ∧ c 1 = br c 1 ∧ c 2 = br c 2) := by
  rw [may_is]
  constructor
  · intro h
    exact ⟨(br_same (h 0 (by decide))).symm, (br_same (h 1 (by decide))).symm, (br_same (h 2 (by decide))).symm⟩
  · rintro ⟨a, b, d⟩ i hi'
    match i, hi' with
    | 0, _ => rw [a]; exact br_bd c 0
    | 1, _ => rw [b]; exact br_bd c 1
    | 2, _ => rw [d]; exact br_bd c 2
/-- P25.2: what comes may be. -/
theorem lim_bd (a b : Nat → Int) (i : Nat) : lo i ≤ lim a b i ∧ lim a b i ≤ hi i := by
  have h := lo_hi i
  have x := br_bd a i
  have y := br_bd b i
  unfold lim
  rcases near_cases (f := br a i) (t := br b i) (s := st i) (by omega) with ⟨_, e⟩ | ⟨_, e⟩ | ⟨_, _, e⟩ <;> omega
theorem lim_may (a b : Nat → Int) : mayB (lim a b) = true := (may_is _).2 fun i _ => lim_bd a b i
theorem lim_self (a : Nat → Int) (i : Nat) : lim a a i = br a i := near_self (by have := lo_hi i; omega)
theorem br_lim (a b : Nat → Int) (i : Nat) : br (lim a b) i = lim a b i := br_same (lim_bd a b i)
/-- P25.1: it goes by so much at most. -/
theorem lim_by (a b : Nat → Int) (i : Nat) : br a i - st i ≤ lim a b i ∧ lim a b i ≤ br a i + st i := by
  have h := lo_hi i
  unfold lim
  rcases near_cases (f := br a i) (t := br b i) (s := st i) (by omega) with ⟨_, e⟩ | ⟨_, e⟩ | ⟨_, _, e⟩ <;> omega
/-- Asked again and again it gets there: after k of them it is nearer by k of what it goes by. -/
def far (k : Nat) (b c : Nat → Int) : Prop := ∀ i, i < 3 → lo i ≤ c i ∧ c i ≤ hi i ∧ (c i = br b i ∨ (c i < br b i ∧ br b i - c i ≤ (6 - (k : Int)) * st i) ∨ (br b i < c i ∧ c i - br b i ≤ (6 - (k : Int)) * st i))
theorem far_may {k : Nat} {b c : Nat → Int} (h : far k b c) : may c := fun i hi' => ⟨(h i hi').1, (h i hi').2.1⟩
theorem far_start (b : Nat → Int) {c : Nat → Int} (h : may c) : far 0 b c := fun i hi' => by
  have l := lo_hi i
  have x := br_bd b i
  have y := h i hi'
  refine ⟨y.1, y.2, ?_⟩
  have e : (6 - ((0 : Nat) : Int)) * st i = 6 * st i := rfl
  rw [e]
  omega
theorem far_next {k : Nat} {b c : Nat → Int} (h : far k b c) : far (k + 1) b (lim c b) := fun i hi' => by
  obtain ⟨c0, c1, hc⟩ := h i hi'
  have l := lo_hi i
  have x := br_bd b i
  have y := lim_bd c b i
  refine ⟨y.1, y.2, ?_⟩
  unfold lim
  rw [br_same ⟨c0, c1⟩]
  have e : (6 - (((k + 1 : Nat)) : Int)) * st i = (6 - (k : Int)) * st i - st i := by
    rw [Int.natCast_add, show (6 : Int) - ((k : Int) + ((1 : Nat) : Int)) = (6 - (k : Int)) - 1 by omega, Int.sub_mul, Int.one_mul]
  rw [e]
  generalize (6 - (k : Int)) * st i = z at *
  rcases near_cases (f := c i) (t := br b i) (s := st i) (by omega) with ⟨_, e⟩ | ⟨_, e⟩ | ⟨_, _, e⟩ <;> omega
theorem far_end {b c : Nat → Int} (h : far 6 b c) : ∀ i, i < 3 → c i = br b i := fun i hi' => by
  obtain ⟨_, _, hc⟩ := h i hi'
  have e : (6 - ((6 : Nat) : Int)) * st i = 0 := by show (6 - (6 : Int)) * st i = 0; rw [show (6 : Int) - 6 = 0 by decide, Int.zero_mul]
  rw [e] at hc
  omega

end Go.Proofs.YtgmgpefegmlnoaaDoor.Out
