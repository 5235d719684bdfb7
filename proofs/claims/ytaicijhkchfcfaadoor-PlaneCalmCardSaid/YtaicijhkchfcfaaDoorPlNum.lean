/- The aeroplane, plainly: where it is a frame behind, what the air does brought within its bounds, what the sources say; that what is calm stays so, that down it stays down, that it rises by no more than 21, that what is said is no further off than what is wrong. Conditions: none but those that each row names. -/
import Derived.Test.YtaicijhkchfcfaaDoorNum
namespace Go.Proofs.YtaicijhkchfcfaaDoor.Pl
open Go.ChangeShapes Go.WideShapes Go.ChangeAt Go.RowKit Num

/-- An aeroplane: along, aside, its height, its drift, whether it is down, what it sank by then. -/
structure Pt where
  x : Int
  y : Int
  h : Int
  t : Int
  d : Bool
  s : Int
/-- What the air does: along, aside, up, around; what is wrong of each source, twelve in a row. -/
structure Gt where
  a : Int
  s : Int
  u : Int
  t : Int
  w : Nat → Int

/-- A number between two ends. -/
theorem wi_cases {n l h : Int} (c : l ≤ h) : (n < l ∧ within n l h = l) ∨ (l ≤ n ∧ n ≤ h ∧ within n l h = n) ∨ (h < n ∧ within n l h = h) := by
  by_cases a : n < l
  · exact .inl ⟨a, within_a (.inl a)⟩
  by_cases b : h < n
  · exact .inr (.inr ⟨b, within_b (by omega) b⟩)
  · exact .inr (.inl ⟨by omega, by omega, within_c (by omega) b⟩)
theorem wi_bd {n l h : Int} (c : l ≤ h) : l ≤ within n l h ∧ within n l h ≤ h := by
  rcases wi_cases (n := n) c with ⟨_, e⟩ | ⟨_, _, e⟩ | ⟨_, e⟩ <;> omega
theorem cl_cases {n m : Int} (c : 0 ≤ m) : (n < -m ∧ clamp n m = -m) ∨ (-m ≤ n ∧ n ≤ m ∧ clamp n m = n) ∨ (m < n ∧ clamp n m = m) := by
  rw [clamp_b (by omega)]
  exact wi_cases (by omega)
theorem cl_bd {n m : Int} (c : 0 ≤ m) : -m ≤ clamp n m ∧ clamp n m ≤ m := by
  rcases cl_cases (n := n) c with ⟨_, e⟩ | ⟨_, _, e⟩ | ⟨_, e⟩ <;> omega
theorem cl_same {n m : Int} (a : -m ≤ n) (b : n ≤ m) : clamp n m = n := by
  rcases cl_cases (n := n) (m := m) (by omega) with ⟨_, e⟩ | ⟨_, _, e⟩ | ⟨_, e⟩ <;> omega
theorem cl_twice (n : Int) {m : Int} (c : 0 ≤ m) : clamp (clamp n m) m = clamp n m := cl_same (cl_bd c).1 (cl_bd c).2
theorem cl_In {n m : Int} (c : 0 ≤ m) (d : m ≤ 500) : In (clamp n m) := by
  have := cl_bd (n := n) c
  exact ⟨by omega, by omega⟩
theorem sat_In (s : Int) : In (sat s) := by
  rcases sat_cases s with ⟨_, e⟩ | ⟨_, e⟩ | ⟨a, b, e⟩ <;> rw [e] <;> exact ⟨by omega, by omega⟩

/-- How far wrong a source of a signal is at most. -/
def mst (i : Nat) : Int := if i = 3 then 500 else 30
theorem mst_bd (i : Nat) : 30 ≤ mst i ∧ mst i ≤ 500 := by
  unfold mst
  split <;> omega
theorem mst_3 : mst 3 = 500 := rfl
theorem mst_not {i : Nat} (h : i ≠ 3) : mst i = 30 := if_neg h

/-- What the air does, brought within its bounds. -/
def cal (g : Gt) : Gt := ⟨clamp g.a 20, clamp g.s 2, clamp g.u 1, clamp g.t 50, fun j => clamp (g.w j) (mst (j / 3))⟩
theorem cal_twice (g : Gt) : cal (cal g) = cal g := by
  unfold cal
  simp only [Gt.mk.injEq]
  exact ⟨cl_twice _ (by decide), cl_twice _ (by decide), cl_twice _ (by decide), cl_twice _ (by decide), funext fun j => cl_twice _ (by have := mst_bd (j / 3); omega)⟩
theorem cal_bd (g : Gt) : (-20 ≤ (cal g).a ∧ (cal g).a ≤ 20) ∧ (-2 ≤ (cal g).s ∧ (cal g).s ≤ 2) ∧ (-1 ≤ (cal g).u ∧ (cal g).u ≤ 1) ∧ (-50 ≤ (cal g).t ∧ (cal g).t ≤ 50) :=
  ⟨cl_bd (by decide), cl_bd (by decide), cl_bd (by decide), cl_bd (by decide)⟩

/-- What an aeroplane is a frame behind: how much it sinks, its height, whether it is down, what it sank by. -/
def snk (c : Nat → Int) (g : Gt) : Int := sat (c 1 + (cal g).u)
def nh (p : Pt) (k : Int) : Int := if p.d = true then 0 else if sat (p.h - k) ≤ 0 then 0 else sat (p.h - k)
def nd (p : Pt) (k : Int) : Bool := p.d || decide (sat (p.h - k) ≤ 0)
def ns (p : Pt) (k : Int) : Int := if p.d = true then p.s else if sat (p.h - k) ≤ 0 then k else p.s
def nx (p : Pt) (c : Nat → Int) (g : Gt) : Pt :=
  ⟨sat (p.x - (360 + (cal g).a)), sat (p.y + sat (c 0 + (cal g).s)), nh p (snk c g), sat (p.t + sat (c 2 + (cal g).t)), nd p (snk c g), ns p (snk c g)⟩
theorem nh_dn {p : Pt} (k : Int) (e : p.d = true) : nh p k = 0 := if_pos e
theorem nd_dn {p : Pt} (k : Int) (e : p.d = true) : nd p k = true := by unfold nd; rw [e]; rfl
theorem ns_dn {p : Pt} (k : Int) (e : p.d = true) : ns p k = p.s := if_pos e
theorem nh_hit {p : Pt} {k : Int} (e : p.d = false) (h : sat (p.h - k) ≤ 0) : nh p k = 0 := by unfold nh; rw [e, if_neg (by decide), if_pos h]
theorem nd_hit {p : Pt} {k : Int} (h : sat (p.h - k) ≤ 0) : nd p k = true := by unfold nd; rw [decide_eq_true h, Bool.or_true]
theorem ns_hit {p : Pt} {k : Int} (e : p.d = false) (h : sat (p.h - k) ≤ 0) : ns p k = k := by unfold ns; rw [e, if_neg (by decide), if_pos h]
theorem nh_up {p : Pt} {k : Int} (e : p.d = false) (h : 0 < sat (p.h - k)) : nh p k = sat (p.h - k) := by unfold nh; rw [e, if_neg (by decide), if_neg (by omega)]
theorem nd_up {p : Pt} {k : Int} (e : p.d = false) (h : 0 < sat (p.h - k)) : nd p k = false := by unfold nd; rw [e, decide_eq_false (by omega)]; rfl
theorem ns_up {p : Pt} {k : Int} (e : p.d = false) (h : 0 < sat (p.h - k)) : ns p k = p.s := by unfold ns; rw [e, if_neg (by decide), if_neg (by omega)]
theorem nx_cal (p : Pt) (c : Nat → Int) (g : Gt) : nx p c (cal g) = nx p c g := by
  unfold nx snk
  rw [cal_twice]

/-- Down it stays down, at the height 0; what it sank by stays; down or above 0; with a Sink of -20 at least no more than 21 above where it was. -/
theorem nx_down {p : Pt} (c : Nat → Int) (g : Gt) (e : p.d = true) : (nx p c g).d = true ∧ (nx p c g).h = 0 ∧ (nx p c g).s = p.s := ⟨nd_dn _ e, nh_dn _ e, ns_dn _ e⟩
theorem nx_zero (p : Pt) (c : Nat → Int) (g : Gt) : ((nx p c g).d = true ∧ (nx p c g).h = 0) ∨ ((nx p c g).d = false ∧ 0 < (nx p c g).h ∧ (nx p c g).h ≤ 9223372036854775807) := by
  show (nd p (snk c g) = true ∧ nh p (snk c g) = 0) ∨ (nd p (snk c g) = false ∧ 0 < nh p (snk c g) ∧ nh p (snk c g) ≤ 9223372036854775807)
  cases e : p.d
  · by_cases h : sat (p.h - snk c g) ≤ 0
    · exact .inl ⟨nd_hit h, nh_hit e h⟩
    · have h' : 0 < sat (p.h - snk c g) := by omega
      rw [nh_up e h']
      exact .inr ⟨nd_up e h', h', (sat_In _).2⟩
  · exact .inl ⟨nd_dn _ e, nh_dn _ e⟩
theorem nx_rise {p : Pt} {c : Nat → Int} (g : Gt) (hc : -20 ≤ c 1) : (nx p c g).h - 21 ≤ max p.h 0 := by
  show nh p (snk c g) - 21 ≤ max p.h 0
  have hg := (cal_bd g).2.2.1
  have hk : -21 ≤ snk c g := by
    unfold snk
    rcases sat_cases (c 1 + (cal g).u) with ⟨_, k⟩ | ⟨_, k⟩ | ⟨_, _, k⟩ <;> omega
  cases e : p.d
  · by_cases h : sat (p.h - snk c g) ≤ 0
    · rw [nh_hit e h]; omega
    · rw [nh_up e (by omega)]
      rcases sat_cases (p.h - snk c g) with ⟨_, k⟩ | ⟨_, k⟩ | ⟨_, _, k⟩ <;> omega
  · rw [nh_dn _ e]; omega

/-- What each signal stands for; what a source says of it, brought within what a word holds. -/
def val (p : Pt) : Nat → Int
  | 0 => p.y
  | 1 => sat (p.h - p.x.tdiv 20)
  | 2 => p.h
  | _ => p.t
def say (p : Pt) (g : Gt) (lo hi : Int) (i k : Nat) : Int := within (sat (val p i + (cal g).w (3 * i + k))) lo hi
theorem cal_w (g : Gt) {i k : Nat} (hk : k < 3) : (cal g).w (3 * i + k) = clamp (g.w (3 * i + k)) (mst i) := by
  show clamp _ (mst ((3 * i + k) / 3)) = _
  rw [show (3 * i + k) / 3 = i by omega]
theorem say_cal (p : Pt) (g : Gt) (lo hi : Int) (i k : Nat) : say p (cal g) lo hi i k = say p g lo hi i k := by unfold say; rw [cal_twice]
theorem say_in {p : Pt} {g : Gt} {lo hi : Int} (i k : Nat) (h : lo ≤ hi) : lo ≤ say p g lo hi i k ∧ say p g lo hi i k ≤ hi := wi_bd h
theorem quo20 (x : Int) : (0 ≤ x → 0 ≤ x.tdiv 20 ∧ x.tdiv 20 ≤ x) ∧ (x ≤ 0 → x ≤ x.tdiv 20 ∧ x.tdiv 20 ≤ 0) := by
  constructor
  · intro h
    rw [Int.tdiv_eq_ediv_of_nonneg h]
    omega
  · intro h
    obtain ⟨y, rfl⟩ : ∃ y, x = -y := ⟨-x, by omega⟩
    rw [Int.neg_tdiv, Int.tdiv_eq_ediv_of_nonneg (by omega)]
    omega
/-- Where it fits it is no further off than what is wrong of it. -/
theorem say_near {p : Pt} {g : Gt} {lo hi : Int} {i k : Nat} (hk : k < 3) (hv : -4398046511104 ≤ val p i ∧ val p i ≤ 4398046511104) (a : lo ≤ val p i) (b : val p i ≤ hi) :
    say p g lo hi i k - val p i ≤ mst i ∧ val p i - say p g lo hi i k ≤ mst i := by
  have hm := mst_bd i
  have hc := cl_bd (n := g.w (3 * i + k)) (m := mst i) (by omega)
  unfold say
  rw [cal_w g hk, sat_in (by omega) (by omega)]
  rcases wi_cases (n := val p i + clamp (g.w (3 * i + k)) (mst i)) (show lo ≤ hi by omega) with ⟨_, e⟩ | ⟨_, _, e⟩ | ⟨_, e⟩ <;> rw [e] <;> omega

end Go.Proofs.YtaicijhkchfcfaaDoor.Pl
