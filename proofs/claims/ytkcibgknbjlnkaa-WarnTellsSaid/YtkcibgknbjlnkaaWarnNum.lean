/- What the crew sees, as plain functions: the least of a list of warnings, those that hold of a frame, their words. Conditions: none. -/
import Derived.Test.YtkcibgknbjlnkaaModeNum
namespace Go.Proofs.Ytkcibgknbjlnkaa.Wr
open Go.ChangeShapes Go.WideShapes Go.ChangeAt Go.RowKit Num Mem Md

/-- A capability; what is shown. -/
structure Cp where
  l : Int
  f : Bool
  m : Int
structure Sh where
  m : Int
  l : Int
  t : Bool
  w : Int
abbrev zSh : Sh := ⟨0, 0, false, 0⟩

/-- The least of the first n that is a warning, none if none is. -/
def inW (x : Int) : Bool := decide (1 ≤ x) && decide (x ≤ 4)
def pk (g x : Int) : Int := if inW x && (g == 0 || decide (x < g)) then x else g
def grv (K : Nat → Int) : Nat → Int
  | 0 => 0
  | n + 1 => pk (grv K n) (K n)
theorem inW_yes {x : Int} (h : 1 ≤ x) (g : x ≤ 4) : inW x = true := by unfold inW; simp [h, g]
theorem inW_of {x : Int} (h : inW x = true) : 1 ≤ x ∧ x ≤ 4 := by unfold inW at h; simpa using h
theorem pk_yes {g x : Int} (h : inW x = true) (k : g = 0 ∨ x < g) : pk g x = x := by
  unfold pk
  rw [h, if_pos]
  simpa using k
theorem pk_no {g x : Int} (h : inW x = true) (k : g ≠ 0) (l : ¬ x < g) : pk g x = g := by
  unfold pk
  rw [h, if_neg]
  simp [k]
  omega
theorem pk_out {g x : Int} (h : inW x = false) : pk g x = g := by unfold pk; rw [h]; rfl
theorem pk_ways (g x : Int) : (pk g x = x ∧ inW x = true ∧ (g = 0 ∨ x < g)) ∨ (pk g x = g ∧ (inW x = true → g ≠ 0 ∧ g ≤ x)) := by
  by_cases h : inW x = true
  · by_cases k : g = 0 ∨ x < g
    · exact Or.inl ⟨pk_yes h k, h, k⟩
    · exact Or.inr ⟨pk_no h (fun e => k (Or.inl e)) (fun e => k (Or.inr e)), fun _ => ⟨fun e => k (Or.inl e), by omega⟩⟩
  · have h' : inW x = false := by simpa using h
    exact Or.inr ⟨pk_out h', fun e => absurd e h⟩
theorem grv_in (K : Nat → Int) (n : Nat) : grv K n = 0 ∨ (1 ≤ grv K n ∧ grv K n ≤ 4 ∧ ∃ i, i < n ∧ K i = grv K n) := by
  induction n with
  | zero => exact Or.inl rfl
  | succ n ih =>
    show pk (grv K n) (K n) = 0 ∨ (1 ≤ pk (grv K n) (K n) ∧ pk (grv K n) (K n) ≤ 4 ∧ ∃ i, i < n + 1 ∧ K i = pk (grv K n) (K n))
    rcases pk_ways (grv K n) (K n) with ⟨e, h, _⟩ | ⟨e, _⟩
    · rw [e]
      exact Or.inr ⟨(inW_of h).1, (inW_of h).2, n, by omega, rfl⟩
    · rw [e]
      rcases ih with h | ⟨h1, h2, i, hi, hk⟩
      · exact Or.inl h
      · exact Or.inr ⟨h1, h2, i, by omega, hk⟩
theorem grv_bd (K : Nat → Int) (n : Nat) : 0 ≤ grv K n ∧ grv K n ≤ 4 := by
  rcases grv_in K n with h | ⟨h1, h2, _⟩ <;> omega
theorem grv_le {K : Nat → Int} {n i : Nat} (hi : i < n) (h : 1 ≤ K i) (g : K i ≤ 4) : 1 ≤ grv K n ∧ grv K n ≤ K i := by
  induction n with
  | zero => omega
  | succ n ih =>
    show 1 ≤ pk (grv K n) (K n) ∧ pk (grv K n) (K n) ≤ K i
    rcases pk_ways (grv K n) (K n) with ⟨e, hw, hk⟩ | ⟨e, hn⟩
    · rw [e]
      have hw' := inW_of hw
      refine ⟨hw'.1, ?_⟩
      by_cases ei : i = n
      · subst ei; omega
      · have := ih (by omega)
        rcases hk with hk | hk <;> omega
    · rw [e]
      by_cases ei : i = n
      · subst ei
        have := hn (inW_yes h g)
        have := grv_bd K i
        omega
      · exact ih (by omega)
/-- The document's search: the first number of 1 to 4 that is one of them. -/
def Past (K : Nat → Int) (n : Nat) (v : Int) : Prop := grv K n = 0 ∨ v ≤ grv K n
theorem past_one (K : Nat → Int) (n : Nat) : Past K n 1 := by
  rcases grv_in K n with h | ⟨h1, _⟩
  · exact Or.inl h
  · exact Or.inr h1
theorem past_hit {K : Nat → Int} {n i : Nat} {v : Int} (hp : Past K n v) (hi : i < n) (hv : K i = v) (h : 1 ≤ v) (g : v ≤ 4) : grv K n = v := by
  have := grv_le hi (by omega) (by omega : K i ≤ 4)
  rcases hp with hp | hp <;> omega
theorem past_next {K : Nat → Int} {n : Nat} {v : Int} (hp : Past K n v) (hn : ∀ i, i < n → K i ≠ v) : Past K n (v + 1) := by
  rcases grv_in K n with h | ⟨_, _, i, hi, hk⟩
  · exact Or.inl h
  · have := hn i hi
    rcases hp with hp | hp
    · exact Or.inl hp
    · exact Or.inr (by omega)
theorem past_end {K : Nat → Int} {n : Nat} (hp : Past K n 5) : grv K n = 0 := by
  have := grv_bd K n
  rcases hp with hp | hp <;> omega
theorem grv_as {K M : Nat → Int} {n : Nat} (e : ∀ i, i < n → K i = M i) : grv K n = grv M n := by
  induction n with
  | zero => rfl
  | succ n ih =>
    show pk (grv K n) (K n) = pk (grv M n) (M n)
    rw [ih fun i hi => e i (by omega), e n (by omega)]

/-- What holds of a frame, as a list. -/
def push (l : List Int) (v : Int) (q : Bool) : List Int := if q then l ++ [v] else l
theorem push_len (l : List Int) (v : Int) (q : Bool) : (push l v q).length ≤ l.length + 1 := by unfold push; split <;> simp
def lsF (l : List Int) (i : Nat) : Int := l.getD i 0
abbrev gat (a b c d : Bool) : List Int := push (push (push (push [] 1 a) 2 b) 3 c) 4 d
def wnB (a b c d : Bool) : Int := if a then 1 else if b then 2 else if c then 3 else if d then 4 else 0
theorem gat_len : ∀ a b c d, (gat a b c d).length ≤ 4 := by decide
theorem gat_grv : ∀ a b c d, grv (lsF (gat a b c d)) (gat a b c d).length = wnB a b c d := by decide +kernel

def wrn (a b : Int) (c : Cp) (wide : Bool) : List Int := gat (engB a && (b == 0)) (apprB b && (c.l == 0)) (apprB b && wide) (apprB b && decide (c.l < c.m))
def wnW (a b : Int) (c : Cp) (wide : Bool) : Int := wnB (engB a && (b == 0)) (apprB b && (c.l == 0)) (apprB b && wide) (apprB b && decide (c.l < c.m))
theorem wrn_len (a b : Int) (c : Cp) (wide : Bool) : (wrn a b c wide).length ≤ 4 := gat_len _ _ _ _
theorem wrn_grv (a b : Int) (c : Cp) (wide : Bool) : grv (lsF (wrn a b c wide)) (wrn a b c wide).length = wnW a b c wide := gat_grv _ _ _ _
abbrev shw (n : St) (c : Cp) (v : Int) : Sh := ⟨n.m, c.l, n.t, v⟩

/-- Where it lands, the level is as great as it may be, above none. -/
theorem appr_off {m : Int} (h : apprB m = true) : (m == 0) = false := by
  unfold apprB at h
  simp at h
  simp
  omega
theorem calm_yes {a b L : Int} (f : Bool) (wide : Bool) (h : apprB b = true) (hL : L ≠ 0) : wnW a b ⟨L, f, L⟩ wide = if wide then 3 else 0 := by
  have hL' : (L == 0) = false := by simpa using hL
  unfold wnW wnB
  rw [appr_off h, h]
  simp [hL']
theorem calm_no {a b L : Int} (f : Bool) (wide : Bool) (h : apprB b = false) : wnW a b ⟨L, f, L⟩ wide = if engB a && (b == 0) then 1 else 0 := by
  unfold wnW wnB
  rw [h]
  simp

/-- The words. -/
def txt (w : Int) : ByteArray := if w = 0 then ⟨#[110, 111, 110, 101]⟩ else if w = 1 then ⟨#[111, 102, 102]⟩ else if w = 2 then ⟨#[108, 97, 110, 100]⟩ else if w = 3 then ⟨#[119, 105, 100, 101]⟩ else if w = 4 then ⟨#[108, 101, 118, 101, 108]⟩ else ⟨#[]⟩
theorem w_ways {w : Int} (h : 0 ≤ w) : w = 0 ∨ w = 1 ∨ w = 2 ∨ w = 3 ∨ w = 4 ∨ 5 ≤ w := by omega
theorem txt_out {w : Int} (h : 5 ≤ w) : txt w = ⟨#[]⟩ := by
  unfold txt
  rw [if_neg (by omega), if_neg (by omega), if_neg (by omega), if_neg (by omega), if_neg (by omega)]

end Go.Proofs.Ytkcibgknbjlnkaa.Wr
