/- Plain numbers of layer 13: a number of 32 bits one up, what is known of another lane's hearing; that two lanes come to hold the same. Conditions: none. (Written ahead of the code.) -/
import Derived.Test.YtnknjlhflgfccaaBase
namespace Go.Proofs.Ytnknjlhflgfccaa.LinkN

/-- All bits one up. -/
def up (x : Nat) : Nat := 2 * x % 4294967296
theorem up_zero (x : Nat) : (up x).testBit 0 = false := by
  unfold up
  rw [Nat.testBit_zero]
  have : 2 * x % 4294967296 % 2 = 0 := by omega
  simp [this]
theorem up_succ (x i : Nat) : (up x).testBit (i + 1) = (decide (i + 1 < 32) && x.testBit i) := by
  unfold up
  rw [show (4294967296 : Nat) = 2 ^ 32 from rfl, Nat.testBit_mod_two_pow, Nat.testBit_succ, Nat.mul_div_cancel_left _ (by omega)]
theorem up_lt (x : Nat) : up x < 4294967296 := by unfold up; omega
/-- The lowest eight bits, one up. -/
def tell (x : Nat) : Nat := 2 * (x % 256)
theorem tell_zero (x : Nat) : (tell x).testBit 0 = false := by
  unfold tell
  rw [Nat.testBit_zero]
  have : 2 * (x % 256) % 2 = 0 := by omega
  simp [this]
theorem tell_succ (x i : Nat) : (tell x).testBit (i + 1) = (decide (i < 8) && x.testBit i) := by
  unfold tell
  rw [Nat.testBit_succ, Nat.mul_div_cancel_left _ (by omega), show (256 : Nat) = 2 ^ 8 from rfl, Nat.testBit_mod_two_pow]

/-- One has no bit that the other has not; from place r on they are alike. -/
def Sub (p q : Nat) : Prop := ∀ i, p.testBit i = true → q.testBit i = true
def Agree (r p q : Nat) : Prop := ∀ i, r ≤ i → p.testBit i = q.testBit i

/-- A frame: h: heard, or not. -/
def on (x h : Nat) : Nat := up x ||| h
theorem on_zero (x h : Nat) : (on x h).testBit 0 = h.testBit 0 := by unfold on; rw [Nat.testBit_or, up_zero, Bool.false_or]
theorem bit_high {h : Nat} (hh : h ≤ 1) (i : Nat) : h.testBit (i + 1) = false := by
  rw [Nat.testBit_succ, show h / 2 = 0 by omega, Nat.zero_testBit]
theorem on_succ {h : Nat} (hh : h ≤ 1) (x i : Nat) : (on x h).testBit (i + 1) = (decide (i + 1 < 32) && x.testBit i) := by
  unfold on; rw [Nat.testBit_or, up_succ, bit_high hh, Bool.or_false]

theorem lost_sub {p q h : Nat} (hh : h ≤ 1) (s : Sub p q) : Sub (up p) (on q h) := by
  intro i hi
  cases i with
  | zero => rw [up_zero] at hi; cases hi
  | succ i =>
    rw [up_succ] at hi
    rw [on_succ hh]
    simp only [Bool.and_eq_true] at hi ⊢
    exact ⟨hi.1, s i hi.2⟩
theorem lost_agree {p q h r : Nat} (hh : h ≤ 1) (a : Agree (r + 1) p q) : Agree (r + 1 + 1) (up p) (on q h) := by
  intro i hi
  cases i with
  | zero => omega
  | succ i => rw [up_succ, on_succ hh, a i (by omega)]
theorem come_sub {p q h : Nat} (hh : h ≤ 1) (s : Sub p q) : Sub (up p ||| tell q) (on q h) := by
  intro i hi
  rw [Nat.testBit_or] at hi
  cases i with
  | zero => rw [up_zero, tell_zero] at hi; cases hi
  | succ i =>
    rw [up_succ, tell_succ] at hi
    rw [on_succ hh]
    simp only [Bool.or_eq_true, Bool.and_eq_true, decide_eq_true_eq] at hi ⊢
    rcases hi with hi | hi
    · exact ⟨hi.1, s i hi.2⟩
    · exact ⟨by omega, hi.2⟩
theorem come_agree {p q h r : Nat} (hh : h ≤ 1) (hr : r ≤ 7) (s : Sub p q) (a : Agree (r + 1) p q) : Agree 1 (up p ||| tell q) (on q h) := by
  intro i hi
  cases i with
  | zero => omega
  | succ i =>
    rw [Nat.testBit_or, up_succ, tell_succ, on_succ hh]
    by_cases h8 : i < 8
    · have h32 : i + 1 < 32 := by omega
      simp only [h8, h32, decide_true, Bool.true_and]
      cases hp : p.testBit i
      · rw [Bool.false_or]
      · rw [Bool.true_or, s i hp]
    · rw [a i (by omega)]
      simp [h8]

/-- What two lanes hold of a third one's being heard is alike. -/
theorem alike {u u' v v' : Nat} {r s : Nat} (hr : r ≤ 3) (hs : s ≤ 3) (a : Agree (r + 1) v' v) (b : Agree (s + 1) u' u) (i : Nat) (hi : 4 ≤ i) : (u ||| v').testBit i = (v ||| u').testBit i := by
  rw [Nat.testBit_or, Nat.testBit_or, a i (by omega), b i (by omega), Bool.or_comm]
theorem alike8 {u u' v v' : Nat} {r s : Nat} (hr : r ≤ 3) (hs : s ≤ 3) (a : Agree (r + 1) v' v) (b : Agree (s + 1) u' u) : (u ||| v') / 16 % 256 = (v ||| u') / 16 % 256 := by
  refine Nat.eq_of_testBit_eq fun i => ?_
  rw [show (256 : Nat) = 2 ^ 8 from rfl, show (16 : Nat) = 2 ^ 4 from rfl, Nat.testBit_mod_two_pow, Nat.testBit_mod_two_pow, Nat.testBit_div_two_pow, Nat.testBit_div_two_pow, alike hr hs a b _ (by omega)]

/-- r were lost, one behind the other, at last; of any four one behind the other one was heard. -/
structure Win (s r : Nat) : Prop where
  few : r ≤ 3
  last : s.testBit r = true
  four : ∀ p, p ≤ 28 → ∃ q, p ≤ q ∧ q ≤ p + 3 ∧ s.testBit q = true
theorem win_all : Win 4294967295 0 := by
  refine ⟨by omega, by decide, fun p hp => ⟨p, Nat.le_refl _, by omega, ?_⟩⟩
  rw [show (4294967295 : Nat) = 2 ^ 32 - 1 from rfl, Nat.testBit_two_pow_sub_one]
  simp; omega
theorem win_lost {s r : Nat} (h : Win s r) (hr : r ≤ 2) : Win (on s 0) (r + 1) := by
  refine ⟨by omega, ?_, fun p hp => ?_⟩
  · rw [on_succ (by omega), h.last]; simp; omega
  · cases p with
    | zero => exact ⟨r + 1, by omega, by omega, by rw [on_succ (by omega), h.last]; simp; omega⟩
    | succ p =>
      obtain ⟨q, h1, h2, h3⟩ := h.four p (by omega)
      exact ⟨q + 1, by omega, by omega, by rw [on_succ (by omega), h3]; simp; omega⟩
theorem win_come {s r : Nat} (h : Win s r) : Win (on s 1) 0 := by
  refine ⟨by omega, by rw [on_zero]; rfl, fun p hp => ?_⟩
  cases p with
  | zero => exact ⟨0, Nat.le_refl _, by omega, by rw [on_zero]; rfl⟩
  | succ p =>
    obtain ⟨q, h1, h2, h3⟩ := h.four p (by omega)
    exact ⟨q + 1, by omega, by omega, by rw [on_succ (by omega), h3]; simp; omega⟩
theorem win_alive {s r : Nat} (h : Win s r) : s / 16 % 256 ≠ 0 := by
  obtain ⟨q, h1, h2, h3⟩ := h.four 4 (by omega)
  intro e
  have g : (s / 16 % 256).testBit (q - 4) = true := by
    rw [show (256 : Nat) = 2 ^ 8 from rfl, show (16 : Nat) = 2 ^ 4 from rfl, Nat.testBit_mod_two_pow, Nat.testBit_div_two_pow, show q - 4 + 4 = q by omega, h3]
    simp; omega
  rw [e, Nat.zero_testBit] at g
  cases g

/-- What is known between two lanes behind a frame: own rows of the third lane and of each other, what is held of the other's row; how many were lost, one behind the other. -/
structure Pair (u u' v v' s t ba ab : Nat) : Prop where
  sv : Sub v' v
  av : Agree (ba + 1) v' v
  su : Sub u' u
  au : Agree (ab + 1) u' u
  wa : Win s ba
  wb : Win t ab
theorem pair_new (x : Nat) : Pair x x x x 4294967295 4294967295 0 0 :=
  ⟨fun _ h => h, fun _ _ => rfl, fun _ h => h, fun _ _ => rfl, win_all, win_all⟩
/-- a hears b (ba): s a's row of b, v' what a holds of b's row of c; b hears a (ab): t, u'. -/
theorem pair_lost_lost {u u' v v' s t ba ab h k : Nat} (hh : h ≤ 1) (hk : k ≤ 1) (P : Pair u u' v v' s t ba ab) (hb : ba ≤ 2) (ha : ab ≤ 2) : Pair (on u h) (up u') (on v k) (up v') (on s 0) (on t 0) (ba + 1) (ab + 1) :=
  ⟨lost_sub hk P.sv, lost_agree hk P.av, lost_sub hh P.su, lost_agree hh P.au, win_lost P.wa hb, win_lost P.wb ha⟩
theorem pair_come_lost {u u' v v' s t ba ab h k : Nat} (hh : h ≤ 1) (hk : k ≤ 1) (P : Pair u u' v v' s t ba ab) (ha : ab ≤ 2) : Pair (on u h) (up u') (on v k) (up v' ||| tell v) (on s 1) (on t 0) 0 (ab + 1) :=
  ⟨come_sub hk P.sv, come_agree hk (by have := P.wa.few; omega) P.sv P.av, lost_sub hh P.su, lost_agree hh P.au, win_come P.wa, win_lost P.wb ha⟩
theorem pair_lost_come {u u' v v' s t ba ab h k : Nat} (hh : h ≤ 1) (hk : k ≤ 1) (P : Pair u u' v v' s t ba ab) (hb : ba ≤ 2) : Pair (on u h) (up u' ||| tell u) (on v k) (up v') (on s 0) (on t 1) (ba + 1) 0 :=
  ⟨lost_sub hk P.sv, lost_agree hk P.av, come_sub hh P.su, come_agree hh (by have := P.wb.few; omega) P.su P.au, win_lost P.wa hb, win_come P.wb⟩
theorem pair_come_come {u u' v v' s t ba ab h k : Nat} (hh : h ≤ 1) (hk : k ≤ 1) (P : Pair u u' v v' s t ba ab) : Pair (on u h) (up u' ||| tell u) (on v k) (up v' ||| tell v) (on s 1) (on t 1) 0 0 :=
  ⟨come_sub hk P.sv, come_agree hk (by have := P.wa.few; omega) P.sv P.av, come_sub hh P.su, come_agree hh (by have := P.wb.few; omega) P.su P.au, win_come P.wa, win_come P.wb⟩
/-- Both hold the same of the third one, and each other for alive. -/
theorem pair_alike {u u' v v' s t ba ab : Nat} (P : Pair u u' v v' s t ba ab) : (u ||| v') / 16 % 256 = (v ||| u') / 16 % 256 ∧ s / 16 % 256 ≠ 0 ∧ t / 16 % 256 ≠ 0 :=
  ⟨alike8 P.wa.few P.wb.few P.av P.au, win_alive P.wa, win_alive P.wb⟩

end Go.Proofs.Ytnknjlhflgfccaa.LinkN
