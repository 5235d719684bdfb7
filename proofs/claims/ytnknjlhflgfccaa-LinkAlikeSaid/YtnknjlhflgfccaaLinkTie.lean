/- Plain numbers of layer 13: what a lane knows behind a frame, place by place; is a lane alive, by the bits of two numbers. Conditions: the numbers are from 0 to 2^32 - 1. -/
import Derived.Test.YtnknjlhflgfccaaLinkAlive
import Derived.Test.YtnknjlhflgfccaaLinkNum
import Derived.Laws.BitsLemmas
import Derived.Laws.Closers25b
namespace Go.Proofs.Ytnknjlhflgfccaa.Link
open Go.ChangeShapes Go.WideShapes Go.ChangeAt Go.RowKit Num By Msg

theorem u32_wraps (n : Int) (h0 : 0 ≤ n) (h1 : n < 2 ^ 32) : IntKind.u32.wrap n = n := by
  have e : IntKind.u32.wrap n = n % 4294967296 := rfl
  rw [e]; omega
theorem orI_nat (a b : Nat) (ha : a < 4294967296) (hb : b < 4294967296) : orI (a : Int) (b : Int) = ((a ||| b : Nat) : Int) :=
  (bits_nat .u32 32 (by decide) u32_wraps a b (by omega) (by omega)).2
theorem and_nat (a b : Nat) (ha : a < 4294967296) (hb : b < 4294967296) : bits .and .u32 (a : Int) (b : Int) = ((a &&& b : Nat) : Int) :=
  (bits_nat .u32 32 (by decide) u32_wraps a b (by omega) (by omega)).1
theorem up_nat (a : Nat) : up (a : Int) = ((LinkN.up a : Nat) : Int) := by unfold up LinkN.up; omega
theorem or_lt {a b : Nat} (ha : a < 4294967296) (hb : b < 4294967296) : a ||| b < 4294967296 := Nat.or_lt_two_pow (n := 32) ha hb
/-- What is known is numbers of 32 bits. -/
def Rng (x : Int) : Prop := 0 ≤ x ∧ x < 4294967296
def AllR (l : Lk) : Prop := ∀ a b, Rng (l.h a b)
theorem orI_rng (a b : Int) : Rng (orI a b) := ⟨bits_lo_u32 .or a b, by have := bits_hi_u32 .or a b; show bits .or .u32 a b < _; omega⟩
theorem up_rng (x : Int) : Rng (up x) := by unfold Rng up; omega
theorem new_rng (o : Nat) : AllR (newL o) := fun _ _ => by unfold Rng newL; simp only; omega
theorem go_rng (l : Lk) : AllR (goL l) := fun _ _ => up_rng _
theorem hear_rng {l : Lk} (m : Ms) (f n : Nat) (h : AllR l) : AllR (mixH l m f n) := fun a b => by
  unfold mixH
  simp only
  split
  · exact orI_rng _ _
  · split
    · exact orI_rng _ _
    · exact h a b
theorem on_rng {l : Lk} (m : Ms) (h : AllR l) : AllR (onL l m) := by
  unfold onL
  split
  · exact hear_rng _ _ _ h
  · exact h
theorem toN {x : Int} (h : Rng x) : ((x.toNat : Nat) : Int) = x := by have := h.1; omega
theorem toN_lt {x : Int} (h : Rng x) : x.toNat < 4294967296 := by have := h.1; have := h.2; omega
theorem up_toN {x : Int} (h : Rng x) : (up x).toNat = LinkN.up x.toNat := by
  have := up_nat x.toNat
  rw [toN h] at this
  omega
theorem orI_toN {x y : Int} (h : Rng x) (g : Rng y) : (orI x y).toNat = x.toNat ||| y.toNat := by
  have := orI_nat x.toNat y.toNat (toN_lt h) (toN_lt g)
  rw [toN h, toN g] at this
  omega

/-- Behind a frame; of the first n lanes those whose messages come. -/
def rL (l : Lk) (M : Nat → Ms) (rx : Nat → Bool) : Nat → Lk
  | 0 => goL l
  | j + 1 => if rx j then onL (rL l M rx j) (M j) else rL l M rx j
theorem on_fr (l : Lk) (m : Ms) : (onL l m).fr = l.fr := by unfold onL hearL mixH; split <;> rfl
theorem rL_own (l : Lk) (M : Nat → Ms) (rx : Nat → Bool) (n : Nat) : (rL l M rx n).own = l.own := by
  induction n with
  | zero => rfl
  | succ n ih => unfold rL; split <;> simp [onL_own, ih]
theorem rL_fr (l : Lk) (M : Nat → Ms) (rx : Nat → Bool) (n : Nat) : (rL l M rx n).fr = (l.fr + 1) % 4294967296 := by
  induction n with
  | zero => rfl
  | succ n ih => unfold rL; split <;> simp [on_fr, ih]
theorem rL_rng (l : Lk) (M : Nat → Ms) (rx : Nat → Bool) (n : Nat) : AllR (rL l M rx n) := by
  induction n with
  | zero => exact go_rng l
  | succ n ih =>
    unfold rL
    split
    · exact on_rng _ ih
    · exact ih
/-- What comes is other lanes', of this frame. -/
def Fits (l : Lk) (M : Nat → Ms) (rx : Nat → Bool) : Prop := ∀ j, j < 3 → rx j = true → j ≠ l.own ∧ (M j).lane = (j : Int) ∧ (M j).frame = (l.fr + 1) % 4294967296
theorem rL_isP {l : Lk} {M : Nat → Ms} {rx : Nat → Bool} (h : Fits l M rx) {j : Nat} (hj : j < 3) (hr : rx j = true) (n : Nat) : isP (rL l M rx n) (M j) = true := by
  obtain ⟨h1, h2, h3⟩ := h j hj hr
  unfold isP
  rw [h2, h3, rL_fr, rL_own]
  simp
  omega
theorem hearL_h {l : Lk} {m : Ms} {f : Nat} (hf : m.lane = (f : Int)) (a b : Nat) : (hearL l m).h a b = if a = l.own ∧ b = f then orI (l.h a b) 1 else if a = f ∧ b ≠ f ∧ b < 3 then orI (l.h a b) (tl m b * 2) else l.h a b := by
  have e : m.lane.toNat = f := by omega
  unfold hearL
  rw [e]
  rfl
theorem rL_mine {l : Lk} {M : Nat → Ms} {rx : Nat → Bool} (h : Fits l M rx) (j n : Nat) (hn : n ≤ 3) :
    (rL l M rx n).h l.own j = if j < n ∧ rx j = true then orI (up (l.h l.own j)) 1 else up (l.h l.own j) := by
  induction n with
  | zero => rw [if_neg (by omega)]; rfl
  | succ n ih =>
    have ih := ih (by omega)
    unfold rL
    by_cases hr : rx n = true
    · rw [if_pos hr]
      have hp := rL_isP h (j := n) (by omega) hr n
      obtain ⟨g1, g2, _⟩ := h n (by omega) hr
      unfold onL
      rw [if_pos hp, hearL_h g2, rL_own, ih]
      by_cases e : j = n
      · subst e
        rw [if_pos ⟨rfl, rfl⟩, if_neg (by omega), if_pos ⟨by omega, hr⟩]
      · rw [if_neg (by omega), if_neg (by omega)]
        by_cases e2 : j < n ∧ rx j = true
        · rw [if_pos e2, if_pos ⟨by omega, e2.2⟩]
        · rw [if_neg e2, if_neg (fun q => e2 ⟨by omega, q.2⟩)]
    · rw [if_neg hr, ih]
      by_cases e2 : j < n ∧ rx j = true
      · rw [if_pos e2, if_pos ⟨by omega, e2.2⟩]
      · rw [if_neg e2, if_neg (fun q => e2 ⟨by
          rcases Nat.lt_or_ge j n with q1 | q1
          · exact q1
          · obtain rfl : j = n := by omega
            exact absurd q.2 hr, q.2⟩)]
theorem rL_told {l : Lk} {M : Nat → Ms} {rx : Nat → Bool} (h : Fits l M rx) {j k : Nat} (hj : j ≠ l.own) (hk : k ≠ j) (hk3 : k < 3) (n : Nat) (hn : n ≤ 3) :
    (rL l M rx n).h j k = if j < n ∧ rx j = true then orI (up (l.h j k)) (tl (M j) k * 2) else up (l.h j k) := by
  induction n with
  | zero => rw [if_neg (by omega)]; rfl
  | succ n ih =>
    have ih := ih (by omega)
    unfold rL
    by_cases hr : rx n = true
    · rw [if_pos hr]
      have hp := rL_isP h (j := n) (by omega) hr n
      obtain ⟨g1, g2, _⟩ := h n (by omega) hr
      unfold onL
      rw [if_pos hp, hearL_h g2, rL_own, ih]
      by_cases e : j = n
      · subst e
        rw [if_neg (by omega), if_pos ⟨rfl, hk, hk3⟩, if_neg (by omega), if_pos ⟨by omega, hr⟩]
      · rw [if_neg (by omega), if_neg (by omega)]
        by_cases e2 : j < n ∧ rx j = true
        · rw [if_pos e2, if_pos ⟨by omega, e2.2⟩]
        · rw [if_neg e2, if_neg (fun q => e2 ⟨by omega, q.2⟩)]
    · rw [if_neg hr, ih]
      by_cases e2 : j < n ∧ rx j = true
      · rw [if_pos e2, if_pos ⟨by omega, e2.2⟩]
      · rw [if_neg e2, if_neg (fun q => e2 ⟨by
          rcases Nat.lt_or_ge j n with q1 | q1
          · exact q1
          · obtain rfl : j = n := by omega
            exact absurd q.2 hr, q.2⟩)]

/-- Of three lanes two tell of the third. -/
theorem oth_two {l : Lk} {o t k x y : Nat} (ho : o < 3) (ht : t < 3) (hk : k < 3) (h1 : o ≠ t) (h2 : o ≠ k) (h3 : t ≠ k) (hx : l.h o k = (x : Int)) (hy : l.h t k = (y : Int)) (lx : x < 4294967296) (ly : y < 4294967296) :
    oth l k 3 = ((x ||| y : Nat) : Int) := by
  have z : ∀ a : Nat, a < 4294967296 → orI 0 (a : Int) = (a : Int) := fun a ha => by
    have := orI_nat 0 a (by omega) ha
    simpa using this
  have c1 : ∀ a, oth l a 0 = 0 := fun _ => rfl
  have ho3 : o = 0 ∨ o = 1 ∨ o = 2 := by omega
  have ht3 : t = 0 ∨ t = 1 ∨ t = 2 := by omega
  have hk3 : k = 0 ∨ k = 1 ∨ k = 2 := by omega
  rcases ho3 with rfl | rfl | rfl <;> rcases ht3 with rfl | rfl | rfl <;> rcases hk3 with rfl | rfl | rfl <;>
    first
    | (exfalso; omega)
    | (simp only [oth, hx, hy]; simp [z x lx, z y ly, orI_nat x y lx ly, orI_nat y x ly lx, Nat.or_comm])
theorem and_hi (z : Nat) : z &&& 4080 = z / 16 % 256 * 16 := by
  refine Nat.eq_of_testBit_eq fun i => ?_
  rw [Nat.testBit_and, show (4080 : Nat) = (2 ^ 8 - 1) * 2 ^ 4 from rfl, show (16 : Nat) = 2 ^ 4 from rfl, show (256 : Nat) = 2 ^ 8 from rfl, Nat.testBit_mul_two_pow, Nat.testBit_mul_two_pow, Nat.testBit_two_pow_sub_one, Nat.testBit_mod_two_pow, Nat.testBit_div_two_pow]
  by_cases h : 4 ≤ i
  · simp only [h, decide_true, Bool.true_and, show i - 4 + 4 = i by omega]
    rw [Bool.and_comm]
  · simp [h]
/-- A lane is alive for another one. -/
theorem alive_two {l : Lk} {o t k x y : Nat} (ho : o < 3) (ht : t < 3) (hk : k < 3) (h1 : o ≠ t) (h2 : o ≠ k) (h3 : t ≠ k) (hne : k ≠ l.own) (hx : l.h o k = (x : Int)) (hy : l.h t k = (y : Int)) (lx : x < 4294967296) (ly : y < 4294967296) :
    aliveL l k = ((x ||| y) / 16 % 256 != 0) := by
  rw [alive_not hne, oth_two ho ht hk h1 h2 h3 hx hy lx ly]
  have e := and_nat (x ||| y) 4080 (or_lt lx ly) (by decide)
  rw [show ((4080 : Nat) : Int) = 4080 from rfl] at e
  rw [e, and_hi]
  have q : ∀ n : Nat, (((n * 16 : Nat) : Int) != 0) = (n != 0) := fun n => by
    rw [Bool.eq_iff_iff]
    simp only [bne_iff_ne, ne_eq]
    omega
  exact q _

end Go.Proofs.Ytnknjlhflgfccaa.Link
