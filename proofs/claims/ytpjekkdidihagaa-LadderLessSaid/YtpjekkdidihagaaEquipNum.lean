/- Inventories, plainly: their numbers, which one is less, what fails, the units' bits. Conditions: none but those that each row names. -/
import Derived.Test.YtpjekkdidihagaaHs36
import Derived.Test.YtpjekkdidihagaaLanesAlive
namespace Go.Proofs.Ytpjekkdidihagaa.Equip
open Go.ChangeShapes Go.WideShapes Go.ChangeAt Go.RowKit Num Pers Vote Lanes

/-- An inventory. -/
structure St where
  s : Nat → Int
  l : Int
  y : Int
  r : Bool
  t : Bool
def Wf (S : St) : Prop := (∀ i, In (S.s i)) ∧ In S.l ∧ In S.y
def b01 (b : Bool) : Int := if b then 1 else 0
/-- Its eight numbers. -/
def nu (S : St) (k : Nat) : Int := if k < 4 then S.s k else if k = 4 then S.l else if k = 5 then S.y else if k = 6 then b01 S.r else b01 S.t
/-- Is nothing of the first n more; is something of them less? -/
def nmN (A B : St) : Nat → Bool
  | 0 => true
  | n + 1 => nmN A B n && decide (nu A n ≤ nu B n)
def ltN (A B : St) : Nat → Bool
  | 0 => false
  | n + 1 => ltN A B n || decide (nu A n < nu B n)
def less (A B : St) : Bool := nmN A B 8 && ltN A B 8
def fo (a b : Bool) : Bool := !a || b
def eqS (A B : St) : Bool := decide (A.s 0 = B.s 0) && (decide (A.s 1 = B.s 1) && (decide (A.s 2 = B.s 2) && (decide (A.s 3 = B.s 3) && (decide (A.l = B.l) && (decide (A.y = B.y) && (A.r == B.r && A.t == B.t))))))
/-- What an approach holds: of healths, of lanes, of units. -/
def ofS (H : Nat → Nat → Hl) (g : Nat → Bool) (u : Int) : St := ⟨fun i => (ins (H i) 3 : Nat), (sK g 3 : Nat), u % 2 + u / 2 % 2, decide (u / 4 % 2 = 1), decide (u / 8 % 2 = 1)⟩
/-- The least of the first n + 1 signals' numbers. -/
def lsN (S : St) : Nat → Int
  | 0 => S.s 0
  | n + 1 => gmin (lsN S n) (S.s (n + 1))

theorem fo_le (a b : Bool) : fo a b = decide (b01 a ≤ b01 b) := by cases a <;> cases b <;> rfl
theorem nmN_of (A B : St) (n : Nat) : nmN A B n = true ↔ ∀ k, k < n → nu A k ≤ nu B k := by
  induction n with
  | zero => exact ⟨fun _ k hk => by omega, fun _ => rfl⟩
  | succ n ih =>
    show (nmN A B n && decide (nu A n ≤ nu B n)) = true ↔ _
    rw [Bool.and_eq_true, ih, decide_eq_true_eq]
    refine ⟨fun h k hk => ?_, fun h => ⟨fun k hk => h k (by omega), h n (by omega)⟩⟩
    by_cases e : k = n
    · subst e; exact h.2
    · exact h.1 k (by omega)
theorem ltN_of (A B : St) (n : Nat) : ltN A B n = true ↔ ∃ k, k < n ∧ nu A k < nu B k := by
  induction n with
  | zero => exact ⟨fun h => by simp [ltN] at h, fun ⟨k, h, _⟩ => by omega⟩
  | succ n ih =>
    show (ltN A B n || decide (nu A n < nu B n)) = true ↔ _
    rw [Bool.or_eq_true, ih, decide_eq_true_eq]
    refine ⟨fun h => ?_, fun ⟨k, hk, h⟩ => ?_⟩
    · rcases h with ⟨k, hk, h⟩ | h
      · exact ⟨k, by omega, h⟩
      · exact ⟨n, by omega, h⟩
    · by_cases e : k = n
      · subst e; exact .inr h
      · exact .inl ⟨k, by omega, h⟩
theorem less_of (A B : St) : less A B = true ↔ (∀ k, k < 8 → nu A k ≤ nu B k) ∧ ∃ k, k < 8 ∧ nu A k < nu B k := by
  unfold less
  rw [Bool.and_eq_true, nmN_of, ltN_of]
theorem b01_eq (a b : Bool) : b01 a = b01 b ↔ a = b := by cases a <;> cases b <;> simp [b01]
theorem all8 (p : Nat → Prop) : (∀ k, k < 8 → p k) ↔ p 0 ∧ p 1 ∧ p 2 ∧ p 3 ∧ p 4 ∧ p 5 ∧ p 6 ∧ p 7 := by
  refine ⟨fun h => ⟨h 0 (by omega), h 1 (by omega), h 2 (by omega), h 3 (by omega), h 4 (by omega), h 5 (by omega), h 6 (by omega), h 7 (by omega)⟩, fun h k hk => ?_⟩
  obtain ⟨h0, h1, h2, h3, h4, h5, h6, h7⟩ := h
  have e : k = 0 ∨ k = 1 ∨ k = 2 ∨ k = 3 ∨ k = 4 ∨ k = 5 ∨ k = 6 ∨ k = 7 := by omega
  rcases e with rfl | rfl | rfl | rfl | rfl | rfl | rfl | rfl <;> assumption
theorem eqS_of (A B : St) : eqS A B = true ↔ ∀ k, k < 8 → nu A k = nu B k := by
  rw [all8 fun k => nu A k = nu B k]
  have h6 : nu A 6 = nu B 6 ↔ A.r = B.r := b01_eq A.r B.r
  have h7 : nu A 7 = nu B 7 ↔ A.t = B.t := b01_eq A.t B.t
  rw [h6, h7]
  unfold eqS
  simp only [Bool.and_eq_true, decide_eq_true_eq, beq_iff_eq]
  exact Iff.rfl
theorem less_same {A B : St} (h : eqS A B = true) : less A B = false := by
  rw [Bool.eq_false_iff]
  intro hl
  obtain ⟨_, k, hk, hlt⟩ := (less_of A B).1 hl
  have := (eqS_of A B).1 h k hk
  omega
theorem less_other {A B : St} (h : eqS A B = false) : less A B = nmN A B 8 := by
  cases hn : nmN A B 8
  · unfold less; rw [hn]; rfl
  · have h1 := (nmN_of A B 8).1 hn
    refine (less_of A B).2 ⟨h1, ?_⟩
    refine Classical.byContradiction fun hno => ?_
    have : eqS A B = true := (eqS_of A B).2 fun k hk => by
      have a := h1 k hk
      have b : ¬ nu A k < nu B k := fun q => hno ⟨k, hk, q⟩
      omega
    rw [this] at h; cases h
theorem nm_tail (A B : St) : nmN A B 8 = (nmN A B 4 && (decide (A.l ≤ B.l) && (decide (A.y ≤ B.y) && (fo A.r B.r && fo A.t B.t)))) := by
  rw [fo_le, fo_le]
  show ((((nmN A B 4 && decide (A.l ≤ B.l)) && decide (A.y ≤ B.y)) && decide (b01 A.r ≤ b01 B.r)) && decide (b01 A.t ≤ b01 B.t)) = _
  simp only [Bool.and_assoc]
theorem nm_more {A B : St} {k : Nat} (hk : k < 8) (h : nu B k < nu A k) : nmN A B 8 = false := by
  rw [Bool.eq_false_iff]
  intro hn
  have := (nmN_of A B 8).1 hn k hk
  omega

/-- Less is an order. -/
theorem less_self (A : St) : less A A = false := less_same ((eqS_of A A).2 fun _ _ => rfl)
theorem less_anti {A B : St} (h : less A B = true) : less B A = false := by
  rw [Bool.eq_false_iff]
  intro hl
  obtain ⟨_, k, hk, hlt⟩ := (less_of A B).1 h
  have := ((less_of B A).1 hl).1 k hk
  omega
theorem less_trans {A B C : St} (h : less A B = true) (g : less B C = true) : less A C = true := by
  obtain ⟨h1, k, hk, hlt⟩ := (less_of A B).1 h
  have g1 := ((less_of B C).1 g).1
  refine (less_of A C).2 ⟨fun j hj => ?_, k, hk, ?_⟩
  · have := h1 j hj; have := g1 j hj; omega
  · have := g1 k hk; omega

/-- What is nowhere more is the same, or less. -/
theorem eqS_symm (A B : St) : eqS A B = eqS B A := by
  rw [Bool.eq_iff_iff, eqS_of, eqS_of]
  exact ⟨fun h k hk => (h k hk).symm, fun h k hk => (h k hk).symm⟩
theorem le_less {A B : St} (h : ∀ k, k < 8 → nu B k ≤ nu A k) : (eqS A B = true ∨ less B A = true) ∧ less A B = false := by
  refine ⟨?_, ?_⟩
  · cases e : eqS A B
    · exact .inr (by rw [less_other (by rw [eqS_symm]; exact e)]; exact (nmN_of B A 8).2 h)
    · exact .inl rfl
  · rw [Bool.eq_false_iff]
    intro hl
    obtain ⟨_, k, hk, hlt⟩ := (less_of A B).1 hl
    have := h k hk
    omega
theorem ls_le {A B : St} (h : ∀ k, k < 4 → B.s k ≤ A.s k) (n : Nat) (hn : n < 4) : lsN B n ≤ lsN A n := by
  induction n with
  | zero => exact h 0 (by omega)
  | succ n ih =>
    have h1 := ih (by omega)
    have h2 := h (n + 1) hn
    have c1 := gmin_cases (lsN A n) (A.s (n + 1))
    have c2 := gmin_cases (lsN B n) (B.s (n + 1))
    show gmin _ _ ≤ gmin _ _
    omega
theorem ls_in {S : St} (h : ∀ i, In (S.s i)) (n : Nat) : In (lsN S n) := by
  induction n with
  | zero => exact h 0
  | succ n ih =>
    show In (gmin _ _)
    rcases gmin_cases (lsN S n) (S.s (n + 1)) with ⟨e, _⟩ | ⟨e, _⟩ <;> rw [e]
    · exact ih
    · exact h _

/-- The units' bits. -/
theorem u8_and3 : ∀ n : Fin 256, bits .and .u8 (n.val : Int) 3 = (n.val : Int) % 4 := by decide +kernel
theorem u8_and4 : ∀ n : Fin 256, (bits .and .u8 (n.val : Int) 4 != 0) = decide ((n.val : Int) / 4 % 2 = 1) := by decide +kernel
theorem u8_and8 : ∀ n : Fin 256, (bits .and .u8 (n.val : Int) 8 != 0) = decide ((n.val : Int) / 8 % 2 = 1) := by decide +kernel
theorem of_fin {p : Int → Prop} (h : ∀ n : Fin 256, p (n.val : Int)) (u : Int) (h0 : 0 ≤ u) (h1 : u < 256) : p u := by
  have := h ⟨u.toNat, by omega⟩
  simpa only [Int.toNat_of_nonneg h0] using this
/-- Two bits of four values, as the ones of them. -/
def pc (x : Int) : Int := x % 2 + x / 2
theorem pc_4 (u : Int) : pc (u % 4) = u % 2 + u / 2 % 2 := by unfold pc; omega

end Go.Proofs.Ytpjekkdidihagaa.Equip
