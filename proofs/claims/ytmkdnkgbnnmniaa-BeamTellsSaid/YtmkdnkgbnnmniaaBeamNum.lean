/- Counts, plainly: one by one, behind a frame, behind frames; how long it was wide. Conditions: none but those that each row names. -/
import Derived.Test.YtmkdnkgbnnmniaaBandNum
namespace Go.Proofs.Ytmkdnkgbnnmniaa.Beam
open Go.ChangeShapes Go.WideShapes Go.ChangeAt Go.RowKit Num Band

/-- A count that may be. -/
def isC (c : Int) : Bool := decide (0 ≤ c ∧ c ≤ 65536)
/-- A count behind a frame. -/
def nx (c : Int) (w : Bool) : Int := if w = true then (if isC c = true then gmin (c + 1) 65536 else 1) else 0
theorem nx_no (c : Int) : nx c false = 0 := rfl
theorem nx_in {c : Int} (h : isC c = true) : nx c true = gmin (c + 1) 65536 := by
  unfold nx; rw [if_pos rfl, if_pos h]
theorem nx_out {c : Int} (h : isC c = false) : nx c true = 1 := by
  unfold nx; rw [if_pos rfl, if_neg (by rw [h]; exact Bool.false_ne_true)]
theorem isC_yes {c : Int} (h : 0 ≤ c) (g : c ≤ 65536) : isC c = true := decide_eq_true ⟨h, g⟩
theorem isC_lo {c : Int} (h : c < 0) : isC c = false := decide_eq_false (by omega)
theorem isC_hi {c : Int} (h : 65536 < c) : isC c = false := decide_eq_false (by omega)
theorem nx_top : nx 65536 true = 65536 := by
  rw [nx_in (isC_yes (by decide) (by decide))]; decide
theorem nx_one {c : Int} (h : 0 ≤ c) (g : c < 65536) : nx c true = c + 1 := by
  rw [nx_in (isC_yes h (by omega))]
  have := gmin_cases (c + 1) 65536
  omega
/-- The counts behind a frame, behind the first n frames. -/
def next (N : Nat → Int) (X : Nat → Vt) : Nat → Int := fun k => nx (N k) (wideB (X k))
def run (N : Nat → Int) (F : Nat → Nat → Vt) : Nat → Nat → Int
  | 0 => N
  | n + 1 => next (run N F n) (F n)
theorem run_as {N : Nat → Int} {F G : Nat → Nat → Vt} {n : Nat} (h : ∀ i, i < n → F i = G i) : run N F n = run N G n := by
  induction n with
  | zero => rfl
  | succ n ih =>
    show next (run N F n) (F n) = next (run N G n) (G n)
    rw [ih fun i hi => h i (by omega), h n (by omega)]
/-- Off the beam. -/
def offB (N : Nat → Int) : Bool := decide (4 ≤ N 0 ∨ 4 ≤ N 1)
theorem off_a {N : Nat → Int} (h : 4 ≤ N 0) : offB N = true := decide_eq_true (Or.inl h)
theorem off_b {N : Nat → Int} (h : 4 ≤ N 1) : offB N = true := decide_eq_true (Or.inr h)
theorem off_no {N : Nat → Int} (h : N 0 < 4) (g : N 1 < 4) : offB N = false := decide_eq_false (by omega)
/-- One place anew. -/
def updN (N : Nat → Int) (k : Nat) (v : Int) : Nat → Int := fun a => if a = k then v else N a
theorem upd_two (N : Nat → Int) (X : Nat → Vt) : ∀ k, k < 2 → updN (updN N 0 (nx (N 0) (wideB (X 0)))) 1 (nx ((updN N 0 (nx (N 0) (wideB (X 0)))) 1) (wideB (X 1))) k = next N X k := fun k h => match k, h with
  | 0, _ => rfl
  | 1, _ => rfl

/-- For how many frames, up to n, it was wide, one behind the other. -/
def lg (F : Nat → Nat → Vt) (s : Nat) : Nat → Nat
  | 0 => 0
  | n + 1 => if wideB (F n s) = true then lg F s n + 1 else 0
theorem lg_le (F : Nat → Nat → Vt) (s n : Nat) : lg F s n ≤ n := by
  induction n with
  | zero => exact Nat.le_refl _
  | succ n ih => show (if wideB (F n s) = true then lg F s n + 1 else 0) ≤ n + 1; split <;> omega
theorem run_lg (F : Nat → Nat → Vt) (s n : Nat) (h : n ≤ 65536) : run (fun _ => 0) F n s = (lg F s n : Int) := by
  induction n with
  | zero => rfl
  | succ n ih =>
    have e : run (fun _ => 0) F (n + 1) s = nx (run (fun _ => 0) F n s) (wideB (F n s)) := rfl
    have l := lg_le F s n
    rw [e, ih (by omega)]
    show _ = (((if wideB (F n s) = true then lg F s n + 1 else 0 : Nat)) : Int)
    cases hw : wideB (F n s)
    · rfl
    · rw [nx_one (by omega) (by omega), if_pos rfl]; omega
/-- Wide in the last m frames of n. -/
def lasts (F : Nat → Nat → Vt) (s n m : Nat) : Bool := decide (m ≤ n ∧ ∀ k, k < m → wideB (F (n - 1 - k) s) = true)
theorem lg_lasts (F : Nat → Nat → Vt) (s : Nat) : ∀ n m : Nat, decide (m ≤ lg F s n) = lasts F s n m := by
  intro n
  induction n with
  | zero =>
    intro m
    refine decide_eq_decide.2 ⟨fun h => ⟨h, fun k hk => ?_⟩, fun h => h.1⟩
    have : m ≤ 0 := h
    omega
  | succ n ih =>
    intro m
    cases m with
    | zero => exact decide_eq_decide.2 ⟨fun _ => ⟨Nat.zero_le _, fun k hk => absurd hk (by omega)⟩, fun _ => Nat.zero_le _⟩
    | succ m =>
      have i := decide_eq_decide.1 (ih m)
      refine decide_eq_decide.2 ⟨fun h => ?_, fun h => ?_⟩
      · have h1 : m + 1 ≤ (if wideB (F n s) = true then lg F s n + 1 else 0) := h
        by_cases hw : wideB (F n s) = true
        · rw [if_pos hw] at h1
          obtain ⟨a, b⟩ := i.1 (by omega)
          refine ⟨by omega, fun k hk => ?_⟩
          cases k with
          | zero => exact hw
          | succ k =>
            have := b k (by omega)
            rw [show n + 1 - 1 - (k + 1) = n - 1 - k by omega]
            exact this
        · rw [if_neg hw] at h1; omega
      · show m + 1 ≤ (if wideB (F n s) = true then lg F s n + 1 else 0)
        have hw : wideB (F n s) = true := h.2 0 (by omega)
        rw [if_pos hw]
        have := i.2 ⟨by omega, fun k hk => by
          have := h.2 (k + 1) (by omega)
          rw [show n + 1 - 1 - (k + 1) = n - 1 - k by omega] at this
          exact this⟩
        omega
theorem run_off (F : Nat → Nat → Vt) (n : Nat) (h : n ≤ 65536) : offB (run (fun _ => 0) F n) = (lasts F 0 n 4 || lasts F 1 n 4) := by
  have a := decide_eq_decide.1 (lg_lasts F 0 n 4)
  have b := decide_eq_decide.1 (lg_lasts F 1 n 4)
  rw [← lg_lasts F 0 n 4, ← lg_lasts F 1 n 4]
  unfold offB
  rw [run_lg F 0 n h, run_lg F 1 n h, ← Bool.decide_or]
  exact decide_eq_decide.2 (by omega)
/-- What the law's inner loop holds: the frame n is the last one, k of Persist are looked at; of the outer one: s signals. -/
def allK (F : Nat → Nat → Vt) (s n k : Nat) : Bool := decide (4 ≤ n + 1 ∧ ∀ i, i < k → wideB (F (n - i) s) = true)
theorem all_0 (F : Nat → Nat → Vt) (s n : Nat) : allK F s n 0 = decide (4 ≤ n + 1) := decide_eq_decide.2 ⟨fun h => h.1, fun h => ⟨h, fun i hi => absurd hi (by omega)⟩⟩
theorem all_next {F : Nat → Nat → Vt} {s n k : Nat} (h : allK F s n k = true) : allK F s n (k + 1) = wideB (F (n - k) s) := by
  have g := of_decide_eq_true h
  cases hw : wideB (F (n - k) s)
  · refine decide_eq_false fun c => ?_
    have := c.2 k (by omega)
    rw [hw] at this
    exact Bool.false_ne_true this
  · refine decide_eq_true ⟨g.1, fun i hi => ?_⟩
    by_cases e : i = k
    · subst e; exact hw
    · exact g.2 i (by omega)
theorem all_long {F : Nat → Nat → Vt} {s n k : Nat} (h : allK F s n k = true) : 3 ≤ n := by
  have g := of_decide_eq_true h
  omega
theorem all_4 (F : Nat → Nat → Vt) (s n : Nat) : allK F s n 4 = lasts F s (n + 1) 4 := decide_eq_decide.2 ⟨fun h => ⟨h.1, fun k hk => h.2 k hk⟩, fun h => ⟨h.1, fun k hk => h.2 k hk⟩⟩
theorem all_no {F : Nat → Nat → Vt} {s n k : Nat} (hk : k ≤ 4) (h : allK F s n k = false) : lasts F s (n + 1) 4 = false := by
  rw [← all_4]
  have g := of_decide_eq_false h
  exact decide_eq_false fun c => g ⟨c.1, fun i hi => c.2 i (by omega)⟩
def offK (F : Nat → Nat → Vt) (n : Nat) : Nat → Bool
  | 0 => false
  | s + 1 => offK F n s || lasts F s (n + 1) 4
theorem off_next {F : Nat → Nat → Vt} {n s : Nat} {o q : Bool} (ho : offK F n s = o) (hl : lasts F s (n + 1) 4 = q) : offK F n (s + 1) = (o || q) := by
  subst ho hl; rfl
theorem off_is (F : Nat → Nat → Vt) (n : Nat) (h : n + 1 ≤ 65536) : offB (run (fun _ => 0) F (n + 1)) = offK F n 2 := by
  rw [run_off F (n + 1) h]
  show _ = ((false || lasts F 0 (n + 1) 4) || lasts F 1 (n + 1) 4)
  rw [Bool.false_or]

end Go.Proofs.Ytmkdnkgbnnmniaa.Beam
