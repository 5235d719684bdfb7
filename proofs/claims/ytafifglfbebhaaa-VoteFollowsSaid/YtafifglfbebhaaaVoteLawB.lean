/- The walk of the law VoteFollows: it returns true and turns nothing that was there. Conditions: the numbers are int64, the place is a byte. -/
import Derived.Test.YtafifglfbebhaaaVoteLawD
namespace Go.Proofs.Ytafifglfbebhaaa.Vote
open Go.ChangeShapes Go.WideShapes Go.ChangeAt Go.RowKit Num Bl Pers Mid

theorem tmod_in (x m : Int) (h : 0 < m) : -m < x.tmod m ∧ x.tmod m < m := by
  rcases Int.le_total 0 x with g | g
  · have h1 := Int.tmod_nonneg m g
    have h2 := Int.tmod_lt_of_pos x h
    omega
  · obtain ⟨y, rfl⟩ : ∃ y, x = -y := ⟨-x, by omega⟩
    have h1 := Int.tmod_nonneg m (show 0 ≤ y by omega)
    have h2 := Int.tmod_lt_of_pos y h
    rw [Int.neg_tmod]
    omega
theorem and_50 (k : Int) : 0 ≤ bits BinOp.and IntKind.i64 k 1125899906842623 ∧ bits BinOp.and IntKind.i64 k 1125899906842623 ≤ 1125899906842623 := by
  have h : ((BitVec.ofInt IntKind.i64.bits k) &&& (BitVec.ofInt IntKind.i64.bits 1125899906842623)).toNat ≤ 1125899906842623 := by
    rw [BitVec.toNat_and]; exact Nat.and_le_right
  unfold bits
  simp only []
  rw [IntKind.wrap_i64]
  omega

/-- The law's healths and readings: the third one at place k. -/
def Hf (k : Nat) (o : Bool) (i : Nat) : Hl := if i = k then (if o = true then ⟨4, true, 0⟩ else h0) else h0
def Rf (k : Nat) (s t : Int) (x : Rd) (i : Nat) : Rd := if i = k then x else if i = (k + 1) % 3 then ⟨true, t⟩ else ⟨true, s⟩
theorem Rf_in {k : Nat} {s t : Int} {x : Rd} (hs : In s) (ht : In t) (hx : In x.v) (i : Nat) : In (Rf k s t x i).v := by
  unfold Rf
  split
  · exact hx
  split
  · exact ht
  · exact hs
/-- What lies between two. -/
def Betw (s t m : Int) : Prop := (s ≤ m ∧ m ≤ t) ∨ (t ≤ m ∧ m ≤ s)
theorem near_far {s t d : Int} (h1 : s - t ≤ d) (h2 : t - s ≤ d) : far s t d = false := far_false (by omega)
theorem follows_v (k : Nat) (hk : k < 3) (o : Bool) (x : Rd) (s t d : Int) (h1 : s - t ≤ d) (h2 : t - s ≤ d) :
    ∃ m c, stV (Hf k o) (Rf k s t x) d = ⟨true, m, c⟩ ∧ (c = 3 ∨ c = 2) ∧ Betw s t m := by
  have f1 := near_far h1 h2
  have f2 := near_far h2 h1
  obtain ⟨xi, xv⟩ := x
  have e1 : Betw s t (avg s t) := by unfold Betw avg; omega
  have e2 : Betw s t (avg t s) := by unfold Betw avg; omega
  have e3 : Betw s t (middle xv t s) := by have := mid_cases xv t s; unfold Betw; omega
  have e4 : Betw s t (middle s xv t) := by have := mid_cases s xv t; unfold Betw; omega
  have e5 : Betw s t (middle t s xv) := by have := mid_cases t s xv; unfold Betw; omega
  have hk3 : k = 0 ∨ k = 1 ∨ k = 2 := by omega
  rcases hk3 with rfl | rfl | rfl <;> cases o <;> cases xi
  all_goals
    unfold stV
    rw [vot3]
    simp [pres, Hf, Rf, may, cnt, h0, two, f1, f2]
    first
      | exact ⟨_, _, ⟨rfl, rfl⟩, .inl rfl, e3⟩
      | exact ⟨_, _, ⟨rfl, rfl⟩, .inl rfl, e4⟩
      | exact ⟨_, _, ⟨rfl, rfl⟩, .inl rfl, e5⟩
      | exact ⟨_, _, ⟨rfl, rfl⟩, .inr rfl, e1⟩
      | exact ⟨_, _, ⟨rfl, rfl⟩, .inr rfl, e2⟩
theorem next_zero : next h0 false false = ⟨0, false, 1⟩ := rfl
theorem follows_h (k : Nat) (hk : k < 3) (o : Bool) (x : Rd) (s t d : Int) (h1 : s - t ≤ d) (h2 : t - s ≤ d) (j : Nat) (hj : j ≠ k) : (stH (Hf k o) (Rf k s t x) d false j).b = 0 := by
  obtain ⟨m, c, hv, hc, hm⟩ := follows_v k hk o x s t d h1 h2
  have hH : Hf k o j = h0 := by unfold Hf; rw [if_neg hj]
  have hR : Rf k s t x j = ⟨true, t⟩ ∨ Rf k s t x j = ⟨true, s⟩ := by
    unfold Rf
    rw [if_neg hj]
    split
    · exact .inl rfl
    · exact .inr rfl
  have hP : pres (Hf k o) (Rf k s t x) j = Rf k s t x j := pres_yes (by rw [hH]) (by rw [hH]; rfl)
  have hb : bd (Rf k s t x j) (pres (Hf k o) (Rf k s t x) j).i (stV (Hf k o) (Rf k s t x) d) d = false := by
    rw [hP, hv]
    unfold Betw at hm
    rcases hc with rfl | rfl
    · rcases hR with e | e <;> rw [e]
      · rw [bd_all rfl rfl (by show ¬ (3 : Int) < 3; decide)]; exact far_false (by show ¬ (d < t - m ∨ d < m - t); omega)
      · rw [bd_all rfl rfl (by show ¬ (3 : Int) < 3; decide)]; exact far_false (by show ¬ (d < s - m ∨ d < m - s); omega)
    · rcases hR with e | e <;> rw [e] <;> exact bd_few rfl rfl (by show (2 : Int) < 3; decide) d
  unfold stH
  rw [hb, hH, next_zero]
/-- vote.Step of the law's sources. -/
theorem followsC (k : Nat) (hk : k < 3) (o : Bool) (x : Rd) (s t d : Int) (h1 : s - t ≤ d) (h2 : t - s ≤ d) (hs : In s) (ht : In t) (hx : In x.v) (hd : In d) :
    ∃ (F : Nat → Hl) (m c : Int), (c = 3 ∨ c = 2) ∧ Betw s t m ∧ (∀ j, j ≠ k → (F j).b = 0) ∧ ∀ W, Calls Try.prog 8 #[.agg (hsA (Hf k o)), .agg (rsA (Rf k s t x)), .int .i64 d, .bool false] W fun e w' => e = .returned (.tuple #[.agg (hsA F), .agg #[.bool true, .int .i64 m, .int .i64 c]]) ∧ Below W.heap.size W w' := by
  obtain ⟨m, c, hv, hc, hm⟩ := follows_v k hk o x s t d h1 h2
  refine ⟨stH (Hf k o) (Rf k s t x) d false, m, c, hc, hm, fun j hj => follows_h k hk o x s t d h1 h2 j hj, fun W => ?_⟩
  have h := stepC (Hf k o) (Rf k s t x) d false W (Rf_in hs ht hx) hd
  rw [hv] at h
  exact h

end Go.Proofs.Ytafifglfbebhaaa.Vote
