/- Contracts of layer 2 (fix) and of the document's own answers for it. Each call returns the plain numbers that 'sc' says; the program's own calls may lay new memory (a wrapped error's copy), and change none that was there. Conditions: the arguments are int64 numbers. -/
import Derived.Test.YtggacffkmhipaaaNumMul
import Derived.Test.YtggacffkmhipaaaIs
namespace Go.Proofs.Ytggacffkmhipaaa.Fix
open Num Go.ChangeShapes Go.WideShapes Go.ChangeAt Go.RowKit

def may (a : Int) : Bool := decide (-1099511627776 ≤ a ∧ a ≤ 1099511627776)
theorem may_t {a : Int} (h1 : -1099511627776 ≤ a) (h2 : a ≤ 1099511627776) : true = may a := by simp [may]; omega
theorem may_f {a : Int} (h : a < -1099511627776 ∨ 1099511627776 < a) : false = may a := by simp [may]; omega

theorem mayC (a : Int) (w : World) :
    Calls Try.prog 8 #[.int .i64 a] w fun e w' => e = .returned (.bool (may a)) ∧ w = w' := by
  go_enter Try.func8, Try.ntmps8
  go_wp2
  all_goals
    go_ret
    exact ⟨ret_bool (by simp [may]; try omega), rfl⟩

theorem rmay (a : Int) (w : World) :
    Calls Try.prog 9 #[.int .i64 a] w fun e w' => e = .returned (.bool (may a)) ∧ w = w' := by
  go_enter Try.func9, Try.ntmps9
  go_wp2
  all_goals
    go_ret
    exact ⟨ret_bool (by simp [may]; try omega), rfl⟩

/-- An error value that stands for the number k: none, the number itself, or one wrapped. -/
def ErrIs (k : Int) (v : Value) : Prop := k = 0 ∧ v = .nilIface ∨ k ≠ 0 ∧ v = .iface 22 (.int .i64 k) ∨ k ≠ 0 ∧ ∃ s, v = .iface 56 (.agg #[.string s, .iface 22 (.int .i64 k)])

theorem wrapped (s : ByteArray) (k : Int) (w : World) :
    Calls Try.prog 31 #[.string s, .int .i64 k] w fun e w' => ∃ v, e = .returned v ∧ (k = 0 ∧ v = .nilIface ∨ k ≠ 0 ∧ v = .iface 56 (.agg #[.string s, .iface 22 (.int .i64 k)])) ∧ w = w' := by
  by_cases h : k = 0
  · subst h
    go_enter Try.func31, Try.ntmps31
    go_wp2
    go_ret
    exact ⟨_, rfl, Or.inl ⟨trivial, rfl⟩, rfl⟩
  · have h' : (k == 0) = false := by simpa using h
    have hh := Lib.hid h
    clear h
    go_enter Try.func31, Try.ntmps31
    go_wp2
    go_ret
    exact ⟨_, rfl, Or.inr ⟨hh.out, rfl⟩, rfl⟩

/-- What a wrapped number of an error is. -/
def ErrF (s : ByteArray) (k : Int) (v : Value) : Prop := k = 0 ∧ v = .nilIface ∨ k ≠ 0 ∧ v = .iface 56 (.agg #[.string s, .iface 22 (.int .i64 k)])
theorem ErrF_nil {s : ByteArray} {k : Int} {v : Value} (h : ErrF s k v) (hk : k = 0) : v = .nilIface := by
  rcases h with ⟨-, h⟩ | ⟨h, -⟩
  · exact h
  · exact absurd hk h
theorem ErrF_some {s : ByteArray} {k : Int} {v : Value} (h : ErrF s k v) (hk : k ≠ 0) : v = .iface 56 (.agg #[.string s, .iface 22 (.int .i64 k)]) := by
  rcases h with ⟨h, -⟩ | ⟨-, h⟩
  · exact absurd h hk
  · exact h

theorem product (a b : Int) (w : World) (ha : In a) (hb : In b) :
    Calls Try.prog 24 #[.int .i64 a, .int .i64 b] w fun e w' => ∃ s v, e = .returned (.tuple #[.int .i64 (mulN (a * b)), v]) ∧ ErrF s (mulE (a * b)) v ∧ w = w' := by
  have ha' := Lib.hid ha
  have hb' := Lib.hid hb
  clear ha hb
  go_enter Try.func24, Try.ntmps24
  go_wp2_with fail
  refine (mul a b _ ha'.out hb'.out).mono ?_
  rintro e w' ⟨rfl, rfl⟩
  go_wp2_with fail
  refine (wrapped _ _ _).mono ?_
  rintro e w' ⟨v, rfl, hv, rfl⟩
  have hv' := Lib.hid hv
  clear hv
  go_wp2
  go_ret2
  exact ⟨_, _, rfl, hv'.out, rfl⟩

theorem quotient (a b : Int) (w : World) (ha : In a) :
    Calls Try.prog 25 #[.int .i64 a, .int .i64 b] w fun e w' => ∃ s v, e = .returned (.tuple #[.int .i64 (divN a b), v]) ∧ ErrF s (divE a b) v ∧ w = w' := by
  have ha' := Lib.hid ha
  clear ha
  go_enter Try.func25, Try.ntmps25
  go_wp2_with fail
  refine (div a b _ ha'.out).mono ?_
  rintro e w' ⟨rfl, rfl⟩
  go_wp2_with fail
  refine (wrapped _ _ _).mono ?_
  rintro e w' ⟨v, rfl, hv, rfl⟩
  have hv' := Lib.hid hv
  clear hv
  go_wp2
  go_ret2
  exact ⟨_, _, rfl, hv'.out, rfl⟩

/-- A product p, divided by o towards 0, if all of it may be: the two results. -/
def scE (p o : Int) : Int := if p < -9223372036854775808 ∨ 9223372036854775807 < p then 9 else if o = 0 then 2 else if may (p.tdiv o) = true then 0 else 9
def scN (p o : Int) : Int := if scE p o = 0 then p.tdiv o else 0
theorem scE_over {p o : Int} (h : p < -9223372036854775808 ∨ 9223372036854775807 < p) : scE p o = 9 := if_pos h
theorem scE_zero {p o : Int} (h : ¬ (p < -9223372036854775808 ∨ 9223372036854775807 < p)) (ho : o = 0) : scE p o = 2 := by unfold scE; rw [if_neg h, if_pos ho]
theorem scE_fine {p o : Int} (h : ¬ (p < -9223372036854775808 ∨ 9223372036854775807 < p)) (ho : ¬ o = 0) (hm : may (p.tdiv o) = true) : scE p o = 0 := by unfold scE; rw [if_neg h, if_neg ho, if_pos hm]
theorem scE_beyond {p o : Int} (h : ¬ (p < -9223372036854775808 ∨ 9223372036854775807 < p)) (ho : ¬ o = 0) (hm : may (p.tdiv o) = false) : scE p o = 9 := by unfold scE; rw [if_neg h, if_neg ho, if_neg (by rw [hm]; decide)]
theorem scN_bad {p o k : Int} (h : scE p o = k) (hk : k ≠ 0) : scN p o = 0 := by unfold scN; rw [if_neg (by rw [h]; exact hk)]
theorem scN_fine {p o : Int} (h : scE p o = 0) : scN p o = p.tdiv o := by unfold scN; rw [if_pos h]
theorem scE_is (p o : Int) : scE p o = 0 ∨ scE p o = 2 ∨ scE p o = 9 := by
  unfold scE; split
  · exact Or.inr (Or.inr rfl)
  · split
    · exact Or.inr (Or.inl rfl)
    · split
      · exact Or.inl rfl
      · exact Or.inr (Or.inr rfl)

theorem ErrIs_F {s : ByteArray} {k : Int} (hk : k ≠ 0) : ErrIs k (.iface 56 (.agg #[.string s, .iface 22 (.int .i64 k)])) := Or.inr (Or.inr ⟨hk, _, rfl⟩)

set_option maxHeartbeats 800000 in
theorem scaled (a b o : Int) (w : World) (ha : In a) (hb : In b) :
    Calls Try.prog 20 #[.int .i64 a, .int .i64 b, .int .i64 o] w fun e w' => ∃ v, e = .returned (.tuple #[.int .i64 (scN (a * b) o), v]) ∧ ErrIs (scE (a * b) o) v ∧ w = w' := by
  have ha' := Lib.hid ha
  have hb' := Lib.hid hb
  clear ha hb
  by_cases hov : a * b < -9223372036854775808 ∨ 9223372036854775807 < a * b
  · have ho := Lib.hid hov
    clear hov
    go_enter Try.func20, Try.ntmps20
    go_wp2_with fail
    refine (product a b _ ha'.out hb'.out).mono ?_
    rintro e w' ⟨s, v, rfl, hv, rfl⟩
    rw [mulE_out ho.out] at hv
    have hv' := ErrF_some hv (by decide)
    subst hv'
    clear hv
    go_wp2
    go_ret2
    refine ⟨_, ret_pair (scN_bad (scE_over ho.out) (by decide)), ?_, rfl⟩
    rw [scE_over ho.out]
    exact ErrIs_F (by decide)
  have hin := Lib.hid (show In (a * b) from ⟨by omega, by omega⟩)
  have hnv := Lib.hid hov
  clear hov
  by_cases h0 : divE (a * b) o = 0
  · have hd0 : o ≠ 0 ∧ ¬ (a * b = -9223372036854775808 ∧ o = -1) := by
      unfold divE at h0
      split at h0
      · omega
      · split at h0
        · omega
        · omega
    have hN := Lib.hid (divN_n hd0.1 hd0.2)
    have ho0 := Lib.hid hd0.1
    have hE := Lib.hid h0
    clear h0 hd0
    cases hm : may ((a * b).tdiv o)
    all_goals
      have hm' := Lib.hid hm
      clear hm
      go_enter Try.func20, Try.ntmps20
      go_wp2_with fail
      refine (product a b _ ha'.out hb'.out).mono ?_
      rintro e w' ⟨s, v, rfl, hv, rfl⟩
      have hv' := ErrF_nil hv (mulE_in hin.out.1 hin.out.2)
      subst hv'
      clear hv
      rw [mulN_in hin.out.1 hin.out.2]
      go_wp2_with fail
      refine (quotient (a * b) o _ hin.out).mono ?_
      rintro e w' ⟨s, v, rfl, hv, rfl⟩
      have hv' := ErrF_nil hv hE.out
      subst hv'
      clear hv
      rw [hN.out]
      go_wp2_with fail
      refine (mayC _ _).mono ?_
      rintro e w' ⟨rfl, rfl⟩
      rw [hm'.out]
      go_wp2
      go_ret2
    · refine ⟨_, ret_pair (scN_bad (scE_beyond hnv.out ho0.out hm'.out) (by decide)), ?_, rfl⟩
      rw [scE_beyond hnv.out ho0.out hm'.out]
      exact Or.inr (Or.inl ⟨by decide, rfl⟩)
    · refine ⟨_, ret_pair (scN_fine (scE_fine hnv.out ho0.out hm'.out)), ?_, rfl⟩
      rw [scE_fine hnv.out ho0.out hm'.out]
      exact Or.inl ⟨rfl, rfl⟩
  · have hs : scE (a * b) o = divE (a * b) o := by
      unfold divE
      by_cases o0 : o = 0
      · rw [if_pos o0]; exact scE_zero hnv.out o0
      · rw [if_neg o0]
        by_cases c : a * b = -9223372036854775808 ∧ o = -1
        · rw [if_pos c, c.1, c.2]; decide
        · exact absurd (divE_n o0 c) h0
    have hE := Lib.hid h0
    have hS := Lib.hid hs
    clear h0 hs
    go_enter Try.func20, Try.ntmps20
    go_wp2_with fail
    refine (product a b _ ha'.out hb'.out).mono ?_
    rintro e w' ⟨s, v, rfl, hv, rfl⟩
    have hv' := ErrF_nil hv (mulE_in hin.out.1 hin.out.2)
    subst hv'
    clear hv
    rw [mulN_in hin.out.1 hin.out.2]
    go_wp2_with fail
    refine (quotient (a * b) o _ hin.out).mono ?_
    rintro e w' ⟨s, v, rfl, hv, rfl⟩
    have hv' := ErrF_some hv hE.out
    subst hv'
    clear hv
    go_wp2
    go_ret2
    refine ⟨_, ret_pair (scN_bad hS.out hE.out), ?_, rfl⟩
    rw [hS.out]
    exact ErrIs_F hE.out

set_option maxHeartbeats 800000 in
theorem answer (n k : Int) (v : Value) (w : World) (h : ErrIs k v) (hk : k = 0 ∨ k = 2 ∨ k = 9) :
    Calls Try.prog 19 #[.int .i64 n, v] w fun e w' => e = .returned (.tuple #[.int .i64 (if k = 0 then n else 0), .int .i64 k]) ∧ Grown w w' := by
  rcases h with ⟨rfl, rfl⟩ | ⟨h0, rfl⟩ | ⟨h0, s, rfl⟩
  · clear hk
    go_enter Try.func19, Try.ntmps19
    go_wp2
    go_ret2
    exact ⟨rfl, Grown.refl _⟩
  · rcases hk with hk | rfl | rfl
    · exact absurd hk h0
    all_goals
      clear h0
      go_enter Try.func19, Try.ntmps19
      go_wp2_with fail
      refine (Is.is_no _ _ _).mono ?_
      rintro e w' ⟨rfl, rfl⟩
      go_wp2
      go_ret2
      exact ⟨rfl, Grown.refl _⟩
  · rcases hk with hk | rfl | rfl
    · exact absurd hk h0
    all_goals
      clear h0
      go_enter Try.func19, Try.ntmps19
      go_wp2_with fail
      refine (Is.is_fault _ _ _ _).mono ?_
      rintro e w' ⟨rfl, rfl⟩
      go_wp2
      go_ret2
      exact ⟨rfl, (Grown.refl _).alloc _ _⟩

theorem scN_if (p o : Int) : (if scE p o = 0 then scN p o else 0) = scN p o := by
  by_cases h : scE p o = 0
  · rw [if_pos h]
  · rw [if_neg h, scN_bad rfl h]

theorem ofC (a : Int) (w : World) (ha : In a) :
    Calls Try.prog 6 #[.int .i64 a] w fun e w' => e = .returned (.tuple #[.int .i64 (scN (a * 65536) 1), .int .i64 (scE (a * 65536) 1)]) ∧ Grown w w' := by
  have ha' := Lib.hid ha
  clear ha
  go_enter Try.func6, Try.ntmps6
  go_wp2_with fail
  refine (scaled a 65536 1 _ ha'.out ⟨by omega, by omega⟩).mono ?_
  rintro e w' ⟨v, rfl, hv, rfl⟩
  have hv' := Lib.hid hv
  clear hv
  go_wp2_with fail
  refine (answer _ _ v _ hv'.out (scE_is _ _)).mono ?_
  rintro e w' ⟨rfl, hg⟩
  have hg' := Lib.hid hg
  clear hg
  rw [scN_if]
  go_wp2
  go_ret2
  exact ⟨rfl, hg'.out⟩

/-- P2.2's first test. -/
def mulX (a b : Int) : Bool := may a && may b
theorem may_bounds {a : Int} (h : may a = true) : -1099511627776 ≤ a ∧ a ≤ 1099511627776 := by simpa [may] using h
theorem may_in {a : Int} (h : may a = true) : In a := by have := may_bounds h; exact ⟨by omega, by omega⟩

end Go.Proofs.Ytggacffkmhipaaa.Fix
