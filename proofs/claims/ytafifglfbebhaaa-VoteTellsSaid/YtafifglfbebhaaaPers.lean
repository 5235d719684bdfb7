/- Contracts of persist.May, Next, isCount, oneMore, isBack, and of the reference's May, Next, more. Conditions: none. -/
import Derived.Test.YtafifglfbebhaaaBls
import Derived.Deep.RegionWith
namespace Go.Proofs.Ytafifglfbebhaaa.Pers
open Go.ChangeShapes Go.WideShapes Go.ChangeAt Go.RowKit Num Bl

/-- A health. -/
structure Hl where
  b : Int
  o : Bool
  g : Int
/-- As a value; as cells. -/
abbrev hv (s : Hl) : Value := .agg #[.int .i64 s.b, .bool s.o, .int .i64 s.g]
abbrev hc (s : Hl) : Array Value := #[.int .i64 s.b, .bool s.o, .int .i64 s.g]
abbrev h0 : Hl := ⟨0, false, 0⟩

/-- P10.1: whether a count, a health may be; one more; how a health goes on. -/
def cnt (n : Int) : Bool := decide (0 ≤ n ∧ n ≤ 65536)
def may (s : Hl) : Bool := cnt s.b && cnt s.g && (decide (s.b = 0) || decide (s.g = 0)) && (s.o || decide (s.b < 4))
def more (n : Int) : Int := if n < 65536 then n + 1 else 65536
def next (s : Hl) (x k : Bool) : Hl :=
  if may s = false then h0
  else if x = true then ⟨more s.b, s.o || decide (4 ≤ more s.b), 0⟩
  else if s.o = true ∧ k = true ∧ 20 ≤ more s.g then h0
  else ⟨0, s.o, more s.g⟩
/-- P10.2: behind the first n frames. -/
def run (s : Hl) (L : Nat → Bool) (k : Bool) : Nat → Hl
  | 0 => s
  | n + 1 => next (run s L k n) (L n) k

theorem cnt_yes {n : Int} (h : 0 ≤ n ∧ n ≤ 65536) : cnt n = true := decide_eq_true h
theorem cnt_of {n : Int} (h : cnt n = true) : 0 ≤ n ∧ n ≤ 65536 := of_decide_eq_true h
theorem cnt_no {n : Int} (h : cnt n = false) : ¬ (0 ≤ n ∧ n ≤ 65536) := of_decide_eq_false h
theorem may_of {s : Hl} (h : may s = true) : (0 ≤ s.b ∧ s.b ≤ 65536) ∧ (0 ≤ s.g ∧ s.g ≤ 65536) ∧ (s.b = 0 ∨ s.g = 0) ∧ (s.o = true ∨ s.b < 4) := by
  unfold may at h
  simp only [Bool.and_eq_true, Bool.or_eq_true, decide_eq_true_eq] at h
  exact ⟨cnt_of h.1.1.1, cnt_of h.1.1.2, h.1.2, h.2⟩
theorem may_mk {s : Hl} (h1 : 0 ≤ s.b ∧ s.b ≤ 65536) (h2 : 0 ≤ s.g ∧ s.g ≤ 65536) (h3 : s.b = 0 ∨ s.g = 0) (h4 : s.o = true ∨ s.b < 4) : may s = true := by
  unfold may
  simp only [Bool.and_eq_true, Bool.or_eq_true, decide_eq_true_eq]
  exact ⟨⟨⟨cnt_yes h1, cnt_yes h2⟩, h3⟩, h4⟩

theorem isCountC (n : Int) (w : World) :
    Calls Try.prog 40 #[.int .i64 n] w fun e w' => e = .returned (.bool (cnt n)) ∧ w = w' := by
  by_cases h1 : 0 ≤ n
  · by_cases h2 : n ≤ 65536
    · have H := Lib.hid (cnt_yes ⟨h1, h2⟩)
      go_enter Try.func40, Try.ntmps40
      go_wp2
      go_ret
      exact ⟨by rw [H.out]; simp, rfl⟩
    · have H := Lib.hid (show cnt n = false from decide_eq_false (by omega))
      go_enter Try.func40, Try.ntmps40
      go_wp2
      go_ret
      exact ⟨by rw [H.out]; simp, rfl⟩
  · have H := Lib.hid (show cnt n = false from decide_eq_false (by omega))
    go_enter Try.func40, Try.ntmps40
    go_wp2
    go_ret
    exact ⟨by rw [H.out]; rfl, rfl⟩

theorem oneMoreC (n : Int) (h : cnt n = true) (w : World) :
    Calls Try.prog 32 #[.int .i64 n] w fun e w' => e = .returned (.int .i64 (more n)) ∧ w = w' := by
  have h1 := cnt_of h
  have H : Hid (more n = gmin (n + 1) 65536) := by show more n = _; unfold more gmin; split <;> split <;> omega
  clear h
  go_enter Try.func32, Try.ntmps32
  go_wp2
  go_ret
  exact ⟨ret_int H.out, rfl⟩

theorem rMore (n : Int) (h : cnt n = true) (w : World) :
    Calls Try.prog 35 #[.int .i64 n] w fun e w' => e = .returned (.int .i64 (more n)) ∧ w = w' := by
  have h1 := cnt_of h
  clear h
  by_cases h2 : n < 65536
  · have H : Hid (more n = n + 1) := by show more n = _; unfold more; rw [if_pos h2]
    go_enter Try.func35, Try.ntmps35
    go_wp2
    go_ret
    exact ⟨ret_int H.out, rfl⟩
  · have H : Hid (more n = n) := by show more n = _; unfold more; rw [if_neg h2]; omega
    go_enter Try.func35, Try.ntmps35
    go_wp2
    go_ret
    exact ⟨ret_int H.out, rfl⟩

theorem isBackC (s : Hl) (w : World) :
    Calls Try.prog 33 #[hv s] w fun e w' => e = .returned (.bool (s.o && decide (20 ≤ s.g))) ∧ Below w.heap.size w w' := by
  obtain ⟨b, o, g⟩ := s
  cases o
  · go_enter Try.func33, Try.ntmps33
    go_wp2
    go_ret
    exact ⟨rfl, (Below.refl _ _).alloc (Nat.le_refl _) _⟩
  · go_enter Try.func33, Try.ntmps33
    go_wp2
    go_ret
    exact ⟨ret_bool (by simp), (Below.refl _ _).alloc (Nat.le_refl _) _⟩

set_option maxHeartbeats 1000000 in
theorem mayC (s : Hl) (w : World) :
    Calls Try.prog 27 #[hv s] w fun e w' => e = .returned (.bool (may s)) ∧ Below w.heap.size w w' := by
  obtain ⟨b, o, g⟩ := s
  cases hb : cnt b
  · have HM : Hid (may ⟨b, o, g⟩ = false) := by show may _ = false; simp [may, hb]
    have HB := Lib.hid hb
    clear hb
    go_enter Try.func27, Try.ntmps27
    go_wp2_with fail
    refine (isCountC _ _).mono ?_
    rintro e w' ⟨rfl, rfl⟩
    rw [HB.out]
    go_wp2
    go_ret
    exact ⟨ret_bool HM.out, (Below.refl _ _).alloc (Nat.le_refl _) _⟩
  cases hg : cnt g
  · have HM : Hid (may ⟨b, o, g⟩ = false) := by show may _ = false; simp [may, hg]
    have HB := Lib.hid hb
    have HG := Lib.hid hg
    clear hb hg
    go_enter Try.func27, Try.ntmps27
    go_wp2_with fail
    refine (isCountC _ _).mono ?_
    rintro e w' ⟨rfl, rfl⟩
    rw [HB.out]
    go_wp2_with fail
    refine (isCountC _ _).mono ?_
    rintro e w' ⟨rfl, rfl⟩
    rw [HG.out]
    go_wp2
    go_ret
    exact ⟨ret_bool HM.out, (Below.refl _ _).alloc (Nat.le_refl _) _⟩
  · have HB := Lib.hid hb
    have HG := Lib.hid hg
    by_cases b0 : b = 0
    · subst b0
      have HM : Hid (may ⟨0, o, g⟩ = true) := may_mk (by simp) (cnt_of hg) (.inl rfl) (.inr (show (0 : Int) < 4 by decide))
      clear hb hg
      cases o
      all_goals
        go_enter Try.func27, Try.ntmps27
        go_wp2_with fail
        refine (isCountC _ _).mono ?_
        rintro e w' ⟨rfl, rfl⟩
        rw [HB.out]
        go_wp2_with fail
        refine (isCountC _ _).mono ?_
        rintro e w' ⟨rfl, rfl⟩
        rw [HG.out]
        go_wp2
        go_ret
        exact ⟨ret_bool HM.out, (Below.refl _ _).alloc (Nat.le_refl _) _⟩
    · have n0 : (b != 0) = true := by simpa using b0
      by_cases g0 : g = 0
      · subst g0
        cases o
        · by_cases b4 : b < 4
          · have HM : Hid (may ⟨b, false, 0⟩ = true) := may_mk (cnt_of hb) (by simp) (.inr rfl) (.inr b4)
            clear hb hg
            go_enter Try.func27, Try.ntmps27
            go_wp2_with fail
            refine (isCountC _ _).mono ?_
            rintro e w' ⟨rfl, rfl⟩
            rw [HB.out]
            go_wp2_with fail
            refine (isCountC _ _).mono ?_
            rintro e w' ⟨rfl, rfl⟩
            rw [HG.out]
            go_wp2
            go_ret
            exact ⟨by rw [HM.out]; simp, (Below.refl _ _).alloc (Nat.le_refl _) _⟩
          · have HM : Hid (may ⟨b, false, 0⟩ = false) := by show may _ = false; simp [may, b4]
            clear hb hg
            go_enter Try.func27, Try.ntmps27
            go_wp2_with fail
            refine (isCountC _ _).mono ?_
            rintro e w' ⟨rfl, rfl⟩
            rw [HB.out]
            go_wp2_with fail
            refine (isCountC _ _).mono ?_
            rintro e w' ⟨rfl, rfl⟩
            rw [HG.out]
            go_wp2
            go_ret
            exact ⟨by rw [HM.out]; simp [b4], (Below.refl _ _).alloc (Nat.le_refl _) _⟩
        · have HM : Hid (may ⟨b, true, 0⟩ = true) := may_mk (cnt_of hb) (by simp) (.inr rfl) (.inl rfl)
          clear hb hg
          go_enter Try.func27, Try.ntmps27
          go_wp2_with fail
          refine (isCountC _ _).mono ?_
          rintro e w' ⟨rfl, rfl⟩
          rw [HB.out]
          go_wp2_with fail
          refine (isCountC _ _).mono ?_
          rintro e w' ⟨rfl, rfl⟩
          rw [HG.out]
          go_wp2
          go_ret
          exact ⟨ret_bool HM.out, (Below.refl _ _).alloc (Nat.le_refl _) _⟩
      · have m0 : (g != 0) = true := by simpa using g0
        have HM : Hid (may ⟨b, o, g⟩ = false) := by show may _ = false; simp [may, b0, g0]
        clear hb hg b0 g0
        go_enter Try.func27, Try.ntmps27
        go_wp2_with fail
        refine (isCountC _ _).mono ?_
        rintro e w' ⟨rfl, rfl⟩
        rw [HB.out]
        go_wp2_with fail
        refine (isCountC _ _).mono ?_
        rintro e w' ⟨rfl, rfl⟩
        rw [HG.out]
        go_wp2
        go_ret
        exact ⟨ret_bool HM.out, (Below.refl _ _).alloc (Nat.le_refl _) _⟩

/-- The ways through May, one question behind the other. -/
theorem may_ways (b : Int) (o : Bool) (g : Int) : (may ⟨b, o, g⟩ = false ∧ b < 0) ∨ (may ⟨b, o, g⟩ = false ∧ 0 ≤ b ∧ 65536 < b) ∨ (may ⟨b, o, g⟩ = false ∧ 0 ≤ b ∧ b ≤ 65536 ∧ g < 0) ∨ (may ⟨b, o, g⟩ = false ∧ 0 ≤ b ∧ b ≤ 65536 ∧ 0 ≤ g ∧ 65536 < g)
    ∨ (may ⟨b, o, g⟩ = false ∧ 0 ≤ b ∧ b ≤ 65536 ∧ 0 ≤ g ∧ g ≤ 65536 ∧ (b == 0) = false ∧ (g == 0) = false)
    ∨ (may ⟨b, o, g⟩ = true ∧ b = 0 ∧ 0 ≤ g ∧ g ≤ 65536 ∧ o = true) ∨ (may ⟨b, o, g⟩ = true ∧ b = 0 ∧ 0 ≤ g ∧ g ≤ 65536 ∧ o = false)
    ∨ (may ⟨b, o, g⟩ = true ∧ 0 ≤ b ∧ b ≤ 65536 ∧ g = 0 ∧ (b == 0) = false ∧ o = true)
    ∨ (may ⟨b, o, g⟩ = true ∧ 0 ≤ b ∧ b ≤ 65536 ∧ g = 0 ∧ (b == 0) = false ∧ o = false ∧ b < 4) ∨ (may ⟨b, o, g⟩ = false ∧ 0 ≤ b ∧ b ≤ 65536 ∧ g = 0 ∧ (b == 0) = false ∧ o = false ∧ 4 ≤ b) := by
  cases o <;> simp only [may, cnt, beq_eq_false_iff_ne, Bool.and_eq_true, Bool.and_eq_false_iff, Bool.or_eq_true, Bool.or_eq_false_iff, decide_eq_true_eq, decide_eq_false_iff_not] <;> simp <;> omega

set_option maxHeartbeats 2000000 in
set_option maxRecDepth 100000 in
theorem rMay (s : Hl) (w : World) :
    Calls Try.prog 16 #[hv s] w fun e w' => e = .returned (.bool (may s)) ∧ Below w.heap.size w w' := by
  obtain ⟨b, o, g⟩ := s
  rcases may_ways b o g with ⟨hm, a1⟩ | ⟨hm, a1, a2⟩ | ⟨hm, a1, a2, a3⟩ | ⟨hm, a1, a2, a3, a4⟩ | ⟨hm, a1, a2, a3, a4, a5, a6⟩ | ⟨hm, rfl, a3, a4, rfl⟩ | ⟨hm, rfl, a3, a4, rfl⟩ | ⟨hm, a1, a2, rfl, a5, rfl⟩ | ⟨hm, a1, a2, rfl, a5, rfl, a6⟩ | ⟨hm, a1, a2, rfl, a5, rfl, a6⟩
  all_goals
    have HM := Lib.hid hm
    clear hm
    go_enter Try.func16, Try.ntmps16
    go_wp2
    go_ret
    exact ⟨by rw [HM.out]; first | rfl | (simp; done) | (simp; omega), (Below.refl _ _).alloc (Nat.le_refl _) _⟩

theorem next_no {s : Hl} (h : may s = false) (x k : Bool) : next s x k = h0 := by unfold next; rw [if_pos h]
theorem next_bad {s : Hl} (h : may s = true) (k : Bool) : next s true k = ⟨more s.b, s.o || decide (4 ≤ more s.b), 0⟩ := by unfold next; rw [if_neg (by simp [h]), if_pos rfl]
theorem next_back {s : Hl} (h : may s = true) (ho : s.o = true) (hg : 20 ≤ more s.g) : next s false true = h0 := by unfold next; rw [if_neg (by simp [h]), if_neg (by simp), if_pos ⟨ho, rfl, hg⟩]
theorem next_good {s : Hl} (h : may s = true) (k : Bool) (hn : ¬ (s.o = true ∧ k = true ∧ 20 ≤ more s.g)) : next s false k = ⟨0, s.o, more s.g⟩ := by unfold next; rw [if_neg (by simp [h]), if_neg (by simp), if_neg hn]

end Go.Proofs.Ytafifglfbebhaaa.Pers
