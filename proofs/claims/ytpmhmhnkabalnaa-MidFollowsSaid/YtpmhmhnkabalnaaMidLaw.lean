/- The walk of the law MidBetween: it returns true and turns nothing that was there. Conditions: the arguments are int64 numbers. -/
import Derived.Test.YtpmhmhnkabalnaaMidOf
namespace Go.Proofs.Ytpmhmhnkabalnaa.Mid
open Go.ChangeShapes Go.WideShapes Go.ChangeAt Go.RowKit Num

/-- The law's own two numbers. -/
def duo (i : Nat) : Int := match i with | 0 => 4 | _ => 6
theorem duo_in (i : Nat) : In (duo i) := by unfold duo; split <;> exact ⟨by omega, by omega⟩
theorem two (w : World) : Ints (w.alloc (.cells #[.int .i64 4, .int .i64 6] 2)) (w.alloc (.cells #[.int .i64 4, .int .i64 6] 2)).heap.size (some ⟨w.heap.size, 0, none⟩) 2 duo := by
  refine fun _ => ⟨w.heap.size, 0, rfl, by simp, fun i hi => ?_⟩
  rw [World.cell?_alloc_mark]
  match i, hi with
  | 0, _ => rfl
  | 1, _ => rfl

set_option maxHeartbeats 1000000 in
theorem lives (w : World) :
    Calls Try.prog 6 #[] w fun e w' => e = .returned (.bool true) ∧ Below w.heap.size w w' := by
  go_enter Try.func6, Try.ntmps6
  go_wp2_with fail
  refine (ofC _ 2 2 duo _ (by unfold maxLen; omega) (fun i _ => duo_in i) (two w)).mono ?_
  rintro e w1 ⟨rfl, b1⟩
  have B1 : Hid (Below w.heap.size w w1) := bthen ((Below.refl _ _).alloc (Nat.le_refl _) _) b1
  clear b1
  rw [show ofN 2 duo = 5 by decide, show ofB 2 = true by decide]
  go_wp2_with fail
  refine (ofC none 0 0 duo _ (by unfold maxLen; omega) (fun i _ => duo_in i) (fun h => by omega)).mono ?_
  rintro e w2 ⟨rfl, b2⟩
  have B2 := Lib.hid (bthen B1.out b2)
  clear b2
  rw [show ofN 0 duo = 0 by decide, show ofB 0 = false by decide]
  go_wp2_with fail
  refine (middleC 5 (-1) 9 _).mono ?_
  rintro e w' ⟨rfl, rfl⟩
  rw [show middle 5 (-1) 9 = 5 by decide]
  go_wp2_with fail
  refine (middleC 2 2 7 _).mono ?_
  rintro e w' ⟨rfl, rfl⟩
  rw [show middle 2 2 7 = 2 by decide]
  go_wp2_with fail
  refine (averageC (-3) 0 _ ⟨by omega, by omega⟩ ⟨by omega, by omega⟩).mono ?_
  rintro e w' ⟨rfl, rfl⟩
  rw [show avg (-3) 0 = -2 by decide]
  go_wp2_with fail
  refine (averageC 9223372036854775807 9223372036854775805 _ ⟨by omega, by omega⟩ ⟨by omega, by omega⟩).mono ?_
  rintro e w' ⟨rfl, rfl⟩
  rw [show avg 9223372036854775807 9223372036854775805 = 9223372036854775806 by decide]
  go_wp2_with fail
  refine (farC (-9223372036854775808) 1 5 _ ⟨by omega, by omega⟩ ⟨by omega, by omega⟩ ⟨by omega, by omega⟩).mono ?_
  rintro e w' ⟨rfl, rfl⟩
  rw [show far (-9223372036854775808) 1 5 = true by decide]
  go_wp2_with fail
  refine (farC 3 8 5 _ ⟨by omega, by omega⟩ ⟨by omega, by omega⟩ ⟨by omega, by omega⟩).mono ?_
  rintro e w' ⟨rfl, rfl⟩
  rw [show far 3 8 5 = false by decide]
  go_wp2
  go_ret
  exact ⟨rfl, B2.out⟩

theorem min3_i64 (ats : Array TypeId) (ty : TypeId) (a b c : Int) : Builtin.min_ ats ty #[.int .i64 a, .int .i64 b, .int .i64 c] = pure (.int .i64 (gmin (gmin a b) c)) := by
  simp [Builtin.min_, Builtin.min2, gmin]
  rfl
theorem max3_i64 (ats : Array TypeId) (ty : TypeId) (a b c : Int) : Builtin.max_ ats ty #[.int .i64 a, .int .i64 b, .int .i64 c] = pure (.int .i64 (gmax (gmax a b) c)) := by
  simp [Builtin.max_, Builtin.max2, gmax]
  rfl
attribute [go_sem ↓] min3_i64 max3_i64

theorem mid_in (a b c : Int) : gmin (gmin a b) c ≤ middle a b c ∧ middle a b c ≤ gmax (gmax a b) c := by
  have h := mid_cases a b c
  have h1 := gmin_cases a b
  have h2 := gmax_cases a b
  have h3 := gmin_cases (gmin a b) c
  have h4 := gmax_cases (gmax a b) c
  omega
theorem mid_is (a b c : Int) : middle a b c = a ∨ middle a b c = b ∨ middle a b c = c := by have := mid_cases a b c; omega
theorem mid_acb (a b c : Int) : middle a c b = middle a b c := by have := mid_cases a b c; have := mid_cases a c b; omega
theorem mid_bac (a b c : Int) : middle b a c = middle a b c := by have := mid_cases a b c; have := mid_cases b a c; omega
theorem mid_bca (a b c : Int) : middle b c a = middle a b c := by have := mid_cases a b c; have := mid_cases b c a; omega
theorem mid_cab (a b c : Int) : middle c a b = middle a b c := by have := mid_cases a b c; have := mid_cases c a b; omega
theorem mid_cba (a b c : Int) : middle c b a = middle a b c := by have := mid_cases a b c; have := mid_cases c b a; omega
theorem mid_one (a b c : Int) : (middle a b c != a) = false ∨ ((middle a b c != a) = true ∧ (middle a b c != b) = false) ∨ ((middle a b c != a) = true ∧ (middle a b c != b) = true ∧ (middle a b c != c) = false) := by
  have h := mid_is a b c
  generalize middle a b c = m at *
  by_cases h1 : m = a
  · exact .inl (by simp [h1])
  by_cases h2 : m = b
  · exact .inr (.inl ⟨by simp [h1], by simp [h2]⟩)
  · exact .inr (.inr ⟨by simp [h1], by simp [h2], by simp; omega⟩)
theorem avg_in (a b : Int) : gmin a b ≤ avg a b ∧ avg a b ≤ gmax a b := by
  have h1 := gmin_cases a b
  have h2 := gmax_cases a b
  unfold avg
  omega
theorem avg_sym (a b : Int) : avg b a = avg a b := by unfold avg; rw [Int.add_comm]

set_option maxHeartbeats 2000000 in
set_option maxRecDepth 100000 in
theorem betweenLaw (a b c d : Int) (w : World) (ha : In a) (hb : In b) (hd : In d) :
    Calls Try.prog 4 #[.int .i64 a, .int .i64 b, .int .i64 c, .int .i64 d] w fun e w' => e = .returned (.bool true) ∧ Below w.heap.size w w' := by
  have ha' := Lib.hid ha
  have hb' := Lib.hid hb
  have hd' := Lib.hid hd
  clear ha hb hd
  have m1 := (mid_in a b c).1
  have m2 := (mid_in a b c).2
  have n1 := (avg_in a b).1
  have n2 := (avg_in a b).2
  have X1 := Lib.hid (mid_acb a b c)
  have X2 := Lib.hid (mid_bac a b c)
  have X3 := Lib.hid (mid_bca a b c)
  have X4 := Lib.hid (mid_cab a b c)
  have X5 := Lib.hid (mid_cba a b c)
  have X6 := Lib.hid (avg_sym a b)
  have X7 := Lib.hid (far_sym b a d)
  rcases mid_one a b c with k1 | ⟨k1, k2⟩ | ⟨k1, k2, k3⟩
  all_goals
    go_enter Try.func4, Try.ntmps4
    go_wp2_with fail
    refine (middleC a b c _).mono ?_
    rintro e w' ⟨rfl, rfl⟩
    go_wp2_with fail
    refine (averageC a b _ ha'.out hb'.out).mono ?_
    rintro e w' ⟨rfl, rfl⟩
    go_wp2_with fail
    refine (middleC a c b _).mono ?_
    rintro e w' ⟨rfl, rfl⟩
    rw [X1.out]
    go_wp2_with fail
    refine (middleC b a c _).mono ?_
    rintro e w' ⟨rfl, rfl⟩
    rw [X2.out]
    go_wp2_with fail
    refine (middleC b c a _).mono ?_
    rintro e w' ⟨rfl, rfl⟩
    rw [X3.out]
    go_wp2_with fail
    refine (middleC c a b _).mono ?_
    rintro e w' ⟨rfl, rfl⟩
    rw [X4.out]
    go_wp2_with fail
    refine (middleC c b a _).mono ?_
    rintro e w' ⟨rfl, rfl⟩
    rw [X5.out]
    go_wp2_with fail
    refine (averageC b a _ hb'.out ha'.out).mono ?_
    rintro e w' ⟨rfl, rfl⟩
    rw [X6.out]
    go_wp2_with fail
    refine (farC a b d _ ha'.out hb'.out hd'.out).mono ?_
    rintro e w' ⟨rfl, rfl⟩
    go_wp2_with fail
    refine (farC b a d _ hb'.out ha'.out hd'.out).mono ?_
    rintro e w' ⟨rfl, rfl⟩
    rw [X7.out]
    go_wp2_with fail
    refine (lives _).mono ?_
    rintro e w1 ⟨rfl, b1⟩
    have B1 := Lib.hid b1
    clear b1
    go_wp2
    go_ret
    exact ⟨rfl, B1.out⟩

end Go.Proofs.Ytpmhmhnkabalnaa.Mid
