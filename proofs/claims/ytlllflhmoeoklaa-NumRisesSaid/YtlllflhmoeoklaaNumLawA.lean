/- The walks of the laws NumRises and NumWithin: each returns true. Conditions: the arguments are int64 numbers. -/
import Derived.Test.YtlllflhmoeoklaaNumLives
namespace Go.Proofs.Ytlllflhmoeoklaa.Num
open Go.ChangeShapes Go.WideShapes Go.ChangeAt Go.RowKit

theorem sat_mono {x y : Int} (h : x ≤ y) : sat x ≤ sat y := by
  have h1 := sat_cases x; have h2 := sat_cases y; omega
theorem In_gmin {a b : Int} (ha : In a) (hb : In b) : In (gmin a b) := by
  have := gmin_cases a b; obtain ⟨h1, h2⟩ := ha; obtain ⟨h3, h4⟩ := hb; exact ⟨by omega, by omega⟩
theorem In_gmax {a b : Int} (ha : In a) (hb : In b) : In (gmax a b) := by
  have := gmax_cases a b; obtain ⟨h1, h2⟩ := ha; obtain ⟨h3, h4⟩ := hb; exact ⟨by omega, by omega⟩
theorem In_zero : In 0 := ⟨by omega, by omega⟩

set_option maxHeartbeats 1000000 in
theorem risesLaw (a c b : Int) (ha : In a) (hc : In c) (hb : In b) (w : World) :
    Calls Try.prog 5 #[.int .i64 a, .int .i64 c, .int .i64 b] w fun e w' => e = .returned (.bool true) ∧ w = w' := by
  have hb' := Lib.hid hb
  have hl := Lib.hid (In_gmin ha hc)
  have hh := Lib.hid (In_gmax ha hc)
  have hlh : gmin a c ≤ gmax a c := by
    have h1 := gmin_cases a c; have h2 := gmax_cases a c; omega
  have t1 : sat (gmin a c + b) ≤ sat (gmax a c + b) := sat_mono (by omega)
  have t2 : sat (gmin a c - b) ≤ sat (gmax a c - b) := sat_mono (by omega)
  have t3 : (sat (gmin a c + b) == sat (b + gmin a c)) = true := by rw [Int.add_comm]; simp
  clear ha hc hb hlh
  go_enter Try.func5, Try.ntmps5
  go_wp2_with fail
  refine (add _ _ _ hl.out hb'.out).mono ?_
  rintro e w' ⟨rfl, rfl⟩
  go_wp2_with fail
  refine (add _ _ _ hh.out hb'.out).mono ?_
  rintro e w' ⟨rfl, rfl⟩
  go_wp2_with fail
  refine (sub _ _ _ hl.out hb'.out).mono ?_
  rintro e w' ⟨rfl, rfl⟩
  go_wp2_with fail
  refine (sub _ _ _ hh.out hb'.out).mono ?_
  rintro e w' ⟨rfl, rfl⟩
  go_wp2_with fail
  refine (add _ _ _ hl.out hb'.out).mono ?_
  rintro e w' ⟨rfl, rfl⟩
  go_wp2_with fail
  refine (add _ _ _ hb'.out hl.out).mono ?_
  rintro e w' ⟨rfl, rfl⟩
  go_wp2_with fail
  refine (lives _).mono ?_
  rintro e w' ⟨rfl, rfl⟩
  go_wp2
  go_ret
  exact ⟨rfl, rfl⟩

/-- Which case a number is in, and the tests' answers there. -/
def Side (x n lo hi : Int) (p q r : Bool) : Prop := lo ≤ x ∧ x ≤ hi ∧ (x == n) = p ∧ decide (lo ≤ n) = q ∧ decide (n ≤ hi) = r
theorem side_a {n lo hi : Int} (h : lo ≤ hi) (c : n < lo) : within n lo hi = lo ∧ Side lo n lo hi false false true := by
  refine ⟨within_a (by omega), by omega, by omega, ?_, ?_, ?_⟩
  · simp; omega
  · simp; omega
  · simp; omega
theorem side_b {n lo hi : Int} (h : lo ≤ hi) (c : hi < n) : within n lo hi = hi ∧ Side hi n lo hi false true false := by
  refine ⟨within_b (by omega) (by omega), by omega, by omega, ?_, ?_, ?_⟩
  · simp; omega
  · simp; omega
  · simp; omega
theorem side_c {n lo hi : Int} (c : lo ≤ n) (d : n ≤ hi) : within n lo hi = n ∧ Side n n lo hi true true true := by
  refine ⟨within_c (by omega) (by omega), by omega, by omega, ?_, ?_, ?_⟩
  · simp
  · simp; omega
  · simp; omega
theorem sides (n lo hi : Int) (h : lo ≤ hi) : ∃ x, within n lo hi = x ∧ (Side x n lo hi false false true ∨ Side x n lo hi false true false ∨ Side x n lo hi true true true) := by
  rcases (show n < lo ∨ hi < n ∨ (lo ≤ n ∧ n ≤ hi) by omega) with c | c | c
  · exact ⟨_, (side_a h c).1, Or.inl (side_a h c).2⟩
  · exact ⟨_, (side_b h c).1, Or.inr (Or.inl (side_b h c).2)⟩
  · exact ⟨_, (side_c c.1 c.2).1, Or.inr (Or.inr (side_c c.1 c.2).2)⟩

set_option maxHeartbeats 2000000 in
theorem withinLaw (n a b : Int) (hn : In n) (ha : In a) (hb : In b) (w : World) :
    Calls Try.prog 7 #[.int .i64 n, .int .i64 a, .int .i64 b] w fun e w' => e = .returned (.bool true) ∧ w = w' := by
  have hn' := Lib.hid hn
  have hl := Lib.hid (In_gmin ha hb)
  have hh := Lib.hid (In_gmax ha hb)
  have hm := Lib.hid (In_gmax ha In_zero)
  have hlh : gmin a b ≤ gmax a b := by
    have h1 := gmin_cases a b; have h2 := gmax_cases a b; omega
  have hm0 : 0 ≤ gmax a 0 := by have h2 := gmax_cases a 0; omega
  have hm1 : gmax a 0 ≤ 9223372036854775807 := hm.out.2
  obtain ⟨x, ex, hx⟩ := sides n (gmin a b) (gmax a b) hlh
  obtain ⟨y, ey, hy⟩ := sides n (-gmax a 0) (gmax a 0) (by omega)
  have ey' : clamp n (gmax a 0) = y := by rw [clamp_b (by omega)]; exact ey
  have Ex := Lib.hid ex
  have Ey := Lib.hid ey'
  clear ha hb hn ex ey ey' hlh
  rcases hx with ⟨x1, x2, x3, x4, x5⟩ | ⟨x1, x2, x3, x4, x5⟩ | ⟨x1, x2, x3, x4, x5⟩
  all_goals
    rcases hy with ⟨y1, y2, y3, y4, y5⟩ | ⟨y1, y2, y3, y4, y5⟩ | ⟨y1, y2, y3, y4, y5⟩
  all_goals
    go_enter Try.func7, Try.ntmps7
    go_wp2_with fail
    refine (withinC _ _ _ _ hn'.out hl.out hh.out).mono ?_
    rintro e w' ⟨rfl, rfl⟩
    rw [Ex.out]
    go_wp2_with fail
    refine (clampC _ _ _ hn'.out hm.out).mono ?_
    rintro e w' ⟨rfl, rfl⟩
    rw [Ey.out]
    go_wp2_with fail
    refine (lives _).mono ?_
    rintro e w' ⟨rfl, rfl⟩
    go_wp2
    go_ret
    exact ⟨rfl, rfl⟩
end Go.Proofs.Ytlllflhmoeoklaa.Num
