/- The walk of the law MidFollows: it returns true and turns nothing that was there. Conditions: the arguments are int64 numbers. -/
import Derived.Test.YtpmhmhnkabalnaaMidLaw
namespace Go.Proofs.Ytpmhmhnkabalnaa.Mid
open Go.ChangeShapes Go.WideShapes Go.ChangeAt Go.RowKit Num

theorem tmod_in (x m : Int) (h : 0 < m) : -m < x.tmod m ∧ x.tmod m < m := by
  rcases Int.le_total 0 x with g | g
  · have h1 := Int.tmod_nonneg m g
    have h2 := Int.tmod_lt_of_pos x h
    omega
  · obtain ⟨y, rfl⟩ : ∃ y, x = -y := ⟨-x, by omega⟩
    have h1 := Int.tmod_nonneg m (show 0 ≤ y by omega)
    have h2 := Int.tmod_lt_of_pos y h
    rw [Int.neg_tmod]
    omega
/-- A mask of 60 bits. -/
theorem and_60 (k : Int) : 0 ≤ bits BinOp.and IntKind.i64 k 1152921504606846975 ∧ bits BinOp.and IntKind.i64 k 1152921504606846975 ≤ 1152921504606846975 := by
  have h : ((BitVec.ofInt IntKind.i64.bits k) &&& (BitVec.ofInt IntKind.i64.bits 1152921504606846975)).toNat ≤ 1152921504606846975 := by
    rw [BitVec.toNat_and]; exact Nat.and_le_right
  unfold bits
  simp only []
  rw [IntKind.wrap_i64]
  omega
/-- What lies between two that are near is near. -/
theorem mid_near (n e a b c : Int) (ha : n - e ≤ a ∧ a ≤ n + e) (hb : n - e ≤ b ∧ b ≤ n + e) : n - e ≤ middle a c b ∧ middle a c b ≤ n + e := by
  have := mid_cases a c b
  omega
theorem avg_near (n e a b : Int) (ha : n - e ≤ a ∧ a ≤ n + e) (hb : n - e ≤ b ∧ b ≤ n + e) : n - e ≤ avg a b ∧ avg a b ≤ n + e := by
  unfold avg
  omega

set_option maxHeartbeats 2000000 in
theorem followsLaw (n e a b c : Int) (w : World) (hn : In n) (ha : In a) (hb : In b) :
    Calls Try.prog 5 #[.int .i64 n, .int .i64 e, .int .i64 a, .int .i64 b, .int .i64 c] w fun e w' => e = .returned (.bool true) ∧ Below w.heap.size w w' := by
  obtain ⟨x1, x2⟩ := tmod_in n 1152921504606846976 (by omega)
  obtain ⟨e1, e2⟩ := and_60 e
  have y1 := (tmod_in a (1 + bits BinOp.and IntKind.i64 e 1152921504606846975) (by omega)).1
  have y2 := (tmod_in a (1 + bits BinOp.and IntKind.i64 e 1152921504606846975) (by omega)).2
  have z1 := (tmod_in b (1 + bits BinOp.and IntKind.i64 e 1152921504606846975) (by omega)).1
  have z2 := (tmod_in b (1 + bits BinOp.and IntKind.i64 e 1152921504606846975) (by omega)).2
  obtain ⟨a1, a2⟩ := ha
  obtain ⟨b1, b2⟩ := hb
  obtain ⟨n1, n2⟩ := hn
  go_enter Try.func5, Try.ntmps5
  go_wp2_with fail
  generalize n.tmod 1152921504606846976 = N at *
  generalize hE : 1 + bits BinOp.and IntKind.i64 e 1152921504606846975 = E at *
  have E1 : 1 ≤ E := by omega
  have E2 : E ≤ 1152921504606846976 := by omega
  clear hE e1 e2 n1 n2
  generalize hP : a.tmod E = p at *
  generalize hQ : b.tmod E = q at *
  have w1 : IntKind.i64.wrap (N + p) = N + p := by rw [IntKind.wrap_i64]; omega
  have w2 : IntKind.i64.wrap (N + q) = N + q := by rw [IntKind.wrap_i64]; omega
  have E3 : (E == 0) = false := by simp; omega
  have E4 : (E == -1) = false := by simp; omega
  go_quiet (fail)
  clear hP hQ w1 w2 E3 E4 a1 a2 b1 b2
  have ga : N - E ≤ N + p ∧ N + p ≤ N + E := ⟨by omega, by omega⟩
  have gb : N - E ≤ N + q ∧ N + q ≤ N + E := ⟨by omega, by omega⟩
  generalize N + p = s at *
  generalize N + q = t at *
  have m1 := (mid_near N E s t c ga gb).1
  have m2 := (mid_near N E s t c ga gb).2
  have k1 := (avg_near N E s t ga gb).1
  have k2 := (avg_near N E s t ga gb).2
  have is : Hid (In s) := ⟨by omega, by omega⟩
  have it : Hid (In t) := ⟨by omega, by omega⟩
  clear ga gb y1 y2 z1 z2
  go_wp2_with fail
  refine (middleC s c t _).mono ?_
  rintro e w' ⟨rfl, rfl⟩
  go_wp2_with fail
  refine (averageC s t _ is.out it.out).mono ?_
  rintro e w' ⟨rfl, rfl⟩
  generalize middle s c t = m at *
  generalize avg s t = k at *
  go_wp2_with fail
  refine (lives _).mono ?_
  rintro e w1 ⟨rfl, b1⟩
  have B1 : Hid (Below w.heap.size w w1) := bthen (below_drewN (Below.refl _ _) _) b1
  clear b1
  go_wp2
  go_ret
  exact ⟨rfl, B1.out⟩

end Go.Proofs.Ytpmhmhnkabalnaa.Mid
