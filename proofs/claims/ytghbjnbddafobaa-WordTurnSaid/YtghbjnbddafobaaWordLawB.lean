/- The walks of the laws WordBack, WordBit and WordTurn: each returns true. Conditions: as in the text WordLaw. -/
import Derived.Test.YtghbjnbddafobaaWordLaw
import Derived.Laws.BitsAllLaws
namespace Go.Proofs.Ytghbjnbddafobaa.Word
open Go.ChangeShapes Go.WideShapes Go.ChangeAt Go.RowKit Num

theorem got_in (x : Int) : 0 ≤ gl x ∧ gl x < 256 ∧ 0 ≤ gs x ∧ gs x < 4 ∧ 0 ≤ gd x ∧ gd x < 524288 ∧ 0 ≤ gt x ∧ gt x < 4 := by
  have := tn_lo (x % 256)
  have := tn_hi (x % 256)
  unfold gl gs gd gt
  split <;> omega

set_option maxHeartbeats 1000000 in
theorem backYes (l s d t x : Int) (l0 : 0 ≤ l) (l1 : l < 256) (s0 : 0 ≤ s) (d0 : 0 ≤ d) (t0 : 0 ≤ t) (x0 : 0 ≤ x) (x1 : x < 4294967296) (h : fits s d t) (w : World) :
    Calls Try.prog 4 #[.agg #[.int .u8 l, .int .u8 s, .int .u32 d, .int .u8 t], .int .u32 x] w fun e w' => e = .returned (.bool true) ∧ Below w.heap.size w w' := by
  have hb := Lib.hid (back l s d t l0 l1 s0 d0 t0 h)
  have hE := Lib.hid (show putE s d t = 0 from if_pos h)
  clear h
  go_enter Try.func4, Try.ntmps4
  go_wp2_with fail
  refine (put l s d t l0 l1 s0 d0 t0 _).mono ?_
  rw [hE.out]
  clear hE
  generalize putN l s d t = a at hb ⊢
  rintro e w1 ⟨rfl, g1⟩
  have G1 := Lib.hid g1
  clear g1
  go_wp2_with fail
  refine (get a hb.out.1 hb.out.2.1 _).mono ?_
  rw [hb.out.2.2.2.1, hb.out.2.2.2.2.1, hb.out.2.2.2.2.2.1, hb.out.2.2.2.2.2.2.1, hb.out.2.2.2.2.2.2.2]
  rintro e w2 ⟨rfl, g2⟩
  have ao := hb.out.2.2.1
  obtain ⟨c0, c1, c2, c3⟩ := cells4 (bthen G1.out g2)
  have hz : w.heap.size < w2.heap.size := by have := (bthen G1.out g2).size; simp at this; omega
  have B1 := Lib.hid (bthen (bthen (below_new (Below.refl _ _) _) G1.out) g2)
  clear g2 G1
  go_wp2_with fail
  refine (odd a hb.out.1 hb.out.2.1 _).mono ?_
  rintro e w3 ⟨rfl, m, rfl⟩
  have B2 := Lib.hid (below_drewN (below_new B1.out (.cells #[.int .u8 l, .int .u8 s, .int .u32 d, .int .u8 t] 24)) m)
  clear c0 c1 c2 c3 hz
  by_cases ho : oddB x = true
  · have hx := forth x x0 x1 ho
    have hfit := Lib.hid (show putE (gs x) (gd x) (gt x) = 0 from if_pos hx.1)
    have hput := Lib.hid hx.2
    have hE := Lib.hid (show gE x = 0 from if_pos ho)
    have gi := got_in x
    clear hx
    go_wp2_with fail
    refine (get x x0 x1 _).mono ?_
    rw [hE.out]
    rintro e w3 ⟨rfl, g3⟩
    have B3 := Lib.hid (bthen B2.out g3)
    clear g3
    go_wp2_with fail
    refine (put (gl x) (gs x) (gd x) (gt x) (by omega) (by omega) (by omega) (by omega) (by omega) _).mono ?_
    rw [hfit.out, hput.out]
    rintro e w4 ⟨rfl, g4⟩
    have B4 := Lib.hid (bthen (below_new B3.out _) g4)
    clear g4
    go_wp2_with fail
    refine (lives _).mono ?_
    rintro e w5 ⟨rfl, g5⟩
    have B5 := Lib.hid (bthen B4.out g5)
    clear g5
    go_wp2
    go_ret
    exact ⟨rfl, B5.out⟩
  · have ho' : oddB x = false := by simpa using ho
    clear ho
    go_wp2_with fail
    refine (get_no x x0 x1 ho' _).mono ?_
    rintro e w3 ⟨rfl, g3⟩
    have B3 := Lib.hid (bthen B2.out g3)
    clear g3
    go_wp2_with fail
    refine (odd x x0 x1 _).mono ?_
    rintro e w4 ⟨rfl, m, rfl⟩
    go_wp2_with fail
    refine (lives _).mono ?_
    rintro e w5 ⟨rfl, g5⟩
    have B5 := Lib.hid (bthen (below_drewN (below_new B3.out _) _) g5)
    clear g5
    go_wp2
    go_ret
    exact ⟨rfl, B5.out⟩

set_option maxHeartbeats 1000000 in
theorem backNo1 (l s d t x : Int) (l0 : 0 ≤ l) (l1 : l < 256) (s0 : 0 ≤ s) (d0 : 0 ≤ d) (t0 : 0 ≤ t) (x0 : 0 ≤ x) (x1 : x < 4294967296) (h1 : 3 < s) (w : World) :
    Calls Try.prog 4 #[.agg #[.int .u8 l, .int .u8 s, .int .u32 d, .int .u8 t], .int .u32 x] w fun e w' => e = .returned (.bool true) ∧ Below w.heap.size w w' := by
  have hE := Lib.hid (show putE s d t = 2 from if_neg (by unfold fits; omega))
  have hN := Lib.hid (show putN l s d t = 0 from if_neg (by unfold fits; omega))
  go_enter Try.func4, Try.ntmps4
  go_wp2_with fail
  refine (put l s d t l0 l1 s0 d0 t0 _).mono ?_
  rw [hE.out, hN.out]
  clear hE hN
  rintro e w1 ⟨rfl, g1⟩
  obtain ⟨c0, c1, c2, c3⟩ := cells4 g1
  have B2 := Lib.hid (bthen (below_new (Below.refl _ _) _) g1)
  clear g1
  have d1 : decide (s < 4) = false := decide_eq_false (by omega)
  by_cases ho : oddB x = true
  · have hx := forth x x0 x1 ho
    have hfit := Lib.hid (show putE (gs x) (gd x) (gt x) = 0 from if_pos hx.1)
    have hput := Lib.hid hx.2
    have hE := Lib.hid (show gE x = 0 from if_pos ho)
    have gi := got_in x
    clear hx
    go_wp2_with fail
    refine (get x x0 x1 _).mono ?_
    rw [hE.out]
    rintro e w3 ⟨rfl, g3⟩
    have B3 := Lib.hid (bthen B2.out g3)
    clear g3
    go_wp2_with fail
    refine (put (gl x) (gs x) (gd x) (gt x) (by omega) (by omega) (by omega) (by omega) (by omega) _).mono ?_
    rw [hfit.out, hput.out]
    rintro e w4 ⟨rfl, g4⟩
    have B4 := Lib.hid (bthen (below_new B3.out _) g4)
    clear g4
    go_wp2_with fail
    refine (lives _).mono ?_
    rintro e w5 ⟨rfl, g5⟩
    have B5 := Lib.hid (bthen B4.out g5)
    clear g5
    go_wp2
    go_ret
    exact ⟨rfl, B5.out⟩
  · have ho' : oddB x = false := by simpa using ho
    clear ho
    go_wp2_with fail
    refine (get_no x x0 x1 ho' _).mono ?_
    rintro e w3 ⟨rfl, g3⟩
    have B3 := Lib.hid (bthen B2.out g3)
    clear g3
    go_wp2_with fail
    refine (odd x x0 x1 _).mono ?_
    rintro e w4 ⟨rfl, m, rfl⟩
    go_wp2_with fail
    refine (lives _).mono ?_
    rintro e w5 ⟨rfl, g5⟩
    have B5 := Lib.hid (bthen (below_drewN (below_new B3.out _) _) g5)
    clear g5
    go_wp2
    go_ret
    exact ⟨rfl, B5.out⟩

set_option maxHeartbeats 1000000 in
theorem backNo2 (l s d t x : Int) (l0 : 0 ≤ l) (l1 : l < 256) (s0 : 0 ≤ s) (d0 : 0 ≤ d) (t0 : 0 ≤ t) (x0 : 0 ≤ x) (x1 : x < 4294967296) (h1 : s ≤ 3) (h2 : 3 < t) (w : World) :
    Calls Try.prog 4 #[.agg #[.int .u8 l, .int .u8 s, .int .u32 d, .int .u8 t], .int .u32 x] w fun e w' => e = .returned (.bool true) ∧ Below w.heap.size w w' := by
  have hE := Lib.hid (show putE s d t = 2 from if_neg (by unfold fits; omega))
  have hN := Lib.hid (show putN l s d t = 0 from if_neg (by unfold fits; omega))
  go_enter Try.func4, Try.ntmps4
  go_wp2_with fail
  refine (put l s d t l0 l1 s0 d0 t0 _).mono ?_
  rw [hE.out, hN.out]
  clear hE hN
  rintro e w1 ⟨rfl, g1⟩
  obtain ⟨c0, c1, c2, c3⟩ := cells4 g1
  have B2 := Lib.hid (bthen (below_new (Below.refl _ _) _) g1)
  clear g1
  have d1 : decide (s < 4) = true := decide_eq_true (by omega)
  have d2 : decide (t < 4) = false := decide_eq_false (by omega)
  by_cases ho : oddB x = true
  · have hx := forth x x0 x1 ho
    have hfit := Lib.hid (show putE (gs x) (gd x) (gt x) = 0 from if_pos hx.1)
    have hput := Lib.hid hx.2
    have hE := Lib.hid (show gE x = 0 from if_pos ho)
    have gi := got_in x
    clear hx
    go_wp2_with fail
    refine (get x x0 x1 _).mono ?_
    rw [hE.out]
    rintro e w3 ⟨rfl, g3⟩
    have B3 := Lib.hid (bthen B2.out g3)
    clear g3
    go_wp2_with fail
    refine (put (gl x) (gs x) (gd x) (gt x) (by omega) (by omega) (by omega) (by omega) (by omega) _).mono ?_
    rw [hfit.out, hput.out]
    rintro e w4 ⟨rfl, g4⟩
    have B4 := Lib.hid (bthen (below_new B3.out _) g4)
    clear g4
    go_wp2_with fail
    refine (lives _).mono ?_
    rintro e w5 ⟨rfl, g5⟩
    have B5 := Lib.hid (bthen B4.out g5)
    clear g5
    go_wp2
    go_ret
    exact ⟨rfl, B5.out⟩
  · have ho' : oddB x = false := by simpa using ho
    clear ho
    go_wp2_with fail
    refine (get_no x x0 x1 ho' _).mono ?_
    rintro e w3 ⟨rfl, g3⟩
    have B3 := Lib.hid (bthen B2.out g3)
    clear g3
    go_wp2_with fail
    refine (odd x x0 x1 _).mono ?_
    rintro e w4 ⟨rfl, m, rfl⟩
    go_wp2_with fail
    refine (lives _).mono ?_
    rintro e w5 ⟨rfl, g5⟩
    have B5 := Lib.hid (bthen (below_drewN (below_new B3.out _) _) g5)
    clear g5
    go_wp2
    go_ret
    exact ⟨rfl, B5.out⟩

set_option maxHeartbeats 1000000 in
theorem backNo3 (l s d t x : Int) (l0 : 0 ≤ l) (l1 : l < 256) (s0 : 0 ≤ s) (d0 : 0 ≤ d) (t0 : 0 ≤ t) (x0 : 0 ≤ x) (x1 : x < 4294967296) (h1 : s ≤ 3) (h2 : t ≤ 3) (h3 : 524287 < d) (w : World) :
    Calls Try.prog 4 #[.agg #[.int .u8 l, .int .u8 s, .int .u32 d, .int .u8 t], .int .u32 x] w fun e w' => e = .returned (.bool true) ∧ Below w.heap.size w w' := by
  have hE := Lib.hid (show putE s d t = 2 from if_neg (by unfold fits; omega))
  have hN := Lib.hid (show putN l s d t = 0 from if_neg (by unfold fits; omega))
  go_enter Try.func4, Try.ntmps4
  go_wp2_with fail
  refine (put l s d t l0 l1 s0 d0 t0 _).mono ?_
  rw [hE.out, hN.out]
  clear hE hN
  rintro e w1 ⟨rfl, g1⟩
  obtain ⟨c0, c1, c2, c3⟩ := cells4 g1
  have B2 := Lib.hid (bthen (below_new (Below.refl _ _) _) g1)
  clear g1
  have d1 : decide (s < 4) = true := decide_eq_true (by omega)
  have d2 : decide (t < 4) = true := decide_eq_true (by omega)
  have d3 : decide (d < 524288) = false := decide_eq_false (by omega)
  by_cases ho : oddB x = true
  · have hx := forth x x0 x1 ho
    have hfit := Lib.hid (show putE (gs x) (gd x) (gt x) = 0 from if_pos hx.1)
    have hput := Lib.hid hx.2
    have hE := Lib.hid (show gE x = 0 from if_pos ho)
    have gi := got_in x
    clear hx
    go_wp2_with fail
    refine (get x x0 x1 _).mono ?_
    rw [hE.out]
    rintro e w3 ⟨rfl, g3⟩
    have B3 := Lib.hid (bthen B2.out g3)
    clear g3
    go_wp2_with fail
    refine (put (gl x) (gs x) (gd x) (gt x) (by omega) (by omega) (by omega) (by omega) (by omega) _).mono ?_
    rw [hfit.out, hput.out]
    rintro e w4 ⟨rfl, g4⟩
    have B4 := Lib.hid (bthen (below_new B3.out _) g4)
    clear g4
    go_wp2_with fail
    refine (lives _).mono ?_
    rintro e w5 ⟨rfl, g5⟩
    have B5 := Lib.hid (bthen B4.out g5)
    clear g5
    go_wp2
    go_ret
    exact ⟨rfl, B5.out⟩
  · have ho' : oddB x = false := by simpa using ho
    clear ho
    go_wp2_with fail
    refine (get_no x x0 x1 ho' _).mono ?_
    rintro e w3 ⟨rfl, g3⟩
    have B3 := Lib.hid (bthen B2.out g3)
    clear g3
    go_wp2_with fail
    refine (odd x x0 x1 _).mono ?_
    rintro e w4 ⟨rfl, m, rfl⟩
    go_wp2_with fail
    refine (lives _).mono ?_
    rintro e w5 ⟨rfl, g5⟩
    have B5 := Lib.hid (bthen (below_drewN (below_new B3.out _) _) g5)
    clear g5
    go_wp2
    go_ret
    exact ⟨rfl, B5.out⟩

theorem backLaw (l s d t x : Int) (l0 : 0 ≤ l) (l1 : l < 256) (s0 : 0 ≤ s) (d0 : 0 ≤ d) (t0 : 0 ≤ t) (x0 : 0 ≤ x) (x1 : x < 4294967296) (w : World) :
    Calls Try.prog 4 #[.agg #[.int .u8 l, .int .u8 s, .int .u32 d, .int .u8 t], .int .u32 x] w fun e w' => e = .returned (.bool true) ∧ Below w.heap.size w w' := by
  by_cases h1 : s ≤ 3
  · by_cases h2 : t ≤ 3
    · by_cases h3 : d < 524288
      · exact backYes l s d t x l0 l1 s0 d0 t0 x0 x1 ⟨h1, h2, h3⟩ w
      · exact backNo3 l s d t x l0 l1 s0 d0 t0 x0 x1 h1 h2 (by omega) w
    · exact backNo2 l s d t x l0 l1 s0 d0 t0 x0 x1 h1 (by omega) w
  · exact backNo1 l s d t x l0 l1 s0 d0 t0 x0 x1 (by omega) w

/-- One bit changed: the parity turns. -/
theorem flip (x : Int) (k : Nat) (x0 : 0 ≤ x) (x1 : x < 4294967296) (hk : k < 32) :
    0 ≤ bits .xor .u32 x (2 ^ k % 4294967296) ∧ bits .xor .u32 x (2 ^ k % 4294967296) < 4294967296 ∧ oddB (bits .xor .u32 x (2 ^ k % 4294967296)) = !oddB x := by
  obtain ⟨n, rfl⟩ := Int.eq_ofNat_of_zero_le x0
  have hn : n < 4294967296 := by omega
  have hp : 2 ^ k < 4294967296 := Nat.pow_lt_pow_right (a := 2) (m := k) (n := 32) (by decide) hk
  have e : (2 : Int) ^ k % 4294967296 = ((2 ^ k : Nat) : Int) := by
    have c : (2 : Int) ^ k = ((2 ^ k : Nat) : Int) := by simp
    rw [c]
    generalize (2 ^ k : Nat) = p at hp ⊢
    omega
  have hl : n ^^^ 2 ^ k < 4294967296 := Nat.xor_lt_two_pow (n := 32) hn hp
  rw [e, u32_xor_nat n (2 ^ k) hn hp]
  refine ⟨Int.natCast_nonneg _, Int.ofNat_lt.2 hl, ?_⟩
  have f := ones_flip 32 k n hk
  unfold oddB
  rw [Int.toNat_natCast, Int.toNat_natCast, f]
  generalize ones 32 n = j
  rw [Bool.eq_iff_iff]; simp; omega

/-- A byte's bits stand the other way round. -/
theorem bits_fin : ∀ n : Fin 256, ∀ k : Fin 8, (n.val : Int) / 2 ^ k.val % 2 = tn (n.val : Int) / 2 ^ (7 - k.val) % 2 := by decide +kernel
theorem turn_bits (b : Int) (k : Nat) (b0 : 0 ≤ b) (b1 : b < 256) (hk : k < 8) : (b / 2 ^ k % 2 != tn b / 2 ^ (7 - k) % 2) = false := by
  have e : b / 2 ^ k % 2 = tn b / 2 ^ (7 - k) % 2 := of_fin (f := fun b => b / 2 ^ k % 2) (g := fun b => tn b / 2 ^ (7 - k) % 2) (fun n => bits_fin n ⟨k, hk⟩) b b0 b1
  rw [e]; simp

set_option maxHeartbeats 1000000 in
theorem bitLaw (x b : Int) (x0 : 0 ≤ x) (x1 : x < 4294967296) (b0 : 0 ≤ b) (b1 : b < 256) (w : World) :
    Calls Try.prog 5 #[.int .u32 x, .int .u8 b] w fun e w' => e = .returned (.bool true) ∧ Below w.heap.size w w' := by
  go_enter Try.func5, Try.ntmps5
  go_wp2_with fail
  refine (get x x0 x1 _).mono ?_
  rintro e w1 ⟨rfl, g1⟩
  have B1 := Lib.hid g1
  have hf := Lib.hid (flip x (b % 32).toNat x0 x1 (by omega))
  clear g1
  go_wp2_with fail
  generalize bits .xor .u32 x (2 ^ (b % 32).toNat % 4294967296) = y at hf ⊢
  refine (get y hf.out.1 hf.out.2.1 _).mono ?_
  have hE : (gE x = 0 ∧ gE y = 6) ∨ (gE x = 6 ∧ gE y = 0) := by
    have h2 := hf.out.2.2
    unfold gE
    cases h : oddB x <;> rw [h] at h2 <;> rw [h2] <;> simp
  rintro e w2 ⟨rfl, g2⟩
  have B2 := Lib.hid (bthen (below_new B1.out _) g2)
  clear g2
  generalize gE x = p at hE ⊢
  generalize gE y = q at hE ⊢
  rcases hE with ⟨rfl, rfl⟩ | ⟨rfl, rfl⟩
  all_goals
    go_wp2_with fail
    refine (lives _).mono ?_
    rintro e w3 ⟨rfl, g3⟩
    have B3 := Lib.hid (bthen (below_new B2.out _) g3)
    clear g3
    go_wp2
    go_ret
    exact ⟨rfl, B3.out⟩

set_option maxHeartbeats 1000000 in
theorem turnLaw (b : Int) (b0 : 0 ≤ b) (b1 : b < 256) (w : World) :
    Calls Try.prog 6 #[.int .u8 b] w fun e w' => e = .returned (.bool true) ∧ Below w.heap.size w w' := by
  have n0 := tn_lo b
  have n1 := tn_hi b
  go_enter Try.func6, Try.ntmps6
  go_wp2_with fail
  refine (turn b b0 b1 _).mono ?_
  rintro e w1 ⟨rfl, rfl⟩
  go_wp2_with fail
  go_loop [4] (fun i => ∃ k : Nat, k ≤ 8 ∧ i = .int .i64 k) (fun i => 8 - (intOf i).toNat)
  case atStart => exact ⟨0, Nat.zero_le _, rfl⟩
  case round =>
    obtain ⟨k, hk, rfl⟩ := hrel
    by_cases hlt : k < 8
    · have hb := turn_bits b k b0 b1 hlt
      go_wp2
      go_round
      case rel => exact ⟨k + 1, by omega, by go_num⟩
      case measure => simp [intOf]; omega
    · obtain rfl : k = 8 := by omega
      have tt := Lib.hid (tn_tn b b0 b1)
      go_wp2_with fail
      refine (turn (tn b) n0 n1 _).mono ?_
      rw [tt.out]
      rintro e w1 ⟨rfl, rfl⟩
      go_wp2_with fail
      refine (lives _).mono ?_
      rintro e w2 ⟨rfl, g2⟩
      go_wp2
      go_ret
      exact ⟨rfl, g2⟩

end Go.Proofs.Ytghbjnbddafobaa.Word
