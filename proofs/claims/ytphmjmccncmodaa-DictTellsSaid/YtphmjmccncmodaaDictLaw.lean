/- DictOne walked: it returns true for every label and every signal. Conditions: none. -/
import Derived.Test.YtphmjmccncmodaaDictLives
namespace Go.Proofs.Ytphmjmccncmodaa.Dict
open Go.ChangeShapes Go.WideShapes Go.ChangeAt Go.RowKit Num

theorem kind_yes {l : Int} (h : kIs l = true) : sL (kS l) = l ∧ sIs (kS l) = true := by
  simp only [kIs, decide_eq_true_eq] at h
  rcases h with rfl | rfl | rfl | rfl <;> exact ⟨rfl, rfl⟩
theorem kind_no {l : Int} (h : kIs l = false) : kS l = 0 ∧ kLo l = 0 ∧ kHi l = 0 ∧ kAp l = 0 := by
  simp only [kIs, decide_eq_false_iff_not, not_or] at h
  obtain ⟨a, b, c, d⟩ := h
  simp [kS, kLo, kHi, kAp, a, b, c, d]
theorem sig_yes {s : Int} (h : sIs s = true) : kS (sL s) = s ∧ kIs (sL s) = true ∧ kLo (sL s) < kHi (sL s) ∧ 0 < kAp (sL s) ∧ 0 ≤ s ∧ s < 4 := by
  simp only [sIs, decide_eq_true_eq] at h
  have : s = 0 ∨ s = 1 ∨ s = 2 ∨ s = 3 := by omega
  rcases this with rfl | rfl | rfl | rfl <;> decide
theorem sig_out {s : Int} (h : sIs s = false) : (decide (0 ≤ s) && decide (s < 4)) = false := by
  simp only [sIs, decide_eq_false_iff_not] at h
  by_cases g : 0 ≤ s <;> simp [g]; omega

set_option maxRecDepth 100000 in
set_option maxHeartbeats 4000000 in
theorem one_fa (l s : Int) (w : World) (hl : kIs l = false) (hs : sIs s = true) :
    Calls Try.prog 4 #[.int .u8 l, .int .i64 s] w fun e w' => e = .returned (.bool true) ∧ Below w.heap.size w w' := by
  have HL := Lib.hid hl
  have HS := Lib.hid hs
  clear hl hs
  go_enter Try.func4, Try.ntmps4
  go_wp2_with fail
  refine (find l _).mono ?_
  rintro e w1 ⟨rfl, b1⟩
  have B1 := Lib.hid b1
  clear b1
  rw [HL.out]
  unfold kA
  rw [(kind_no HL.out).1, (kind_no HL.out).2.1, (kind_no HL.out).2.2.1, (kind_no HL.out).2.2.2]
  go_wp2_with fail
  refine (label _ _).mono ?_
  rintro e w2 ⟨rfl, b2⟩
  obtain ⟨k0, k1, k2, k3⟩ := box_cells (box_new b2)
  have B2 := Lib.hid (bthen B1.out (below_alloc b2))
  clear b2 B1
  go_wp2_with fail
  refine (label s _).mono ?_
  rintro e w3 ⟨rfl, b3⟩
  have B3 := Lib.hid (bthen B2.out b3)
  clear b3 B2 k0 k1 k2 k3
  rw [HS.out]
  go_wp2_with fail
  refine (find (sL s) _).mono ?_
  rintro e w4 ⟨rfl, b4⟩
  have B4 := Lib.hid (bthen B3.out b4)
  clear b4 B3
  obtain ⟨q1, q2, q3, q4, q5, q6⟩ := sig_yes HS.out
  have Q := Lib.hid q1
  have Q2 := Lib.hid q2
  unfold kA
  rw [q1, q2]
  clear q1 q2
  obtain ⟨lo, hlo⟩ : ∃ a, a = kLo (sL s) := ⟨_, rfl⟩
  obtain ⟨hi, hhi⟩ : ∃ a, a = kHi (sL s) := ⟨_, rfl⟩
  obtain ⟨ap, hap⟩ : ∃ a, a = kAp (sL s) := ⟨_, rfl⟩
  have V := Lib.hid (And.intro hlo (And.intro hhi hap))
  rw [← hlo, ← hhi] at q3
  rw [← hap] at q4
  rw [← hlo, ← hhi, ← hap]
  clear hlo hhi hap
  go_wp2_with fail
  refine (kindOf s _).mono ?_
  rintro e w5 ⟨rfl, b5⟩
  obtain ⟨k0, k1, k2, k3⟩ := box_cells (box_new b5)
  have hz := box_lt (box_new b5)
  have B5 := Lib.hid (bthen B4.out (below_alloc b5))
  clear b5 B4
  unfold kA
  rw [Q.out, Q2.out, ← V.out.1, ← V.out.2.1, ← V.out.2.2]
  go_wp2_with fail
  refine (lives _).mono ?_
  rintro e w6 ⟨rfl, b6⟩
  have B6 := Lib.hid (bthen B5.out (below_alloc b6))
  clear b6 B5
  go_wp2
  go_ret
  exact ⟨rfl, B6.out⟩

set_option maxRecDepth 100000 in
set_option maxHeartbeats 4000000 in
theorem one_fb (l s : Int) (w : World) (hl : kIs l = false) (hs : sIs s = false) (ho : s < 0) :
    Calls Try.prog 4 #[.int .u8 l, .int .i64 s] w fun e w' => e = .returned (.bool true) ∧ Below w.heap.size w w' := by
  have HL := Lib.hid hl
  have HS := Lib.hid hs
  clear hl hs
  go_enter Try.func4, Try.ntmps4
  go_wp2_with fail
  refine (find l _).mono ?_
  rintro e w1 ⟨rfl, b1⟩
  have B1 := Lib.hid b1
  clear b1
  rw [HL.out]
  unfold kA
  rw [(kind_no HL.out).1, (kind_no HL.out).2.1, (kind_no HL.out).2.2.1, (kind_no HL.out).2.2.2]
  go_wp2_with fail
  refine (label _ _).mono ?_
  rintro e w2 ⟨rfl, b2⟩
  obtain ⟨k0, k1, k2, k3⟩ := box_cells (box_new b2)
  have B2 := Lib.hid (bthen B1.out (below_alloc b2))
  clear b2 B1
  go_wp2_with fail
  refine (label s _).mono ?_
  rintro e w3 ⟨rfl, b3⟩
  have B3 := Lib.hid (bthen B2.out b3)
  clear b3 B2 k0 k1 k2 k3
  rw [HS.out]
  go_wp2_with fail
  refine (find (sL s) _).mono ?_
  rintro e w4 ⟨rfl, b4⟩
  have B4 := Lib.hid (bthen B3.out b4)
  clear b4 B3
  unfold kA
  go_wp2_with fail
  refine (kindOf s _).mono ?_
  rintro e w5 ⟨rfl, b5⟩
  have B5 := Lib.hid (bthen B4.out (below_alloc b5))
  clear b5 B4
  rw [show kIs (sL s) = false from by rw [sig_no HS.out]; rfl]
  unfold kA
  go_wp2_with fail
  refine (lives _).mono ?_
  rintro e w6 ⟨rfl, b6⟩
  have B6 := Lib.hid (bthen B5.out (below_alloc b6))
  clear b6 B5
  go_wp2
  go_ret
  exact ⟨rfl, B6.out⟩

set_option maxRecDepth 100000 in
set_option maxHeartbeats 4000000 in
theorem one_fc (l s : Int) (w : World) (hl : kIs l = false) (hs : sIs s = false) (ho : 4 ≤ s) :
    Calls Try.prog 4 #[.int .u8 l, .int .i64 s] w fun e w' => e = .returned (.bool true) ∧ Below w.heap.size w w' := by
  have HL := Lib.hid hl
  have HS := Lib.hid hs
  clear hl hs
  go_enter Try.func4, Try.ntmps4
  go_wp2_with fail
  refine (find l _).mono ?_
  rintro e w1 ⟨rfl, b1⟩
  have B1 := Lib.hid b1
  clear b1
  rw [HL.out]
  unfold kA
  rw [(kind_no HL.out).1, (kind_no HL.out).2.1, (kind_no HL.out).2.2.1, (kind_no HL.out).2.2.2]
  go_wp2_with fail
  refine (label _ _).mono ?_
  rintro e w2 ⟨rfl, b2⟩
  obtain ⟨k0, k1, k2, k3⟩ := box_cells (box_new b2)
  have B2 := Lib.hid (bthen B1.out (below_alloc b2))
  clear b2 B1
  go_wp2_with fail
  refine (label s _).mono ?_
  rintro e w3 ⟨rfl, b3⟩
  have B3 := Lib.hid (bthen B2.out b3)
  clear b3 B2 k0 k1 k2 k3
  rw [HS.out]
  go_wp2_with fail
  refine (find (sL s) _).mono ?_
  rintro e w4 ⟨rfl, b4⟩
  have B4 := Lib.hid (bthen B3.out b4)
  clear b4 B3
  unfold kA
  go_wp2_with fail
  refine (kindOf s _).mono ?_
  rintro e w5 ⟨rfl, b5⟩
  have B5 := Lib.hid (bthen B4.out (below_alloc b5))
  clear b5 B4
  rw [show kIs (sL s) = false from by rw [sig_no HS.out]; rfl]
  unfold kA
  go_wp2_with fail
  refine (lives _).mono ?_
  rintro e w6 ⟨rfl, b6⟩
  have B6 := Lib.hid (bthen B5.out (below_alloc b6))
  clear b6 B5
  go_wp2
  go_ret
  exact ⟨rfl, B6.out⟩

set_option maxRecDepth 100000 in
set_option maxHeartbeats 4000000 in
theorem one_ta (l s : Int) (w : World) (hl : kIs l = true) (hs : sIs s = true) :
    Calls Try.prog 4 #[.int .u8 l, .int .i64 s] w fun e w' => e = .returned (.bool true) ∧ Below w.heap.size w w' := by
  have HL := Lib.hid hl
  have HS := Lib.hid hs
  clear hl hs
  go_enter Try.func4, Try.ntmps4
  go_wp2_with fail
  refine (find l _).mono ?_
  rintro e w1 ⟨rfl, b1⟩
  have B1 := Lib.hid b1
  clear b1
  rw [HL.out]
  unfold kA
  go_wp2_with fail
  refine (labelAt _ l true (kind_yes HL.out) _).mono ?_
  rintro e w2 ⟨rfl, b2⟩
  obtain ⟨k0, k1, k2, k3⟩ := box_cells (box_new b2)
  have B2 := Lib.hid (bthen B1.out (below_alloc b2))
  clear b2 B1
  go_wp2_with fail
  refine (label s _).mono ?_
  rintro e w3 ⟨rfl, b3⟩
  have B3 := Lib.hid (bthen B2.out b3)
  clear b3 B2 k0 k1 k2 k3
  rw [HS.out]
  go_wp2_with fail
  refine (find (sL s) _).mono ?_
  rintro e w4 ⟨rfl, b4⟩
  have B4 := Lib.hid (bthen B3.out b4)
  clear b4 B3
  obtain ⟨q1, q2, q3, q4, q5, q6⟩ := sig_yes HS.out
  have Q := Lib.hid q1
  have Q2 := Lib.hid q2
  unfold kA
  rw [q1, q2]
  clear q1 q2
  obtain ⟨lo, hlo⟩ : ∃ a, a = kLo (sL s) := ⟨_, rfl⟩
  obtain ⟨hi, hhi⟩ : ∃ a, a = kHi (sL s) := ⟨_, rfl⟩
  obtain ⟨ap, hap⟩ : ∃ a, a = kAp (sL s) := ⟨_, rfl⟩
  have V := Lib.hid (And.intro hlo (And.intro hhi hap))
  rw [← hlo, ← hhi] at q3
  rw [← hap] at q4
  rw [← hlo, ← hhi, ← hap]
  clear hlo hhi hap
  go_wp2_with fail
  refine (kindOf s _).mono ?_
  rintro e w5 ⟨rfl, b5⟩
  obtain ⟨k0, k1, k2, k3⟩ := box_cells (box_new b5)
  have hz := box_lt (box_new b5)
  have B5 := Lib.hid (bthen B4.out (below_alloc b5))
  clear b5 B4
  unfold kA
  rw [Q.out, Q2.out, ← V.out.1, ← V.out.2.1, ← V.out.2.2]
  go_wp2_with fail
  refine (lives _).mono ?_
  rintro e w6 ⟨rfl, b6⟩
  have B6 := Lib.hid (bthen B5.out (below_alloc b6))
  clear b6 B5
  go_wp2
  go_ret
  exact ⟨rfl, B6.out⟩

set_option maxRecDepth 100000 in
set_option maxHeartbeats 4000000 in
theorem one_tb (l s : Int) (w : World) (hl : kIs l = true) (hs : sIs s = false) (ho : s < 0) :
    Calls Try.prog 4 #[.int .u8 l, .int .i64 s] w fun e w' => e = .returned (.bool true) ∧ Below w.heap.size w w' := by
  have HL := Lib.hid hl
  have HS := Lib.hid hs
  clear hl hs
  go_enter Try.func4, Try.ntmps4
  go_wp2_with fail
  refine (find l _).mono ?_
  rintro e w1 ⟨rfl, b1⟩
  have B1 := Lib.hid b1
  clear b1
  rw [HL.out]
  unfold kA
  go_wp2_with fail
  refine (labelAt _ l true (kind_yes HL.out) _).mono ?_
  rintro e w2 ⟨rfl, b2⟩
  obtain ⟨k0, k1, k2, k3⟩ := box_cells (box_new b2)
  have B2 := Lib.hid (bthen B1.out (below_alloc b2))
  clear b2 B1
  go_wp2_with fail
  refine (label s _).mono ?_
  rintro e w3 ⟨rfl, b3⟩
  have B3 := Lib.hid (bthen B2.out b3)
  clear b3 B2 k0 k1 k2 k3
  rw [HS.out]
  go_wp2_with fail
  refine (find (sL s) _).mono ?_
  rintro e w4 ⟨rfl, b4⟩
  have B4 := Lib.hid (bthen B3.out b4)
  clear b4 B3
  unfold kA
  go_wp2_with fail
  refine (kindOf s _).mono ?_
  rintro e w5 ⟨rfl, b5⟩
  have B5 := Lib.hid (bthen B4.out (below_alloc b5))
  clear b5 B4
  rw [show kIs (sL s) = false from by rw [sig_no HS.out]; rfl]
  unfold kA
  go_wp2_with fail
  refine (lives _).mono ?_
  rintro e w6 ⟨rfl, b6⟩
  have B6 := Lib.hid (bthen B5.out (below_alloc b6))
  clear b6 B5
  go_wp2
  go_ret
  exact ⟨rfl, B6.out⟩

set_option maxRecDepth 100000 in
set_option maxHeartbeats 4000000 in
theorem one_tc (l s : Int) (w : World) (hl : kIs l = true) (hs : sIs s = false) (ho : 4 ≤ s) :
    Calls Try.prog 4 #[.int .u8 l, .int .i64 s] w fun e w' => e = .returned (.bool true) ∧ Below w.heap.size w w' := by
  have HL := Lib.hid hl
  have HS := Lib.hid hs
  clear hl hs
  go_enter Try.func4, Try.ntmps4
  go_wp2_with fail
  refine (find l _).mono ?_
  rintro e w1 ⟨rfl, b1⟩
  have B1 := Lib.hid b1
  clear b1
  rw [HL.out]
  unfold kA
  go_wp2_with fail
  refine (labelAt _ l true (kind_yes HL.out) _).mono ?_
  rintro e w2 ⟨rfl, b2⟩
  obtain ⟨k0, k1, k2, k3⟩ := box_cells (box_new b2)
  have B2 := Lib.hid (bthen B1.out (below_alloc b2))
  clear b2 B1
  go_wp2_with fail
  refine (label s _).mono ?_
  rintro e w3 ⟨rfl, b3⟩
  have B3 := Lib.hid (bthen B2.out b3)
  clear b3 B2 k0 k1 k2 k3
  rw [HS.out]
  go_wp2_with fail
  refine (find (sL s) _).mono ?_
  rintro e w4 ⟨rfl, b4⟩
  have B4 := Lib.hid (bthen B3.out b4)
  clear b4 B3
  unfold kA
  go_wp2_with fail
  refine (kindOf s _).mono ?_
  rintro e w5 ⟨rfl, b5⟩
  have B5 := Lib.hid (bthen B4.out (below_alloc b5))
  clear b5 B4
  rw [show kIs (sL s) = false from by rw [sig_no HS.out]; rfl]
  unfold kA
  go_wp2_with fail
  refine (lives _).mono ?_
  rintro e w6 ⟨rfl, b6⟩
  have B6 := Lib.hid (bthen B5.out (below_alloc b6))
  clear b6 B5
  go_wp2
  go_ret
  exact ⟨rfl, B6.out⟩

theorem oneLaw (l s : Int) (w : World) :
    Calls Try.prog 4 #[.int .u8 l, .int .i64 s] w fun e w' => e = .returned (.bool true) ∧ Below w.heap.size w w' := by
  cases hl : kIs l
  all_goals cases hs : sIs s
  all_goals first
    | exact one_fa l s w hl hs
    | exact one_ta l s w hl hs
    | (have ho : s < 0 ∨ 4 ≤ s := by simp only [sIs, decide_eq_false_iff_not] at hs; omega
       rcases ho with ho | ho
       · first | exact one_fb l s w hl hs ho | exact one_tb l s w hl hs ho
       · first | exact one_fc l s w hl hs ho | exact one_tc l s w hl hs ho)

end Go.Proofs.Ytphmjmccncmodaa.Dict
