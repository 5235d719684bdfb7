/- Contracts of layer 3 (lag) and of the document's own answers for it: each call returns the plain numbers that the definitions below say, and leaves the world as it was. Conditions: the arguments are int64 numbers. -/
import Derived.Test.YtblcejljgmjbcaaNumMul
import Derived.LoopTactic
namespace Go.Proofs.Ytblcejljgmjbcaa.Lag
open Go.ChangeShapes Go.WideShapes Go.ChangeAt Go.RowKit Num

/-- What x and target may be. -/
def Be (x : Int) : Prop := -1099511627776 ≤ x ∧ x ≤ 1099511627776
/-- Whether it may be asked. -/
def May (x t k : Int) : Prop := Be x ∧ Be t ∧ 1 ≤ k ∧ k ≤ 1024
instance (x : Int) : Decidable (Be x) := by unfold Be; exact inferInstance
instance (x t k : Int) : Decidable (May x t k) := by unfold May; exact inferInstance
theorem Be_In {x : Int} (h : Be x) : In x := ⟨by have := h.1; omega, by have := h.2; omega⟩

/-- The step of one Next, by the way that is left. -/
def stp (d k : Int) : Int := if d.tdiv k = 0 then (if 0 < d then 1 else if d < 0 then -1 else 0) else d.tdiv k
/-- One Next. -/
def nxt (x t k : Int) : Int := x + stp (t - x) k

/-- A quotient by a lag: of the way's sign, no further. -/
theorem q_facts (d k : Int) (hk : 1 ≤ k) : (0 ≤ d ∧ 0 ≤ d.tdiv k ∧ d.tdiv k ≤ d) ∨ (d < 0 ∧ d ≤ d.tdiv k ∧ d.tdiv k ≤ 0) := by
  by_cases h : 0 ≤ d
  · left
    refine ⟨h, Int.tdiv_nonneg h (by omega), ?_⟩
    rw [Int.tdiv_eq_ediv_of_nonneg h]
    exact Int.ediv_le_self _ h
  · right
    have e : d.tdiv k = -((-d).tdiv k) := by rw [Int.neg_tdiv]; omega
    have h1 : 0 ≤ (-d).tdiv k := Int.tdiv_nonneg (by omega) (by omega)
    have h2 : (-d).tdiv k ≤ -d := by
      rw [Int.tdiv_eq_ediv_of_nonneg (by omega)]
      exact Int.ediv_le_self _ (by omega)
    omega

/-- One step: towards the target, not past it, and on. -/
theorem stp_facts (d k : Int) (hk : 1 ≤ k) : (d = 0 ∧ stp d k = 0) ∨ (0 < d ∧ 1 ≤ stp d k ∧ stp d k ≤ d) ∨ (d < 0 ∧ d ≤ stp d k ∧ stp d k ≤ -1) := by
  have h := q_facts d k hk
  unfold stp
  split
  · split
    · omega
    · split <;> omega
  · omega

theorem nxt_facts (x t k : Int) (hk : 1 ≤ k) : (x = t ∧ nxt x t k = x) ∨ (x < t ∧ x + 1 ≤ nxt x t k ∧ nxt x t k ≤ t) ∨ (t < x ∧ t ≤ nxt x t k ∧ nxt x t k ≤ x - 1) := by
  have h := stp_facts (t - x) k hk
  unfold nxt
  omega

theorem nxt_Be {x t k : Int} (hx : Be x) (ht : Be t) (hk : 1 ≤ k) : Be (nxt x t k) := by
  have h := nxt_facts x t k hk
  obtain ⟨a, b⟩ := hx; obtain ⟨c, d⟩ := ht
  exact ⟨by omega, by omega⟩

/-- How far a lag goes, whichever side. -/
def strd (d k : Int) : Int := if d.tdiv k = 0 then 1 else if 0 < d.tdiv k then d.tdiv k else -(d.tdiv k)

theorem near_strd (x t k : Int) (hk : 1 ≤ k) : near x t (strd (t - x) k) = nxt x t k := by
  have h := q_facts (t - x) k hk
  unfold nxt stp strd near
  generalize (t - x).tdiv k = q at *
  rw [Int.min_def, Int.max_def]
  repeat' split
  all_goals omega

theorem strd_in {d k : Int} (hk : 1 ≤ k) (h1 : -9223372036854775808 < d) (h2 : d ≤ 9223372036854775807) : In (strd d k) := by
  have h := q_facts d k hk
  unfold strd
  repeat' split
  all_goals exact ⟨by omega, by omega⟩

set_option maxHeartbeats 400000 in
theorem mayBe (x : Int) (w : World) :
    Calls Try.prog 19 #[.int .i64 x] w fun e w' => e = .returned (.bool (decide (Be x))) ∧ w = w' := by
  go_enter Try.func19, Try.ntmps19
  go_wp2
  all_goals
    go_ret
    exact ⟨ret_bool (by first | exact decide_eq_decide.2 (by unfold Be; omega) | exact decide_eq_false (by unfold Be; omega) | exact decide_eq_true (by unfold Be; omega)), rfl⟩

set_option maxHeartbeats 400000 in
theorem rMay (x : Int) (w : World) :
    Calls Try.prog 22 #[.int .i64 x] w fun e w' => e = .returned (.bool (decide (Be x))) ∧ w = w' := by
  go_enter Try.func22, Try.ntmps22
  go_wp2
  all_goals
    go_ret
    exact ⟨ret_bool (by first | exact decide_eq_decide.2 (by unfold Be; omega) | exact decide_eq_false (by unfold Be; omega) | exact decide_eq_true (by unfold Be; omega)), rfl⟩

theorem may_a {x t k : Int} (h : ¬ Be x) : decide (May x t k) = false := decide_eq_false fun q => h q.1
theorem may_b {x t k : Int} (h : ¬ Be t) : decide (May x t k) = false := decide_eq_false fun q => h q.2.1
theorem may_c {x t k : Int} (h : ¬ (1 ≤ k ∧ k ≤ 1024)) : decide (May x t k) = false := decide_eq_false fun q => h q.2.2
theorem may_d {x t k : Int} (hx : Be x) (ht : Be t) (h1 : 1 ≤ k) (h2 : k ≤ 1024) : decide (May x t k) = true := decide_eq_true ⟨hx, ht, h1, h2⟩

set_option maxHeartbeats 400000 in
theorem mayFollow (x t k : Int) (w : World) :
    Calls Try.prog 13 #[.int .i64 x, .int .i64 t, .int .i64 k] w fun e w' => e = .returned (.bool (decide (May x t k))) ∧ w = w' := by
  by_cases hx : Be x
  · have ex := Lib.hid (decide_eq_true hx)
    have hx' := Lib.hid hx
    clear hx
    by_cases ht : Be t
    · have et := Lib.hid (decide_eq_true ht)
      have ht' := Lib.hid ht
      clear ht
      go_enter Try.func13, Try.ntmps13
      go_wp2_with fail
      refine (mayBe _ _).mono ?_
      rintro e w' ⟨rfl, rfl⟩
      rw [ex.out]
      go_wp2_with fail
      refine (mayBe _ _).mono ?_
      rintro e w' ⟨rfl, rfl⟩
      rw [et.out]
      go_wp2
      all_goals
        go_ret
        have h1 := hx'.out
        have h2 := ht'.out
        exact ⟨ret_bool (by first | exact decide_eq_decide.2 ⟨fun q => q.2.2.2, fun q => ⟨h1, h2, by omega, q⟩⟩ | exact may_c (by omega) | exact may_d h1 h2 (by omega) (by omega)), rfl⟩
    · have et := Lib.hid (decide_eq_false ht)
      have ht' := Lib.hid ht
      clear ht
      go_enter Try.func13, Try.ntmps13
      go_wp2_with fail
      refine (mayBe _ _).mono ?_
      rintro e w' ⟨rfl, rfl⟩
      rw [ex.out]
      go_wp2_with fail
      refine (mayBe _ _).mono ?_
      rintro e w' ⟨rfl, rfl⟩
      rw [et.out]
      go_wp2
      go_ret
      exact ⟨ret_bool (may_b ht'.out), rfl⟩
  · have ex := Lib.hid (decide_eq_false hx)
    have hx' := Lib.hid hx
    clear hx
    go_enter Try.func13, Try.ntmps13
    go_wp2_with fail
    refine (mayBe _ _).mono ?_
    rintro e w' ⟨rfl, rfl⟩
    rw [ex.out]
    go_wp2
    go_ret
    exact ⟨ret_bool (may_a hx'.out), rfl⟩

set_option maxHeartbeats 400000 in
theorem rmay (x t k : Int) (w : World) :
    Calls Try.prog 15 #[.int .i64 x, .int .i64 t, .int .i64 k] w fun e w' => e = .returned (.bool (decide (May x t k))) ∧ w = w' := by
  by_cases hk : 1 ≤ k ∧ k ≤ 1024
  · obtain ⟨k1, k2⟩ := hk
    by_cases hx : Be x
    · have ex := Lib.hid (decide_eq_true hx)
      have hx' := Lib.hid hx
      clear hx
      go_enter Try.func15, Try.ntmps15
      go_wp2_with fail
      refine (rMay _ _).mono ?_
      rintro e w' ⟨rfl, rfl⟩
      rw [ex.out]
      go_wp2_with fail
      refine (rMay _ _).mono ?_
      rintro e w' ⟨rfl, rfl⟩
      go_wp2
      all_goals
        go_ret
        refine ⟨ret_bool ?_, rfl⟩
        have h1 := hx'.out
        simp_all [May]
    · have ex := Lib.hid (decide_eq_false hx)
      have hx' := Lib.hid hx
      clear hx
      go_enter Try.func15, Try.ntmps15
      go_wp2_with fail
      refine (rMay _ _).mono ?_
      rintro e w' ⟨rfl, rfl⟩
      rw [ex.out]
      go_wp2
      go_ret
      exact ⟨ret_bool (may_a hx'.out), rfl⟩
  · by_cases k1 : 1 ≤ k
    · have k2 : 1024 < k := by omega
      go_enter Try.func15, Try.ntmps15
      go_wp2
      go_ret
      exact ⟨ret_bool (may_c hk), rfl⟩
    · have k2 : k < 1 := by omega
      go_enter Try.func15, Try.ntmps15
      go_wp2
      go_ret
      exact ⟨ret_bool (may_c hk), rfl⟩

set_option maxHeartbeats 400000 in
theorem stride (d k : Int) (w : World) (h1 : -9223372036854775808 < d) (h2 : d ≤ 9223372036854775807) (hk : 1 ≤ k) :
    Calls Try.prog 20 #[.int .i64 d, .int .i64 k] w fun e w' => e = .returned (.int .i64 (strd d k)) ∧ w = w' := by
  have hq := q_facts d k hk
  have hd : Hid (In d) := Lib.hid ⟨by omega, by omega⟩
  have en : Hid (divN d k = d.tdiv k) := Lib.hid (divN_n (by omega) (by omega))
  have es : Hid (strd d k = _) := Lib.hid (by unfold strd; rfl)
  go_enter Try.func20, Try.ntmps20
  go_wp2_with fail
  refine (div _ _ _ hd.out).mono ?_
  rintro e w' ⟨rfl, rfl⟩
  rw [en.out]
  generalize divE d k = er
  generalize hqe : d.tdiv k = q at *
  have es' : Hid (strd d k = if q = 0 then 1 else if 0 < q then q else -q) := Lib.hid (by unfold strd; rw [hqe])
  clear es hqe
  have hq1 : -9223372036854775808 < q := by omega
  have hq2 : q ≤ 9223372036854775807 := by omega
  clear hq
  rcases (show q = 0 ∨ 0 < q ∨ q < 0 by omega) with rfl | c | c
  · go_wp2
    go_ret
    exact ⟨ret_int (by rw [es'.out]; rfl), rfl⟩
  · have c0 : (q == 0) = false := by simp; omega
    go_wp2
    go_ret
    exact ⟨ret_int (by rw [es'.out, if_neg (by omega), if_pos c]), rfl⟩
  · have c0 : (q == 0) = false := by simp; omega
    go_wp2
    go_ret
    exact ⟨ret_int (by rw [es'.out, if_neg (by omega), if_neg (by omega)]), rfl⟩

set_option maxHeartbeats 400000 in
theorem follow (x t k : Int) (w : World) (hx : Be x) (ht : Be t) (hk : 1 ≤ k) :
    Calls Try.prog 14 #[.int .i64 x, .int .i64 t, .int .i64 k] w fun e w' => e = .returned (.int .i64 (nxt x t k)) ∧ w = w' := by
  have hx' := Lib.hid (Be_In hx)
  have ht' := Lib.hid (Be_In ht)
  obtain ⟨x1, x2⟩ := hx
  obtain ⟨t1, t2⟩ := ht
  have hs : Hid (sat (t - x) = t - x) := Lib.hid (sat_in (by omega) (by omega))
  go_enter Try.func14, Try.ntmps14
  go_wp2_with fail
  refine (sub _ _ _ ht'.out hx'.out).mono ?_
  rintro e w' ⟨rfl, rfl⟩
  rw [hs.out]
  go_wp2_with fail
  refine (stride _ _ _ (by omega) (by omega) hk).mono ?_
  rintro e w' ⟨rfl, rfl⟩
  go_wp2_with fail
  refine (nearC _ _ _ _ hx'.out ht'.out (strd_in hk (by omega) (by omega))).mono ?_
  rintro e w' ⟨rfl, rfl⟩
  rw [near_strd _ _ _ hk]
  go_wp2
  go_ret
  exact ⟨rfl, rfl⟩

set_option maxHeartbeats 800000 in
theorem rnext (x t k : Int) (w : World) (hx : Be x) (ht : Be t) (hk : 1 ≤ k) :
    Calls Try.prog 16 #[.int .i64 x, .int .i64 t, .int .i64 k] w fun e w' => e = .returned (.int .i64 (nxt x t k)) ∧ w = w' := by
  obtain ⟨x1, x2⟩ := hx
  obtain ⟨t1, t2⟩ := ht
  have hq := q_facts (t - x) k hk
  have es : Hid (nxt x t k = _) := Lib.hid (by unfold nxt stp; rfl)
  have k0 : (k == 0) = false := by simp; omega
  have q1 : -2199023255552 ≤ (t - x).tdiv k := by omega
  have q2 : (t - x).tdiv k ≤ 2199023255552 := by omega
  have ew : Hid (wrap64 ((t - x).tdiv k) = (t - x).tdiv k) := Lib.hid (wrap_in _ ⟨by omega, by omega⟩)
  have hq' := Lib.hid hq
  clear hq
  go_enter Try.func16, Try.ntmps16
  go_wp2
  all_goals
    go_ret
    have hq := hq'.out
    refine ⟨ret_int ?_, rfl⟩
    rw [es.out]
    try rw [ew.out] at *
    generalize (t - x).tdiv k = q at *
    simp_all
    try omega
end Go.Proofs.Ytblcejljgmjbcaa.Lag
