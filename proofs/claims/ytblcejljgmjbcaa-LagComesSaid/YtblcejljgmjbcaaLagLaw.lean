/- The walks of the laws LagGoes, LagNears and LagComes: each returns true. Conditions: the arguments are int64 numbers. -/
import Derived.Test.YtblcejljgmjbcaaLagFrames
import Derived.Laws.BitsLemmas
namespace Go.Proofs.Ytblcejljgmjbcaa.Lag
open Go.ChangeShapes Go.WideShapes Go.ChangeAt Go.RowKit Num

set_option maxHeartbeats 800000 in
theorem lives (w : World) :
    Calls Try.prog 12 #[] w fun e w' => e = .returned (.bool true) ∧ w = w' := by
  go_enter Try.func12, Try.ntmps12
  go_wp2_with fail
  refine (next 0 10 4 _).mono ?_
  rintro e w' ⟨rfl, rfl⟩
  rw [show nextN 0 10 4 = 2 by decide, show nextE 0 10 4 = 0 by decide]
  go_wp2_with fail
  refine (next 10 0 4 _).mono ?_
  rintro e w' ⟨rfl, rfl⟩
  rw [show nextN 10 0 4 = 8 by decide, show nextE 10 0 4 = 0 by decide]
  go_wp2_with fail
  refine (next 0 1 0 _).mono ?_
  rintro e w' ⟨rfl, rfl⟩
  rw [show nextN 0 1 0 = 0 by decide, show nextE 0 1 0 = 2 by decide]
  go_wp2_with fail
  refine (framesC 0 10 4 9 _).mono ?_
  rintro e w' ⟨rfl, rfl⟩
  rw [show frames 0 10 4 9 = (8, true) by decide]
  go_wp2_with fail
  refine (framesC 0 10 4 7 _).mono ?_
  rintro e w' ⟨rfl, rfl⟩
  rw [show frames 0 10 4 7 = (0, false) by decide]
  go_wp2_with fail
  refine (limit 0 100 2 7 _ ⟨by omega, by omega⟩).mono ?_
  rintro e w' ⟨rfl, rfl⟩
  rw [show limN 0 100 2 7 = 7 by decide, show limE 0 100 2 7 = 0 by decide]
  go_wp2
  go_ret
  exact ⟨rfl, rfl⟩

set_option maxHeartbeats 1000000 in
theorem goesLaw (x t k s m : Int) (hs : In s) (w : World) :
    Calls Try.prog 3 #[.int .i64 x, .int .i64 t, .int .i64 k, .int .i64 s, .int .i64 m] w fun e w' => e = .returned (.bool true) ∧ w = w' := by
  have hs' := Lib.hid hs
  clear hs
  go_enter Try.func3, Try.ntmps3
  go_wp2_with fail
  refine (next _ _ _ _).mono ?_
  rintro e w' ⟨rfl, rfl⟩
  go_wp2_with fail
  refine (rNext _ _ _ _).mono ?_
  rintro e w' ⟨rfl, rfl⟩
  generalize nextN x t k = a
  generalize nextE x t k = e
  go_wp2_with fail
  refine (limit _ _ _ _ _ hs'.out).mono ?_
  rintro e w' ⟨rfl, rfl⟩
  go_wp2_with fail
  refine (rLimit _ _ _ _ _ hs'.out).mono ?_
  rintro e w' ⟨rfl, rfl⟩
  generalize limN x t k s = c
  generalize limE x t k s = g
  go_wp2_with fail
  refine (framesC _ _ _ _ _).mono ?_
  rintro e w' ⟨rfl, rfl⟩
  go_wp2_with fail
  refine (rframes _ _ _ _ _).mono ?_
  rintro e w' ⟨rfl, rfl⟩
  generalize frames x t k m = p
  obtain ⟨n, is⟩ := p
  cases is
  all_goals
    go_wp2_with fail
    refine (lives _).mono ?_
    rintro e w' ⟨rfl, rfl⟩
    go_wp2
    go_ret
    exact ⟨rfl, rfl⟩

/-- One Limit, in what linear arithmetic can use. -/
theorem near_facts {n : Int} (f t s : Int) (hs : 0 ≤ s) (h : near f t s = n) :
    (f < t ∧ ((n = t ∧ t ≤ f + s) ∨ (n = f + s ∧ f + s < t))) ∨ (t ≤ f ∧ ((n = t ∧ f - s ≤ t) ∨ (n = f - s ∧ t < f - s))) := by
  by_cases d : f < t
  · rw [near_b (by omega) d, Int.min_def] at h; split at h <;> omega
  · rw [near_c (by omega) d, Int.max_def] at h; split at h <;> omega

set_option maxHeartbeats 2000000 in
theorem nearsLaw (x t k s : Int) (hs : In s) (w : World) :
    Calls Try.prog 4 #[.int .i64 x, .int .i64 t, .int .i64 k, .int .i64 s] w fun e w' => e = .returned (.bool true) ∧ w = w' := by
  have hs' := Lib.hid hs
  clear hs
  by_cases h : May x t k
  · have e1 : Hid (nextN x t k = nxt x t k) := Lib.hid (if_pos h)
    have e2 : Hid (nextE x t k = 0) := Lib.hid (if_pos h)
    obtain ⟨⟨x1, x2⟩, ⟨t1, t2⟩, hk, k2⟩ := h
    have h' : Hid (May x t k) := Lib.hid ⟨⟨x1, x2⟩, ⟨t1, t2⟩, hk, k2⟩
    have ha := nxt_facts x t k hk
    have hmi := gmin_cases x t
    have hma := gmax_cases x t
    by_cases c : s < 0
    · have e3 : Hid (limN x t k s = 0) := Lib.hid (if_neg (by omega))
      have e4 : Hid (limE x t k s = 2) := Lib.hid (if_neg (by omega))
      go_enter Try.func4, Try.ntmps4
      go_wp2_with fail
      refine (next _ _ _ _).mono ?_
      rintro e w' ⟨rfl, rfl⟩
      rw [e1.out, e2.out]
      go_wp2_with fail
      refine (limit _ _ _ _ _ hs'.out).mono ?_
      rintro e w' ⟨rfl, rfl⟩
      rw [e3.out, e4.out]
      clear e1 e2 e3 e4 h'
      generalize nxt x t k = a at *
      have a1 : gmin x t ≤ a := by omega
      have a2 : a ≤ gmax x t := by omega
      have a3 : (x = t ∧ a = x) ∨ ((a == x) = false ∧ (x == t) = false) := by
        by_cases q : x = t
        · left; exact ⟨q, by omega⟩
        · right; exact ⟨by simp; omega, by simpa using q⟩
      clear ha hmi hma
      rcases a3 with ⟨rfl, rfl⟩ | ⟨a3, a4⟩
      all_goals
        go_wp2_with fail
        refine (lives _).mono ?_
        rintro e w' ⟨rfl, rfl⟩
        go_wp2
        go_ret
        exact ⟨rfl, rfl⟩
    · have e3 : Hid (limN x t k s = near x (nxt x t k) s) := Lib.hid (if_pos ⟨h'.out, by omega⟩)
      have e4 : Hid (limE x t k s = 0) := Lib.hid (if_pos ⟨h'.out, by omega⟩)
      go_enter Try.func4, Try.ntmps4
      go_wp2_with fail
      refine (next _ _ _ _).mono ?_
      rintro e w' ⟨rfl, rfl⟩
      rw [e1.out, e2.out]
      go_wp2_with fail
      refine (limit _ _ _ _ _ hs'.out).mono ?_
      rintro e w' ⟨rfl, rfl⟩
      rw [e3.out, e4.out]
      clear e1 e2 e3 e4 h'
      generalize nxt x t k = a at *
      generalize hb : near x a s = b
      have hb' := near_facts x a s (by omega) hb
      have hmi' := gmin_cases x a
      have hma' := gmax_cases x a
      have hmm := gmax_cases (b - x) (x - b)
      have a1 : gmin x t ≤ a := by omega
      have a2 : a ≤ gmax x t := by omega
      have a3 : (x = t ∧ a = x) ∨ ((a == x) = false ∧ (x == t) = false) := by
        by_cases q : x = t
        · left; exact ⟨q, by omega⟩
        · right; exact ⟨by simp; omega, by simpa using q⟩
      have b1 : gmin x a ≤ b := by omega
      have b2 : b ≤ gmax x a := by omega
      have b3 : gmax (b - x) (x - b) ≤ s := by omega
      have b5 : -1099511627776 ≤ b := by omega
      have b6 : b ≤ 1099511627776 := by omega
      have b4 : (b == a) = true ∨ ((b == a) = false ∧ (gmax (b - x) (x - b) == s) = true) := by
        by_cases q : b = a
        · left; simp [q]
        · right; exact ⟨by simpa using q, by simp; omega⟩
      clear ha hmi hma hb hb' hmi' hma' hmm
      rcases a3 with ⟨rfl, rfl⟩ | ⟨a3, a4⟩
      all_goals
        rcases b4 with b4 | ⟨b4, b7⟩
      all_goals
        go_wp2_with fail
        refine (lives _).mono ?_
        rintro e w' ⟨rfl, rfl⟩
        go_wp2
        go_ret
        exact ⟨rfl, rfl⟩
  · have e1 : Hid (nextN x t k = 0) := Lib.hid (if_neg h)
    have e2 : Hid (nextE x t k = 2) := Lib.hid (if_neg h)
    have e3 : Hid (limN x t k s = 0) := Lib.hid (if_neg fun q => h q.1)
    have e4 : Hid (limE x t k s = 2) := Lib.hid (if_neg fun q => h q.1)
    clear h
    go_enter Try.func4, Try.ntmps4
    go_wp2_with fail
    refine (next _ _ _ _).mono ?_
    rintro e w' ⟨rfl, rfl⟩
    rw [e1.out, e2.out]
    go_wp2_with fail
    refine (limit _ _ _ _ _ hs'.out).mono ?_
    rintro e w' ⟨rfl, rfl⟩
    rw [e3.out, e4.out]
    go_wp2_with fail
    refine (lives _).mono ?_
    rintro e w' ⟨rfl, rfl⟩
    go_wp2
    go_ret
    exact ⟨rfl, rfl⟩

/-- So many Nexts, one behind the other. -/
def it (t k : Int) : Nat → Int → Int
  | 0, x => x
  | n + 1, x => it t k n (nxt x t k)
theorem it_succ (t k : Int) (n : Nat) (x : Int) : it t k (n + 1) x = nxt (it t k n x) t k := by
  induction n generalizing x with
  | zero => rfl
  | succ n ih => exact ih (nxt x t k)
/-- It takes just m of them. -/
def Hits (t k : Int) (m : Nat) (x : Int) : Prop := it t k m x = t ∧ ∀ i, i < m → it t k i x ≠ t
theorem hits_on {t k : Int} {m : Nat} {x : Int} (hx : x ≠ t) (h : Hits t k m (nxt x t k)) : Hits t k (m + 1) x := by
  refine ⟨h.1, ?_⟩
  intro i hi
  cases i with
  | zero => exact hx
  | succ i => exact h.2 i (by omega)
theorem hits_is (t k : Int) (hk : 1 ≤ k) : ∀ (b : Nat) (x : Int), (t - x).natAbs ≤ b → ∃ m, m ≤ b ∧ Hits t k m x := by
  intro b
  induction b with
  | zero =>
    intro x h
    exact ⟨0, by omega, by show x = t; omega, by intro i hi; omega⟩
  | succ b ih =>
    intro x h
    by_cases hx : x = t
    · exact ⟨0, by omega, hx, by intro i hi; omega⟩
    · have hn := nxt_facts x t k hk
      obtain ⟨m, hm, hh⟩ := ih (nxt x t k) (by omega)
      exact ⟨m + 1, by omega, hits_on hx hh⟩
theorem hits_down {t k : Int} {m : Nat} {x : Int} (h : Hits t k (m + 1) x) : x ≠ t ∧ Hits t k m (nxt x t k) :=
  ⟨h.2 0 (by omega), h.1, fun i hi => h.2 (i + 1) (by omega)⟩
theorem frm_yes {t k : Int} : ∀ (m f n : Nat) (x : Int), Hits t k m x → m < f → frm t k f n x = (((n + m : Nat) : Int), true) := by
  intro m
  induction m with
  | zero =>
    intro f n x h hf
    obtain rfl : x = t := h.1
    rw [show f = (f - 1) + 1 by omega, frm_hit]; rfl
  | succ m ih =>
    intro f n x h hf
    obtain ⟨h1, h2⟩ := hits_down h
    rw [show f = (f - 1) + 1 by omega, frm_on _ _ h1, ih _ _ _ h2 (by omega), show n + 1 + m = n + (m + 1) by omega]
theorem frm_no {t k : Int} : ∀ (f m n : Nat) (x : Int), Hits t k m x → f ≤ m → frm t k f n x = (0, false) := by
  intro f
  induction f with
  | zero => intro m n x h hf; rfl
  | succ f ih =>
    intro m n x h hf
    obtain ⟨m, rfl⟩ : ∃ q, m = q + 1 := ⟨m - 1, by omega⟩
    obtain ⟨h1, h2⟩ := hits_down h
    rw [frm_on _ _ h1]
    exact ih _ _ _ h2 (by omega)
theorem it_Be {t k : Int} (ht : Be t) (hk : 1 ≤ k) : ∀ (n : Nat) (x : Int), Be x → Be (it t k n x) := by
  intro n
  induction n with
  | zero => intro x h; exact h
  | succ n ih => intro x h; exact ih _ (nxt_Be h ht hk)

theorem tmod_bd (a m : Int) (hm : 0 < m) : -m < a.tmod m ∧ a.tmod m < m := by
  have h := Int.natAbs_tmod a m
  have h2 : a.natAbs % m.natAbs < m.natAbs := Nat.mod_lt _ (by omega)
  omega
theorem and_31 (k : Int) : 0 ≤ bits BinOp.and IntKind.i64 k 31 ∧ bits BinOp.and IntKind.i64 k 31 ≤ 31 := by
  have h : ((BitVec.ofInt IntKind.i64.bits k) &&& (BitVec.ofInt IntKind.i64.bits 31)).toNat ≤ 31 := by
    rw [BitVec.toNat_and]; exact Nat.and_le_right
  unfold bits
  simp only []
  rw [IntKind.wrap_i64]
  omega
theorem frames_is {x t k : Int} {m : Nat} (hm : May x t k) (hh : Hits t k m x) (hb : m ≤ 65536) : frames x t k 65536 = ((m : Int), true) := by
  unfold frames
  rw [if_pos ⟨hm, by omega, by omega⟩, frm_yes m _ 0 x hh (by omega), Nat.zero_add]
theorem frames_less {x t k : Int} {m : Nat} (hh : Hits t k m x) : frames x t k ((m : Int) - 1) = (0, false) := by
  unfold frames
  split
  · rename_i h
    exact frm_no _ m 0 x hh (by omega)
  · rfl

set_option maxHeartbeats 2000000 in
theorem comesLaw (x y k : Int) (w : World) :
    Calls Try.prog 5 #[.int .i64 x, .int .i64 y, .int .i64 k] w fun e w' => e = .returned (.bool true) ∧ w = w' := by
  obtain ⟨x1, x2⟩ := tmod_bd x 1073741824 (by omega)
  obtain ⟨y1, y2⟩ := tmod_bd y 4096 (by omega)
  obtain ⟨k1, k2⟩ := and_31 k
  go_enter Try.func5, Try.ntmps5
  go_wp2_with fail
  generalize x.tmod 1073741824 = X at *
  generalize y.tmod 4096 = Y at *
  generalize bits BinOp.and IntKind.i64 k 31 = K at *
  generalize hT : X + Y = T at *
  generalize hL : 1 + K = L at *
  have l1 : 1 ≤ L := by omega
  have l2 : L ≤ 1024 := by omega
  have t1 : -1099511627776 ≤ T := by omega
  have t2 : T ≤ 1099511627776 := by omega
  obtain ⟨m, hm, hh⟩ := hits_is T L l1 4096 X (by omega)
  have hh' := Lib.hid hh
  have hmay : Hid (May X T L) := Lib.hid ⟨⟨by omega, by omega⟩, ⟨t1, t2⟩, l1, l2⟩
  clear hh hT hL k1 k2 y1 y2
  refine (framesC _ _ _ _ _).mono ?_
  rintro e w' ⟨rfl, rfl⟩
  rw [frames_is hmay.out hh'.out (by omega)]
  go_wp2
  go_loop [10, 11] (fun a i => ∃ (j : Nat) (v : Int), j ≤ m ∧ i = .int .i64 j ∧ a = .int .i64 v ∧ Hid (v = it T L j X)) (fun _ i => m - (intOf i).toNat)
  case atStart => exact ⟨0, X, by omega, rfl, rfl, Lib.hid rfl⟩
  case round =>
    obtain ⟨j, v, hj, rfl, rfl, hv⟩ := hrel
    by_cases hlt : j < m
    · have hne : (v == T) = false := by
        have h := hh'.out.2 j hlt
        rw [← hv.out] at h
        simpa using h
      have hmv : Hid (May v T L) := Lib.hid ⟨by rw [hv.out]; exact it_Be hmay.out.2.1 l1 j X hmay.out.1, hmay.out.2⟩
      go_wp2_with fail
      refine (next _ _ _ _).mono ?_
      rintro e w' ⟨rfl, rfl⟩
      rw [show nextN v T L = nxt v T L from if_pos hmv.out]
      generalize nextE v T L = er
      go_wp2
      go_round
      case rel => exact ⟨j + 1, _, by omega, by go_num, rfl, Lib.hid (by rw [it_succ, hv.out])⟩
      case measure => simp [intOf]; omega
    · obtain rfl : j = m := by omega
      obtain rfl : v = T := hv.out.trans hh'.out.1
      go_wp2_with fail
      refine (framesC _ _ _ _ _).mono ?_
      rintro e w' ⟨rfl, rfl⟩
      rw [frames_less hh'.out]
      go_wp2_with fail
      refine (lives _).mono ?_
      rintro e w' ⟨rfl, rfl⟩
      go_wp2
      go_ret
      exact ⟨rfl, rfl⟩
end Go.Proofs.Ytblcejljgmjbcaa.Lag
