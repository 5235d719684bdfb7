/- Plain numbers behind layer 8 (port): what is put is read, by that source alone; broken, failed, with a bit changed. Conditions: those that each row names. -/
import Derived.Test.YtjkfpnplocmhiaaPortRead
import Derived.Test.YtjkfpnplocmhiaaPortPut
import Derived.Laws.BitsAllLaws
namespace Go.Proofs.Ytjkfpnplocmhiaa.Port
open Go.ChangeShapes Go.WideShapes Go.ChangeAt Go.RowKit Num Word Go.Proofs.Ytjkfpnplocmhiaa.Field Dict

theorem first_all (q : Nat → Bool) : ∀ (m k : Nat), firstE q k m = 0 → ∀ j, k ≤ j → j < k + m → q j = true
  | 0, k, _, j, a, b => by omega
  | m + 1, k, h, j, a, b => by
    rw [firstE] at h
    cases hq : q k
    · rw [if_neg (by simp [hq])] at h; exact absurd h (erQ_pos k)
    · rw [if_pos hq] at h
      by_cases e : j = k
      · rw [e]; exact hq
      · exact first_all q m (k + 1) h j (by omega) (by omega)

/-- Where there is a reading, all is well. -/
theorem rd_all {s o x : Int} (h : rdE s o x = 0) : there s o = true ∧ ∀ j, j < 6 → okQ s o x j = true := by
  rw [rdE] at h
  cases ht : there s o
  · rw [if_neg (by simp [ht])] at h; exact absurd h (by decide)
  · rw [if_pos ht] at h
    exact ⟨rfl, fun j hj => first_all _ 6 0 h j (Nat.zero_le _) (by omega)⟩

theorem odd_ne {x : Int} (h : oddB x = true) : x ≠ 0 := by
  intro e; subst e; revert h; decide

/-- What is read is within, and is put as the same word. -/
theorem one {s o x : Int} (x0 : 0 ≤ x) (x1 : x < 4294967296) (h : rdE s o x = 0) :
    gE x = 0 ∧ nmE (gd x) = 0 ∧ kIs (sL s) = true ∧ rdB s o x = true ∧ rdV s o x = nmN (gd x) ∧ decide (kLo (sL s) ≤ nmN (gd x)) = true ∧ decide (nmN (gd x) ≤ kHi (sL s)) = true ∧
    ptE s o (nmN (gd x)) = 0 ∧ ptN s o (nmN (gd x)) = x := by
  obtain ⟨ht, q⟩ := rd_all h
  have r := rd_ok ht q
  have q1 : oddB x = true := q 1 (by omega)
  have q2 : (gl x == sL s) = true := q 2 (by omega)
  have q3 : (gs x == o + 1) = true := q 3 (by omega)
  have q4 : (gt x == 3) = true := q 4 (by omega)
  have q5 : inB (kLo (sL s)) (kHi (sL s)) (nmN (gd x)) = true := q 5 (by omega)
  have e2 : gl x = sL s := by simpa using q2
  have e3 : gs x = o + 1 := by simpa using q3
  have e4 : gt x = 3 := by simpa using q4
  have b5 := of_decide_eq_true q5
  have gdi := gd_in x
  have nm := nm_yes gdi.2 gdi.1
  have p := pt_yes ht q5
  have f := forth x x0 x1 q1
  have hs := of_decide_eq_true ht
  have hk : kIs (sL s) = true := by
    have : s = 0 ∨ s = 1 ∨ s = 2 ∨ s = 3 := by omega
    rcases this with rfl | rfl | rfl | rfl <;> rfl
  refine ⟨by rw [gE, if_pos q1], nm.1, hk, r.2.1, r.2.2, decide_eq_true b5.1, decide_eq_true b5.2, p.1, ?_⟩
  rw [p.2, (pn_yes (n := nmN (gd x)) ⟨nm.2.1, nm.2.2.1⟩).1, nm.2.2.2, ← e2, ← e3, ← e4]
  exact f.2

theorem rd_zero {s o x : Int} (h : rdE s o x ≠ 0) : rdB s o x = false ∧ rdV s o x = 0 := by
  have := rd_err (rfl : rdE s o x = rdE s o x) h
  exact this.2

theorem sL_one {a s : Int} (a0 : 0 ≤ a) (a1 : a < 4) (s0 : 0 ≤ s) (s1 : s < 4) (h : sL s = sL a) : s = a := by
  have e1 : s = 0 ∨ s = 1 ∨ s = 2 ∨ s = 3 := by omega
  have e2 : a = 0 ∨ a = 1 ∨ a = 2 ∨ a = 3 := by omega
  rcases e1 with rfl | rfl | rfl | rfl <;> rcases e2 with rfl | rfl | rfl | rfl <;> first | rfl | (exfalso; revert h; decide)

/-- One bit changed: the parity turns. -/
theorem flip (x : Int) (k : Nat) (x0 : 0 ≤ x) (x1 : x < 4294967296) (hk : k < 32) :
    0 ≤ bits .xor .u32 x (2 ^ k % 4294967296) ∧ bits .xor .u32 x (2 ^ k % 4294967296) < 4294967296 ∧ oddB (bits .xor .u32 x (2 ^ k % 4294967296)) = !oddB x ∧ (bits .xor .u32 x (2 ^ k % 4294967296) = 0 → x = 2 ^ k) := by
  obtain ⟨n, rfl⟩ := Int.eq_ofNat_of_zero_le x0
  have hn : n < 4294967296 := by omega
  have hp : 2 ^ k < 4294967296 := Nat.pow_lt_pow_right (a := 2) (m := k) (n := 32) (by decide) hk
  have e : (2 : Int) ^ k % 4294967296 = ((2 ^ k : Nat) : Int) := by
    have c : (2 : Int) ^ k = ((2 ^ k : Nat) : Int) := by simp
    rw [c]
    generalize (2 ^ k : Nat) = p at hp ⊢
    omega
  have hl : n ^^^ 2 ^ k < 4294967296 := Nat.xor_lt_two_pow (n := 32) hn hp
  rw [e, u32_xor_nat n (2 ^ k) hn hp]
  refine ⟨Int.natCast_nonneg _, Int.ofNat_lt.2 hl, ?_, ?_⟩
  · have f := ones_flip 32 k n hk
    unfold oddB
    rw [Int.toNat_natCast, Int.toNat_natCast, f]
    generalize ones 32 n = j
    rw [Bool.eq_iff_iff]; simp; omega
  · intro h
    have h0 : n ^^^ 2 ^ k = 0 := by exact_mod_cast h
    have h1 : n = 2 ^ k := by
      have := congrArg (· ^^^ 2 ^ k) h0
      simpa [Nat.xor_assoc] using this
    rw [h1]; simp

/-- What is put is read; broken, failed, with a bit changed; by another. -/
theorem backN {s o v : Int} (h : ptE s o v = 0) :
    0 ≤ ptN s o v ∧ ptN s o v < 4294967296 ∧ rdE s o (ptN s o v) = 0 ∧ rdB s o (ptN s o v) = true ∧ rdV s o (ptN s o v) = v ∧
    (0 ≤ brN (ptN s o v) ∧ brN (ptN s o v) < 4294967296 ∧ rdE s o (brN (ptN s o v)) = 6) ∧
    (0 ≤ flN (ptN s o v) ∧ flN (ptN s o v) < 4294967296 ∧ rdE s o (flN (ptN s o v)) = 8) ∧
    (∀ k : Nat, k < 32 → 0 ≤ bits .xor .u32 (ptN s o v) (2 ^ k % 4294967296) ∧ bits .xor .u32 (ptN s o v) (2 ^ k % 4294967296) < 4294967296 ∧
      (rdE s o (bits .xor .u32 (ptN s o v) (2 ^ k % 4294967296)) = 6 ∨ rdE s o (bits .xor .u32 (ptN s o v) (2 ^ k % 4294967296)) = 4)) ∧
    (∀ a b : Int, rdE a b (ptN s o v) = 0 → a = s ∧ b = o) := by
  cases ht : there s o
  · rw [(pt_no ht).1] at h; exact absurd h (by decide)
  cases g : inB (kLo (sL s)) (kHi (sL s)) v
  · rw [(pt_out ht g).1] at h; exact absurd h (by decide)
  have hv : -262144 ≤ v ∧ v < 262144 := by
    have a := of_decide_eq_true g
    have b := kind_in (sL s)
    omega
  have hs := of_decide_eq_true ht
  have pn := pn_in hv
  have sl := sL_in s
  rw [(pt_yes ht g).2]
  obtain ⟨b0, b1, bo, bl, bs, bd, bt, _⟩ := back (sL s) (o + 1) (pnN v) 3 sl.1 sl.2 (by omega) pn.1 (by decide) ⟨by omega, by decide, pn.2⟩
  have hnm : nmN (pnN v) = v := by rw [(pn_yes hv).1]; exact (nm_pn hv).1
  generalize putN (sL s) (o + 1) (pnN v) 3 = x at b0 b1 bo bl bs bd bt ⊢
  have q0 : okQ s o x 0 = true := by simpa [okQ] using odd_ne bo
  have q2 : okQ s o x 2 = true := by simp [okQ, bl]
  have q3 : okQ s o x 3 = true := by simp [okQ, bs]
  have q4 : okQ s o x 4 = true := by simp [okQ, bt]
  have q5 : okQ s o x 5 = true := by
    show inB (kLo (sL s)) (kHi (sL s)) (nmN (gd x)) = true
    rw [bd, hnm]; exact g
  have hq : ∀ j, j < 6 → okQ s o x j = true := fun j hj => match j, hj with
    | 0, _ => q0
    | 1, _ => bo
    | 2, _ => q2
    | 3, _ => q3
    | 4, _ => q4
    | 5, _ => q5
  have r := rd_ok ht hq
  refine ⟨b0, b1, r.1, r.2.1, by rw [r.2.2, bd, hnm], ?_, ?_, ?_, ?_⟩
  · have f := flip x 31 b0 b1 (by decide)
    rw [show (2 : Int) ^ 31 % 4294967296 = 2147483648 from by decide, show bits .xor .u32 x 2147483648 = brN x from rfl] at f
    refine ⟨f.1, f.2.1, ?_⟩
    have z : okQ s o (brN x) 0 = true := by
      have : brN x ≠ 0 := fun e => by
        have e2 := f.2.2.2 e
        rw [show (2 : Int) ^ 31 = 2147483648 from by decide] at e2
        rw [e2] at bs
        have : gs 2147483648 = 0 := by decide
        omega
      simpa [okQ] using this
    exact (rd_bad ht 1 (by omega) (fun j hj => by obtain rfl : j = 0 := by omega
                                                  exact z) (show oddB (brN x) = false by rw [f.2.2.1, bo]; rfl)).1
  · have fl := (fl_yes bo).1
    rw [fl, bl, bs, bd]
    obtain ⟨c0, c1, co, cl, cs, cd, ct, _⟩ := back (sL s) (o + 1) (pnN v) 0 sl.1 sl.2 (by omega) pn.1 (by decide) ⟨by omega, by decide, pn.2⟩
    generalize putN (sL s) (o + 1) (pnN v) 0 = y at c0 c1 co cl cs cd ct ⊢
    refine ⟨c0, c1, ?_⟩
    refine (rd_bad ht 4 (by omega) (fun j hj => ?_) (by simp [okQ, ct])).1
    match j, hj with
    | 0, _ => simpa [okQ] using odd_ne co
    | 1, _ => exact co
    | 2, _ => simp [okQ, cl]
    | 3, _ => simp [okQ, cs]
  · intro k hk
    have f := flip x k b0 b1 hk
    generalize bits .xor .u32 x (2 ^ k % 4294967296) = y at f ⊢
    refine ⟨f.1, f.2.1, ?_⟩
    by_cases e : y = 0
    · exact .inr (rd_bad ht 0 (by omega) (fun j hj => by omega) (by simp [okQ, e])).1
    · exact .inl (rd_bad ht 1 (by omega) (fun j hj => by obtain rfl : j = 0 := by omega
                                                         simpa [okQ] using e) (show oddB y = false by rw [f.2.2.1, bo]; rfl)).1
  · intro a b hr
    obtain ⟨ta, qa⟩ := rd_all hr
    have ha := of_decide_eq_true ta
    have e2 : (gl x == sL a) = true := qa 2 (by omega)
    have e3 : (gs x == b + 1) = true := qa 3 (by omega)
    rw [bl] at e2
    rw [bs] at e3
    have e2 : sL s = sL a := by simpa using e2
    have e3 : o + 1 = b + 1 := by simpa using e3
    exact ⟨(sL_one (by omega) (by omega) (by omega) (by omega) e2).symm, by omega⟩

theorem pt_err {s o v : Int} (h : ptE s o v ≠ 0) : ptN s o v = 0 ∧ (ptE s o v = 2 ∨ ptE s o v = 9) := by
  cases ht : there s o
  · exact ⟨(pt_no ht).2, .inl (pt_no ht).1⟩
  cases g : inB (kLo (sL s)) (kHi (sL s)) v
  · exact ⟨(pt_out ht g).2, .inr (pt_out ht g).1⟩
  · exact absurd (pt_yes ht g).1 h

end Go.Proofs.Ytjkfpnplocmhiaa.Port
