/- What the law VoteOut's sources come to, frame by frame. Conditions: the numbers are int64. -/
import Derived.Test.YtafifglfbebhaaaVoteLawB
namespace Go.Proofs.Ytafifglfbebhaaa.Vote
open Go.ChangeShapes Go.WideShapes Go.ChangeAt Go.RowKit Num Bl Pers Mid

theorem and_1023 (k : Int) : 0 ≤ bits BinOp.and IntKind.i64 k 1023 ∧ bits BinOp.and IntKind.i64 k 1023 ≤ 1023 := by
  have h : ((BitVec.ofInt IntKind.i64.bits k) &&& (BitVec.ofInt IntKind.i64.bits 1023)).toNat ≤ 1023 := by
    rw [BitVec.toNat_and]; exact Nat.and_le_right
  unfold bits
  simp only []
  rw [IntKind.wrap_i64]
  omega

/-- The healths behind n frames: the source at place k was bad in all, the others in none. -/
def Ho (k n i : Nat) : Hl := if i = k then ⟨n, decide (4 ≤ n), 0⟩ else ⟨0, false, n⟩
theorem Ho_k (k n : Nat) : Ho k n k = ⟨n, decide (4 ≤ n), 0⟩ := by unfold Ho; rw [if_pos rfl]
theorem Ho_j {k j : Nat} (n : Nat) (h : j ≠ k) : Ho k n j = ⟨0, false, n⟩ := by unfold Ho; rw [if_neg h]
theorem may_k {n : Nat} (h : n ≤ 100) : may ⟨n, decide (4 ≤ n), 0⟩ = true := by
  refine may_mk ⟨by show (0 : Int) ≤ n; omega, by show (n : Int) ≤ 65536; omega⟩ ⟨by show (0 : Int) ≤ 0; decide, by show (0 : Int) ≤ 65536; decide⟩ (.inr rfl) ?_
  by_cases q : 4 ≤ n
  · exact .inl (decide_eq_true q)
  · exact .inr (by show (n : Int) < 4; omega)
theorem may_j {n : Nat} (h : n ≤ 100) : may ⟨0, false, n⟩ = true :=
  may_mk ⟨by show (0 : Int) ≤ 0; decide, by show (0 : Int) ≤ 65536; decide⟩ ⟨by show (0 : Int) ≤ n; omega, by show (n : Int) ≤ 65536; omega⟩ (.inl rfl) (.inr (by show (0 : Int) < 4; decide))
theorem next_k {n : Nat} (h : n ≤ 100) : next ⟨n, decide (4 ≤ n), 0⟩ true true = ⟨(n + 1 : Nat), decide (4 ≤ n + 1), 0⟩ := by
  rw [next_bad (may_k h)]
  have e : more (n : Int) = ((n + 1 : Nat) : Int) := by unfold more; rw [if_pos (by omega)]; omega
  rw [e]
  by_cases q : 4 ≤ n
  · simp [q, show 4 ≤ n + 1 by omega]
  · simp [q]; omega
theorem next_j {n : Nat} (h : n ≤ 100) : next ⟨0, false, n⟩ false true = ⟨0, false, (n + 1 : Nat)⟩ := by
  rw [next_good (may_j h) true (fun hh => by simp at hh)]
  have e : more (n : Int) = ((n + 1 : Nat) : Int) := by unfold more; rw [if_pos (by omega)]; omega
  rw [e]
/-- What three come to of which two are near. -/
theorem betw_vot (k : Nat) (hk : k < 3) (P : Nat → Rd) (s t d : Int) (hI : P ((k + 1) % 3) = ⟨true, t⟩) (hJ : P ((k + 2) % 3) = ⟨true, s⟩) (h1 : s - t ≤ d) (h2 : t - s ≤ d) :
    ∃ m c, vot (cn P 3) (vl P 3) d = ⟨true, m, c⟩ ∧ Betw s t m ∧ ((P k).i = false ∧ c = 2 ∨ (P k).i = true ∧ c = 3) := by
  have f1 := near_far h1 h2
  have f2 := near_far h2 h1
  have e1 : Betw s t (avg s t) := by unfold Betw avg; omega
  have e2 : Betw s t (avg t s) := by unfold Betw avg; omega
  have hk3 : k = 0 ∨ k = 1 ∨ k = 2 := by omega
  rcases hk3 with rfl | rfl | rfl
  · have e3 : Betw s t (middle (P 0).v t s) := by have := mid_cases (P 0).v t s; unfold Betw; omega
    simp only [Nat.zero_add, Nat.reduceMod] at hI hJ
    rw [vot3, hI, hJ]
    cases h : (P 0).i
    · exact ⟨_, _, by simp [two, f2], e2, .inl ⟨rfl, rfl⟩⟩
    · exact ⟨_, _, by simp, e3, .inr ⟨rfl, rfl⟩⟩
  · have e3 : Betw s t (middle s (P 1).v t) := by have := mid_cases s (P 1).v t; unfold Betw; omega
    simp only [Nat.reduceAdd, Nat.reduceMod] at hI hJ
    rw [vot3, hI, hJ]
    cases h : (P 1).i
    · exact ⟨_, _, by simp [two, f1], e1, .inl ⟨rfl, rfl⟩⟩
    · exact ⟨_, _, by simp, e3, .inr ⟨rfl, rfl⟩⟩
  · have e3 : Betw s t (middle t s (P 2).v) := by have := mid_cases t s (P 2).v; unfold Betw; omega
    simp only [Nat.reduceAdd, Nat.reduceMod] at hI hJ
    rw [vot3, hI, hJ]
    cases h : (P 2).i
    · exact ⟨_, _, by simp [two, f2], e2, .inl ⟨rfl, rfl⟩⟩
    · exact ⟨_, _, by simp, e3, .inr ⟨rfl, rfl⟩⟩

/-- The wrong reading: none, or far from the others. -/
def Wrong (y : Rd) : Prop := y = ⟨false, 0⟩ ∨ ∃ c, y = ⟨true, c⟩ ∧ 5000 ≤ c ∧ c ≤ 6023
theorem wrong_in {y : Rd} (h : Wrong y) : In y.v := by
  rcases h with rfl | ⟨c, rfl, h1, h2⟩
  · exact ⟨by decide, by decide⟩
  · exact ⟨by show -9223372036854775808 ≤ c; omega, by show c ≤ 9223372036854775807; omega⟩
theorem Rf_k (k : Nat) (s t : Int) (x : Rd) : Rf k s t x k = x := by unfold Rf; rw [if_pos rfl]
theorem Rf_j {k j : Nat} (s t : Int) (x : Rd) (h : j ≠ k) : Rf k s t x j = ⟨true, t⟩ ∨ Rf k s t x j = ⟨true, s⟩ := by
  unfold Rf
  rw [if_neg h]
  split
  · exact .inl rfl
  · exact .inr rfl
theorem out_v (k : Nat) (hk : k < 3) (n : Nat) (hn : n ≤ 100) (y : Rd) (s t : Int) (h1 : s - t ≤ 100) (h2 : t - s ≤ 100) :
    ∃ m c, stV (Ho k n) (Rf k s t y) 100 = ⟨true, m, c⟩ ∧ Betw s t m ∧ (4 ≤ n → c = 2) ∧ (y.i = true → n < 4 → c = 3) := by
  have hP : ∀ j, j ≠ k → pres (Ho k n) (Rf k s t y) j = Rf k s t y j := fun j hj => pres_yes (by rw [Ho_j n hj]) (by rw [Ho_j n hj]; exact may_j hn)
  have hI : pres (Ho k n) (Rf k s t y) ((k + 1) % 3) = ⟨true, t⟩ := by rw [hP _ (by omega)]; unfold Rf; rw [if_neg (by omega), if_pos rfl]
  have hJ : pres (Ho k n) (Rf k s t y) ((k + 2) % 3) = ⟨true, s⟩ := by rw [hP _ (by omega)]; unfold Rf; rw [if_neg (by omega), if_neg (by omega)]
  obtain ⟨m, c, hv, hm, hc⟩ := betw_vot k hk (pres (Ho k n) (Rf k s t y)) s t 100 hI hJ h1 h2
  refine ⟨m, c, hv, hm, fun h4 => ?_, fun hy h4 => ?_⟩
  · have e := pres_gone (H := Ho k n) (R := Rf k s t y) (k := k) (.inl (by rw [Ho_k]; exact decide_eq_true h4))
    rcases hc with hc | hc
    · exact hc.2
    · rw [e] at hc; exact absurd hc.1 (by simp)
  · have e := pres_said (H := Ho k n) (R := Rf k s t y) (k := k) (x := true) (by rw [Ho_k]; exact decide_eq_false (by omega)) (by rw [Ho_k]; exact may_k hn) (by rw [Rf_k]; exact hy)
    rcases hc with hc | hc
    · rw [e.1] at hc; exact absurd hc.1 (by simp)
    · exact hc.2
theorem out_h (k : Nat) (hk : k < 3) (n : Nat) (hn : n ≤ 100) (y : Rd) (hy : Wrong y) (s t : Int) (h1 : s - t ≤ 100) (h2 : t - s ≤ 100) (hs : s < 1000) (ht : t < 1000) :
    hsA (stH (Ho k n) (Rf k s t y) 100 true) = hsA (Ho k (n + 1)) := by
  obtain ⟨m, c, hv, hm, hc2, hc3⟩ := out_v k hk n hn y s t h1 h2
  have hj : ∀ j, j ≠ k → stH (Ho k n) (Rf k s t y) 100 true j = Ho k (n + 1) j := by
    intro j hj
    have hP : pres (Ho k n) (Rf k s t y) j = Rf k s t y j := pres_yes (by rw [Ho_j n hj]) (by rw [Ho_j n hj]; exact may_j hn)
    have hb : bd (Rf k s t y j) (pres (Ho k n) (Rf k s t y) j).i (stV (Ho k n) (Rf k s t y) 100) 100 = false := by
      rw [hP, hv]
      unfold Betw at hm
      rcases Rf_j s t y hj with e | e <;> rw [e]
      · by_cases q : c < 3
        · exact bd_few rfl rfl q 100
        · rw [bd_all rfl rfl q]; exact far_false (by show ¬ (100 < t - m ∨ 100 < m - t); omega)
      · by_cases q : c < 3
        · exact bd_few rfl rfl q 100
        · rw [bd_all rfl rfl q]; exact far_false (by show ¬ (100 < s - m ∨ 100 < m - s); omega)
    unfold stH
    rw [hb, Ho_j n hj, Ho_j (n + 1) hj, next_j hn]
  have hkk : stH (Ho k n) (Rf k s t y) 100 true k = Ho k (n + 1) k := by
    have hb : bd (Rf k s t y k) (pres (Ho k n) (Rf k s t y) k).i (stV (Ho k n) (Rf k s t y) 100) 100 = true := by
      rw [hv, Rf_k]
      unfold Betw at hm
      rcases hy with rfl | ⟨z, rfl, z1, z2⟩
      · exact bd_said rfl _ _ _
      · have hf : far z m 100 = true := far_true (by omega)
        by_cases h4 : 4 ≤ n
        · rw [pres_gone (.inl (by rw [Ho_k]; exact decide_eq_true h4)), bd_out rfl rfl]; exact hf
        · rw [bd_all rfl rfl (by show ¬ c < 3; rw [hc3 rfl (by omega)]; decide)]; exact hf
    unfold stH
    rw [hb, Ho_k, Ho_k, next_k hn]
  have e0 : stH (Ho k n) (Rf k s t y) 100 true 0 = Ho k (n + 1) 0 := by by_cases q : 0 = k; · subst q; exact hkk
                                                                        · exact hj 0 q
  have e1 : stH (Ho k n) (Rf k s t y) 100 true 1 = Ho k (n + 1) 1 := by by_cases q : 1 = k; · subst q; exact hkk
                                                                        · exact hj 1 q
  have e2 : stH (Ho k n) (Rf k s t y) 100 true 2 = Ho k (n + 1) 2 := by by_cases q : 2 = k; · subst q; exact hkk
                                                                        · exact hj 2 q
  simp only [hsA, e0, e1, e2]
/-- vote.Step of the law's sources. -/
theorem outC (k : Nat) (hk : k < 3) (n : Nat) (hn : n ≤ 100) (y : Rd) (hy : Wrong y) (s t : Int) (h1 : s - t ≤ 100) (h2 : t - s ≤ 100) (hs : s < 1000) (ht : t < 1000) (hs2 : -1000 < s) (ht2 : -1000 < t) :
    ∃ m c : Int, Betw s t m ∧ (4 ≤ n → c = 2) ∧ ∀ W, Calls Try.prog 8 #[.agg (hsA (Ho k n)), .agg (rsA (Rf k s t y)), .int .i64 100, .bool true] W fun e w' => e = .returned (.tuple #[.agg (hsA (Ho k (n + 1))), .agg #[.bool true, .int .i64 m, .int .i64 c]]) ∧ Below W.heap.size W w' := by
  obtain ⟨m, c, hv, hm, hc2, _⟩ := out_v k hk n hn y s t h1 h2
  refine ⟨m, c, hm, hc2, fun W => ?_⟩
  have h := stepC (Ho k n) (Rf k s t y) 100 true W (Rf_in ⟨by omega, by omega⟩ ⟨by omega, by omega⟩ (wrong_in hy)) ⟨by decide, by decide⟩
  rw [hv, out_h k hk n hn y hy s t h1 h2 hs ht] at h
  exact h
theorem ins_ho (k : Nat) (hk : k < 3) (n : Nat) : ins (Ho k n) 3 = if 4 ≤ n then 2 else 3 := by
  have hk3 : k = 0 ∨ k = 1 ∨ k = 2 := by omega
  rcases hk3 with rfl | rfl | rfl <;> by_cases h : 4 ≤ n <;> simp [ins, Ho, h]

/-- What the law's rounds leave. -/
structure OutAt (w0 : World) (k n : Nat) (s t : Int) (y : Rd) (h r v : Nat) (w : World) : Prop where
  below : Below w0.heap.size w0 w
  hh : Blk w h (hsA (Ho k n)) 24
  hr : Blk w r (rsA (Rf k s t y)) 27
  hv : ∃ V, Blk w v (vc V) 29
  lh : w0.heap.size ≤ h
  lv : w0.heap.size ≤ v
  hr1 : h ≠ r
  hv1 : h ≠ v
  rv1 : r ≠ v
theorem out_below {w0 w w1 : World} {k n h r v : Nat} {s t : Int} {y : Rd} (a : OutAt w0 k n s t y h r v w) (b : Below w.heap.size w w1) : OutAt w0 k n s t y h r v w1 :=
  ⟨bthen a.below b, blk_kept a.hh b, blk_kept a.hr b, by obtain ⟨V, q⟩ := a.hv; exact ⟨V, blk_kept q b⟩, a.lh, a.lv, a.hr1, a.hv1, a.rv1⟩
theorem out_put {w0 w : World} {k n h r v : Nat} {s t : Int} {y : Rd} (a : OutAt w0 k n s t y h r v w) (V : Vt) : OutAt w0 k (n + 1) s t y h r v ((w.setRow h (hsA (Ho k (n + 1)))).setRow v (vc V)) := by
  obtain ⟨V0, q⟩ := a.hv
  exact ⟨below_row (below_row a.below a.lh _) a.lv _, blk_row_far (blk_row a.hh _) a.hv1 _, blk_row_far (blk_row_far a.hr (Ne.symm a.hr1) _) a.rv1 _, ⟨V, blk_row (blk_row_far q (Ne.symm a.hv1) _) _⟩, a.lh, a.lv, a.hr1, a.hv1, a.rv1⟩
theorem out_put_v {w0 w : World} {k n h r v : Nat} {s t : Int} {y : Rd} (a : OutAt w0 k n s t y h r v w) (V : Vt) : Blk ((w.setRow h (hsA (Ho k (n + 1)))).setRow v (vc V)) v (vc V) 29 := by
  obtain ⟨V0, q⟩ := a.hv
  exact blk_row (blk_row_far q (Ne.symm a.hv1) _) _
theorem out_begin {w0 W : World} {k r : Nat} {s t : Int} {y : Rd} (b : Below w0.heap.size w0 W) (hr : Blk W r (rsA (Rf k s t y)) 27) :
    OutAt w0 k 0 s t y W.heap.size r (W.heap.size + 1) ((W.alloc (.cells (hsA noH) 24)).alloc (.cells (vc noV) 29)) := by
  have T := two_new (two_refl W (hsA noH) (vc noV) 24 29)
  have lr := blk_lt hr
  have lb := b.size
  refine ⟨bthen b T.2.2, ?_, blk_kept hr T.2.2, ⟨noV, T.2.1⟩, lb, by omega, by omega, by omega, by omega⟩
  have e : hsA (Ho k 0) = hsA noH := by simp [hsA, Ho]
  rw [e]; exact T.1
theorem store_vt {ops : Array Oper} {rest : List Oper} {o : Oper} {a : Act} {w : World} {Q : Exit → Act → World → Prop} (hgd : o.guard = none) (x y : Operand) (ho : o.op = .store 29 x y)
    (g : Nat) (V U : Vt) (K : Blk w g (vc U) 29) (hx : a.eval x = .pointer (some ⟨g, 0, none⟩)) (hy : a.eval y = vv V) (h : wpList Try.prog ops Q rest (a.put o.dst undef) (w.setRow g (vc V))) : wpList Try.prog ops Q (o :: rest) a w :=
  wpList_store_row hgd 29 x y ho g (vc V) hx hy 29 _ K infoV rfl (by kernel_rfl) h

end Go.Proofs.Ytafifglfbebhaaa.Vote
