/- OutSteps: what comes may be; it goes by 40, 14, 1000 at most, towards what is wanted, and gets there. Conditions: the table of bounds lies there; the signals' numbers and the commands' are int64 numbers. -/
import Derived.Test.YtgmgpefegmlnoaaDoorOutLaw
namespace Go.Proofs.YtgmgpefegmlnoaaDoor.Out
open Go.ChangeShapes Go.WideShapes Go.ChangeAt Go.RowKit Num Mem Band

set_option maxRecDepth 100000 in
theorem ne_c (c : Nat → Int) (w : World) : (Go.binOp .neq 26 (.agg (cA c)) (.agg (cA c))).run Tryd.prog w = .ok (.bool false) w := by
  go_simp
  try simp
theorem may_In {c : Nat → Int} (h : may c) : InC c := fun k hk => by
  have := h k hk
  have := lo_hi k
  exact ⟨by omega, by omega⟩
theorem lim_may' (a b : Nat → Int) : may (lim a b) := fun i _ => lim_bd a b i
theorem lim_far (a b : Nat → Int) (k : Nat) : -1000000 ≤ lim a b k ∧ lim a b k ≤ 1000000 := by
  have := lim_bd a b k
  have := lo_hi k
  omega
theorem mayT {c : Nat → Int} (h : may c) (w : World) (T : BdAt w) : Calls Tryd.prog 5 #[.agg (cA c)] w fun e w' => e = .returned (.bool true) ∧ Below w.heap.size w w' := by
  have k := mayC c (may_In h) w T
  rw [(may_is c).2 h] at k
  exact k
/-- How far Limit's answers are apart. -/
theorem gap_lim (p q : Nat → Int) (k : Nat) : 0 ≤ gp (lim p p k) (lim (lim p p) q k) ∧ gp (lim p p k) (lim (lim p p) q k) ≤ st k := by
  have h := lim_by (lim p p) q k
  rw [br_lim] at h
  exact gp_bd (by omega)
theorem gap_gd (p q : Nat → Int) (k : Nat) : 0 ≤ gp (lim p p k) (lim p q k) ∧ gp (lim p p k) (lim p q k) ≤ st k := by
  have h := lim_by p q k
  rw [← lim_self p k] at h
  exact gp_bd (by omega)
theorem lim_same {p : Nat → Int} (h : mayB p = true) : cA (lim p p) = cA p := cA_as fun j hj => by rw [lim_self]; exact br_same ((may_is p).1 h j hj)
theorem far_cA {q c : Nat → Int} (h : far 6 q c) : cA c = cA (lim q q) := cA_as fun j hj => by rw [lim_self]; exact far_end h j hj

/-- What lies in memory behind the first three steps. -/
structure SpAt (w0 : World) (X : Nat → Vt) (p q a b c : Nat → Int) (ga gb gc : Nat) (w : World) : Prop where
  tl : TlAt w0 X p q w
  ha : Blk w ga (cA a) 26
  hb : Blk w gb (cA b) 26
  hc : Blk w gc (cA c) 26
  n0 : w0.heap.size + 1 + 1 < gb
  n1 : ga ≠ gb
  n2 : gc ≠ gb
section
variable {w0 w w1 : World} {X : Nat → Vt} {p q a b c : Nat → Int} {ga gb gc : Nat}
theorem sp_call (h : SpAt w0 X p q a b c ga gb gc w) (k : Below w.heap.size w w1) : SpAt w0 X p q a b c ga gb gc w1 := ⟨tl_call h.tl k, blk_kept h.ha k, blk_kept h.hb k, blk_kept h.hc k, h.n0, h.n1, h.n2⟩
theorem sp_drew (h : SpAt w0 X p q a b c ga gb gc w) : SpAt w0 X p q a b c ga gb gc w.drew := ⟨tl_drew h.tl, h.ha, h.hb, h.hc, h.n0, h.n1, h.n2⟩
theorem sp_set (h : SpAt w0 X p q a b c ga gb gc w) (d : Nat → Int) : SpAt w0 X p q a d c ga gb gc (w.setRow gb (cA d)) :=
  ⟨⟨below_row h.tl.below (by have := h.n0; omega) _, blk_row_far h.tl.hx (by have := h.n0; omega) _, blk_row_far h.tl.hp (by have := h.n0; omega) _, blk_row_far h.tl.hq (by have := h.n0; omega) _⟩, blk_row_far h.ha h.n1 _, blk_row h.hb _, blk_row_far h.hc h.n2 _, h.n0, h.n1, h.n2⟩
theorem sp_has (h : Has w0 [(gc, cA c, 26), (gb, cA b, 26), (ga, cA a, 26), (w0.heap.size + 1 + 1, cA q, 26), (w0.heap.size + 1, cA p, 26), (w0.heap.size, v12 X, 24)] w) (n0 : w0.heap.size + 1 + 1 < gb) (n1 : ga < gb) (n2 : gb < gc) : SpAt w0 X p q a b c ga gb gc w :=
  ⟨⟨h.1, h.2 (w0.heap.size, v12 X, 24) (by simp), h.2 (w0.heap.size + 1, cA p, 26) (by simp), h.2 (w0.heap.size + 1 + 1, cA q, 26) (by simp)⟩, h.2 (ga, cA a, 26) (by simp), h.2 (gb, cA b, 26) (by simp), h.2 (gc, cA c, 26) (by simp), n0, by omega, by omega⟩
end
theorem has_tl {w0 w : World} {X : Nat → Vt} {p q : Nat → Int} (h : TlAt w0 X p q w) : Has w0 [(w0.heap.size + 1 + 1, cA q, 26), (w0.heap.size + 1, cA p, 26), (w0.heap.size, v12 X, 24)] w :=
  ⟨h.below, fun x hx => by
    simp only [List.mem_cons, List.not_mem_nil, or_false] at hx
    rcases hx with rfl | rfl | rfl
    · exact h.hq
    · exact h.hp
    · exact h.hx⟩

/-- In the loop: nearer by k. -/
def SpR (w0 : World) (X : Nat → Vt) (p q a c : Nat → Int) (ga gb gc k : Nat) (w : World) : Prop := ∃ B, far (k + 1) q B ∧ SpAt w0 X p q a B c ga gb gc w

section
attribute [local go_sem ↓] ldC_eq stC_eq ldX_eq
set_option maxRecDepth 100000 in
set_option maxHeartbeats 16000000 in
theorem stepsLaw (m : Int) (X : Nat → Vt) (p q : Nat → Int) (hX : InX X) (hp : InC p) (hq : InC q) (w : World) (T : BdAt w) :
    Calls Tryd.prog 4 #[.int .u8 m, .agg (v12 X), .agg (cA p), .agg (cA q)] w fun e w' => e = .returned (.bool true) ∧ Below w.heap.size w w' := by
  have HT := Lib.hid T
  have HQ := Lib.hid hq
  have K0 := Lib.hid (has_tl (tl_box w X p q))
  have LA := Lib.hid (fun W (U : BdAt W) => limC p p hp hp W U)
  have LB := Lib.hid (fun W (U : BdAt W) => limC (lim p p) q (may_In (lim_may' p p)) hq W U)
  have GC := Lib.hid (fun W (U : BdAt W) => guideC m X p hX hp W U)
  have LQ := Lib.hid (fun W (U : BdAt W) => limC q q hq hq W U)
  have MA := Lib.hid (fun W (U : BdAt W) => mayT (lim_may' p p) W U)
  have MB := Lib.hid (fun W (U : BdAt W) => mayT (lim_may' (lim p p) q) W U)
  have MC : Hid (∀ W, BdAt W → Calls Tryd.prog 5 #[.agg (cA (gd m X p))] W fun e w' => e = .returned (.bool true) ∧ Below W.heap.size W w') := Lib.hid (fun W (U : BdAt W) => mayT (lim_may' p (want m X p)) W U)
  have MP := Lib.hid (fun W (U : BdAt W) => mayC p hp W U)
  have G0 := Lib.hid (fun W => gapC (lim p p 0) (lim (lim p p) q 0) (lim_far _ _ _) (lim_far _ _ _) W)
  have G1 := Lib.hid (fun W => gapC (lim p p 1) (lim (lim p p) q 1) (lim_far _ _ _) (lim_far _ _ _) W)
  have G2 := Lib.hid (fun W => gapC (lim p p 2) (lim (lim p p) q 2) (lim_far _ _ _) (lim_far _ _ _) W)
  have G3 : Hid (∀ W, Calls Tryd.prog 12 #[.int .i64 (lim p p 1), .int .i64 (gd m X p 1)] W fun e w' => e = .returned (.int .i64 (gp (lim p p 1) (gd m X p 1))) ∧ W = w') := Lib.hid (fun W => gapC (lim p p 1) (lim p (want m X p) 1) (lim_far _ _ _) (lim_far _ _ _) W)
  have y0 : gp (lim p p 0) (lim (lim p p) q 0) ≤ 40 := (gap_lim p q 0).2
  have y1 : gp (lim p p 1) (lim (lim p p) q 1) ≤ 14 := (gap_lim p q 1).2
  have y2 : gp (lim p p 2) (lim (lim p p) q 2) ≤ 1000 := (gap_lim p q 2).2
  have y3 : gp (lim p p 1) (gd m X p 1) ≤ 14 := (gap_gd p (want m X p) 1).2
  have FS : Hid (far 1 q (lim (lim p p) q)) := far_next (far_start q (lim_may' p p))
  have NE : Hid (mayB p = true → ∀ W, (Go.binOp .neq 26 (.agg (cA (lim p p))) (.agg (cA p))).run Tryd.prog W = .ok (.bool false) W) := Lib.hid fun h W => by rw [lim_same h]; exact ne_c p W
  generalize mayB p = x at *
  generalize gp (lim p p 0) (lim (lim p p) q 0) = d0 at *
  generalize gp (lim p p 1) (lim (lim p p) q 1) = d1 at *
  generalize gp (lim p p 2) (lim (lim p p) q 2) = d2 at *
  generalize gp (lim p p 1) (gd m X p 1) = d3 at *
  generalize gd m X p = c at *
  generalize lim (lim p p) q = b at *
  generalize lim p p = a at *
  clear hX hp hq T
  go_enter Tryd.func4, Tryd.ntmps4
  go_upto_region 1 with (fail)
  generalize World.alloc _ _ = W at *
  have q1 := has_c K0.out (w.heap.size + 1) p (by simp)
  go_wp2_with fail
  refine (LA.out _ (bd_kept HT.out K0.out.1)).mono ?_
  rintro e w1 ⟨rfl, b1⟩
  have K1 := Lib.hid (has_call K0.out b1)
  have lt1 := Lib.hid (has_lt K1.out (x := (w.heap.size + 1 + 1, cA q, 26)) (by simp))
  have K2 := Lib.hid (has_new K1.out a)
  have s1 := st_new w1 a
  clear b1 q1
  go_upto_region 2 with (fail)
  clear s1 K0 K1
  generalize hg : w1.heap.size = ga at *
  clear hg
  generalize World.setRow _ _ _ = W1 at *
  have q1 := has_c K2.out ga a (by simp)
  have q2 := has_c K2.out (w.heap.size + 1 + 1) q (by simp)
  go_wp2_with fail
  refine (LB.out _ (bd_kept HT.out K2.out.1)).mono ?_
  rintro e w2 ⟨rfl, b2⟩
  have K3 := Lib.hid (has_call K2.out b2)
  have lt2 := Lib.hid (has_lt K3.out (x := (ga, cA a, 26)) (by simp))
  have K4 := Lib.hid (has_new K3.out b)
  have s1 := st_new w2 b
  clear b2 q1 q2
  go_upto_region 3 with (fail)
  clear s1 K2 K3
  generalize hg : w2.heap.size = gb at *
  clear hg
  generalize World.setRow _ _ _ = W2 at *
  have q1 := has_c K4.out (w.heap.size + 1) p (by simp)
  have q2 : (ldX (.pointer (some ⟨w.heap.size, 0, none⟩))).run Tryd.prog W2 = .ok (.agg (v12 X)) W2 := ldX_blk (K4.out.2 (w.heap.size, v12 X, 24) (by simp))
  go_wp2_with fail
  refine (GC.out _ (bd_kept HT.out K4.out.1)).mono ?_
  rintro e w3 ⟨rfl, b3⟩
  have K5 := Lib.hid (has_call K4.out b3)
  have lt3 := Lib.hid (has_lt K5.out (x := (gb, cA b, 26)) (by simp))
  have K6 := Lib.hid (has_new K5.out c)
  have s1 := st_new w3 c
  clear b3 q1 q2
  go_upto_region 4 with (fail)
  clear s1 K4 K5
  generalize hg : w3.heap.size = gc at *
  clear hg
  generalize World.setRow _ _ _ = W3 at *
  have A1 := Lib.hid (sp_has K6.out (Nat.lt_trans lt1.out lt2.out) lt2.out lt3.out)
  clear K6 lt1 lt2 lt3
  have q1 := ldC_blk A1.out.ha
  go_wp2_with fail
  refine (MA.out _ (bd_kept HT.out A1.out.tl.below)).mono ?_
  rintro e w4 ⟨rfl, b4⟩
  have A2 := Lib.hid (sp_call A1.out b4)
  clear b4 q1 A1
  have q1 := ldC_blk A2.out.hb
  go_wp2_with fail
  refine (MB.out _ (bd_kept HT.out A2.out.tl.below)).mono ?_
  rintro e w5 ⟨rfl, b5⟩
  have A3 := Lib.hid (sp_call A2.out b5)
  clear b5 q1 A2
  have q1 := ldC_blk A3.out.hc
  go_wp2_with fail
  refine (MC.out _ (bd_kept HT.out A3.out.tl.below)).mono ?_
  rintro e w6 ⟨rfl, b6⟩
  have A4 := Lib.hid (sp_call A3.out b6)
  clear b6 q1 A3
  have q1 := ldC_blk A4.out.tl.hp
  go_wp2_with fail
  refine (MP.out _ (bd_kept HT.out A4.out.tl.below)).mono ?_
  rintro e w7 ⟨rfl, b7⟩
  have A5 := Lib.hid (sp_call A4.out b7)
  clear b7 q1 A4
  have q1 := ldC_blk A5.out.ha
  have q2 := ldC_blk A5.out.tl.hp
  have c0 := blk_cell A5.out.ha (o := 0) (v := .int .i64 (a 0)) rfl
  have c1 := blk_cell A5.out.ha (o := 1) (v := .int .i64 (a 1)) rfl
  have c2 := blk_cell A5.out.ha (o := 2) (v := .int .i64 (a 2)) rfl
  have e0 := blk_cell A5.out.hb (o := 0) (v := .int .i64 (b 0)) rfl
  have e1 := blk_cell A5.out.hb (o := 1) (v := .int .i64 (b 1)) rfl
  have e2 := blk_cell A5.out.hb (o := 2) (v := .int .i64 (b 2)) rfl
  have f1 := blk_cell A5.out.hc (o := 1) (v := .int .i64 (c 1)) rfl
  cases x
  case' true => have ne := NE.out rfl
  all_goals
    clear NE
    go_wp2_with (first
      | ((with_reducible refine (G0.out _).mono ?_); rintro e u ⟨rfl, rfl⟩)
      | ((with_reducible refine (G1.out _).mono ?_); rintro e u ⟨rfl, rfl⟩)
      | ((with_reducible refine (G2.out _).mono ?_); rintro e u ⟨rfl, rfl⟩)
      | ((with_reducible refine (G3.out _).mono ?_); rintro e u ⟨rfl, rfl⟩))
    clear q1 q2 c0 c1 c2 e0 e1 e2 f1 y0 y1 y2 y3
    try clear ne
    go_loopw [12] (fun i wr => ∃ k : Nat, i = .int .i64 k ∧ k ≤ 5 ∧ SpR w X p q a c ga gb gc k wr) (fun i _ => 5 - (intOf i).toNat)
    case atStart => exact ⟨0, rfl, by omega, b, FS.out, A5.out⟩
    case round =>
      rename_i wr
      obtain ⟨k, rfl, hk, B, F, H⟩ := hrel
      have HA := Lib.hid H
      have HF := Lib.hid F
      clear H F A5
      by_cases hk5 : k < 5
      · have k0 : (0 : Int) ≤ (k : Int) := Int.natCast_nonneg _
        have k5 : (k : Int) < 5 := by omega
        have LN := Lib.hid (fun W (U : BdAt W) => limC B q (may_In (far_may HF.out)) HQ.out W U)
        have FN := Lib.hid (far_next HF.out)
        generalize lim B q = D at *
        have q1 := ldC_blk HA.out.hb
        have q2 := ldC_blk HA.out.tl.hq
        go_wp2_with fail
        refine (LN.out _ (bd_kept HT.out HA.out.tl.below)).mono ?_
        rintro e u ⟨rfl, bb⟩
        have HB := Lib.hid (sp_call HA.out bb)
        have HC := Lib.hid (sp_set HB.out D)
        have s1 := stC_blk D HB.out.hb
        clear bb q1 q2 HA
        go_wp2
        go_roundw
        case rel => exact ⟨k + 1, by go_num, by omega, D, FN.out, HC.out⟩
        case measure => simp [intOf]; omega
      · obtain rfl : k = 5 := by omega
        have HB : Hid (SpAt w X p q a (lim q q) c ga gb gc wr) := ⟨HA.out.tl, HA.out.ha, blk_eq (far_cA HF.out) HA.out.hb, HA.out.hc, HA.out.n0, HA.out.n1, HA.out.n2⟩
        clear HA HF hk hk5 FS
        have eQ := fun W => eq_c (lim q q) W
        generalize lim q q = y at *
        go_upto_region 12 with (fail)
        have TA := Lib.hid (sp_drew HB.out)
        clear HB
        go_region_held3 (fun w' => (ldC (.pointer (some ⟨gb, 0, none⟩))).run Tryd.prog w' = .ok (.agg (cA y)) w' ∧ (ldC (.pointer (some ⟨w.heap.size + 1 + 1, 0, none⟩))).run Tryd.prog w' = .ok (.agg (cA q)) w')
          (first
            | (with_reducible assumption)
            | exact ⟨ldC_blk TA.out.hb, ldC_blk TA.out.tl.hq⟩)
          (first
          | ((with_reducible refine (LQ.out _ (bd_kept HT.out TA.out.tl.below)).mono ?_); rintro e u ⟨rfl, bb⟩; replace TA := Lib.hid (sp_call TA.out bb); clear bb)
          | ((with_reducible refine (lives _ (bd_kept HT.out TA.out.tl.below)).mono ?_); rintro e u ⟨rfl, bb⟩; replace TA := Lib.hid (sp_call TA.out bb); clear bb))
        all_goals
          go_wp2
          go_ret
          exact ⟨rfl, TA.out.tl.below⟩
end

end Go.Proofs.YtgmgpefegmlnoaaDoor.Out
