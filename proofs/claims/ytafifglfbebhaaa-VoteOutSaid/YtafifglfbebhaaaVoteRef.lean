/- Contracts of the reference's present and voted. Conditions: the numbers are int64. -/
import Derived.Test.YtafifglfbebhaaaVoteComes
namespace Go.Proofs.Ytafifglfbebhaaa.Vote
open Go.ChangeShapes Go.WideShapes Go.ChangeAt Go.RowKit Num Bl Pers Mid

theorem own_below {w w' : World} {base : Nat} {e : TypeId} {s : Nat} {v : Value} {n : Nat} {xs : List Value} (h : w.ownsRow base e s v n xs) (b : Below w.heap.size w w') : w'.ownsRow base e s v n xs :=
  ⟨h.1, by
    rcases h.2 with h | ⟨g, cap, cur, r1, r2, hh, rest⟩
    · exact .inl h
    · exact .inr ⟨g, cap, cur, r1, r2, (b.block g (Mid.lt_of_at hh)).trans hh, rest⟩⟩
theorem cells_one {n : Nat} {L : Nat → Int} {x : Int} : Mid.cellsOf n L ++ [.int .i64 x] = Mid.cellsOf (n + 1) (fun j => if j = n then x else L j) := by
  simp only [Mid.cellsOf, List.range_succ, List.map_append, List.map_cons, List.map_nil, if_true]
  congr 1
  refine List.map_congr_left fun i hi => ?_
  rw [List.mem_range] at hi
  rw [if_neg (by omega)]

/-- What the reference's present's rounds leave. -/
structure RefAt (w0 : World) (H : Nat → Hl) (R : Nat → Rd) (k : Nat) (v : Value) (w : World) : Prop where
  below : Below w0.heap.size w0 w
  hh : Blk w w0.heap.size (hsA H) 24
  hr : Blk w (w0.heap.size + 1) (rsA R) 27
  own : w.ownsRow (w0.heap.size + 2) 2 1 v (cn (pres H R) k) (Mid.cellsOf (cn (pres H R) k) (vl (pres H R) k))
theorem ref_call {w0 v w1 : World} {H : Nat → Hl} {R : Nat → Rd} {k : Nat} {x : Value} (h : RefAt w0 H R k x v) (b : Below v.heap.size v w1) : RefAt w0 H R k x w1 :=
  ⟨bthen h.below b, blk_kept h.hh b, blk_kept h.hr b, own_below h.own b⟩
theorem ref_go {w0 v : World} {H : Nat → Hl} {R : Nat → Rd} {k : Nat} {x : Value} (h : RefAt w0 H R k x v) (hp : (pres H R k).i = false) : RefAt w0 H R (k + 1) x v :=
  ⟨h.below, h.hh, h.hr, by rw [cn_no hp, vl_no hp]; exact h.own⟩
theorem ref_app {w0 wr w' : World} {H : Nat → Hl} {R : Nat → Rd} {k : Nat} {x v' : Value} {y : Int} (h : RefAt w0 H R k x wr) (hp : (pres H R k).i = true) (hy : (pres H R k).v = y)
    (hown : w'.ownsRow (w0.heap.size + 2) 2 1 v' (cn (pres H R) k + 1) (Mid.cellsOf (cn (pres H R) k) (vl (pres H R) k) ++ [.int .i64 y])) (hg : (wr.alloc (.cells #[.int .i64 y] 2)).grownBy w' x.ownBlock) : RefAt w0 H R (k + 1) v' w' := by
  have hs : w0.heap.size + 1 < wr.heap.size := blk_lt h.hr
  have hb : Below (w0.heap.size + 2) wr w' := ((Below.refl _ wr).alloc (by omega) _).grown hg (by simp; omega) (own_base h.own)
  refine ⟨⟨hb.os.trans h.below.os, hb.tape.trans h.below.tape, hb.output.trans h.below.output, Nat.le_trans h.below.size hb.size, fun j hj => (hb.block j (by omega)).trans (h.below.block j hj)⟩, (hb.block _ (by omega)).trans h.hh, (hb.block _ (by omega)).trans h.hr, ?_⟩
  rw [cn_yes hp, vl_yes hp, hy, ← cells_one]
  exact hown
theorem pres_gone {H : Nat → Hl} {R : Nat → Rd} {k : Nat} (h : (H k).o = true ∨ may (H k) = false) : (pres H R k).i = false := by rw [pres_no h]
theorem pres_said {H : Nat → Hl} {R : Nat → Rd} {k : Nat} {x : Bool} (h : (H k).o = false) (h2 : may (H k) = true) (h3 : (R k).i = x) : (pres H R k).i = x ∧ (pres H R k).v = (R k).v := by rw [pres_yes h h2]; exact ⟨h3, rfl⟩

set_option maxRecDepth 100000 in
set_option maxHeartbeats 4000000 in
theorem rPresent (H : Nat → Hl) (R : Nat → Rd) (w : World) :
    Calls Try.prog 21 #[.agg (hsA H), .agg (rsA R)] w fun e w' => ∃ A c, e = .returned (.slice A (cn (pres H R) 3) c) ∧ Ints w' w'.heap.size A (cn (pres H R) 3) (vl (pres H R) 3) ∧ Below w.heap.size w w' := by
  have K0 := Lib.hid (show RefAt w H R 0 (.slice none 0 0) ((w.alloc (.cells (hsA H) 24)).alloc (.cells (rsA R) 27)) from
    ⟨((Below.refl _ w).alloc (Nat.le_refl _) _).alloc (by simp) _, blk_kept (blk_alloc w _ _) ((Below.refl _ _).alloc (Nat.le_refl _) _), blk_alloc2 w _ _ _, World.ownsRow_nil _ _ _ _⟩)
  go_enter Try.func21, Try.ntmps21
  go_wp2
  go_loopw [6, 5] (fun v x wr => ∃ k : Nat, v = .int .i64 k ∧ k ≤ 3 ∧ RefAt w H R k x wr) (fun v _ _ => 3 - (intOf v).toNat)
  case atStart => exact ⟨0, rfl, by omega, K0.out⟩
  case round =>
    rename_i x wr
    obtain ⟨k, rfl, hk, A⟩ := hrel
    have HA := Lib.hid A
    clear A K0
    by_cases hk3 : k < 3
    · have k0 : (0 : Int) ≤ (k : Int) := Int.natCast_nonneg _
      have k3 : (k : Int) < 3 := by omega
      have a0 := blk_cell HA.out.hh (o := k * 3) (v := .int .i64 (H k).b) (hs_b H k hk3)
      have a1 := blk_cell HA.out.hh (o := k * 3 + 1) (v := .bool (H k).o) (hs_o H k hk3)
      have a2 := blk_cell HA.out.hh (o := k * 3 + 2) (v := .int .i64 (H k).g) (hs_g H k hk3)
      cases hm : may (H k)
      · have HP := Lib.hid (pres_gone (R := R) (k := k) (H := H) (.inr hm))
        have HM := Lib.hid hm
        clear hm
        go_wp2_with fail
        refine (rMayV _ _ _ _ HM.out _).mono ?_
        rintro e w1 ⟨rfl, b1⟩
        have H1 := Lib.hid (ref_call HA.out b1)
        clear b1 a0 a1 a2 HA
        go_wp2
        go_roundw
        case rel => exact ⟨k + 1, by go_num, by omega, ref_go H1.out HP.out⟩
        case measure => simp [intOf]; omega
      · cases h : (H k).o
        · cases hr : (R k).i
          · have HP := Lib.hid (pres_said h hm hr)
            have HM := Lib.hid (may_put h hm)
            clear hm
            go_wp2_with fail
            refine (rMayV _ _ _ _ HM.out _).mono ?_
            rintro e w1 ⟨rfl, b1⟩
            have H1 := Lib.hid (ref_call HA.out b1)
            have e1 := blk_cell H1.out.hh (o := k * 3 + 1) (v := .bool (H k).o) (hs_o H k hk3)
            have r0 := blk_cell H1.out.hr (o := k * 2) (v := .bool (R k).i) (rs_i R k hk3)
            rw [h] at e1
            clear b1 a0 a1 a2 HA
            go_wp2
            go_roundw
            case rel => exact ⟨k + 1, by go_num, by omega, ref_go H1.out HP.out.1⟩
            case measure => simp [intOf]; omega
          · have HP := Lib.hid (pres_said h hm hr)
            have HM := Lib.hid (may_put h hm)
            have hc := cn_le (pres H R) k
            clear hm
            go_wp2_with fail
            refine (rMayV _ _ _ _ HM.out _).mono ?_
            rintro e w1 ⟨rfl, b1⟩
            have H1 := Lib.hid (ref_call HA.out b1)
            have e1 := blk_cell H1.out.hh (o := k * 3 + 1) (v := .bool (H k).o) (hs_o H k hk3)
            have r0 := blk_cell H1.out.hr (o := k * 2) (v := .bool (R k).i) (rs_i R k hk3)
            have r1 := blk_cell H1.out.hr (o := k * 2 + 1) (v := .int .i64 (R k).v) (rs_v R k hk3)
            have ls := blk_lt H1.out.hr
            rw [h] at e1
            clear b1 a0 a1 a2 HA
            obtain ⟨i0, hi, hz0, hz1, hz2⟩ := info_parts info_i64
            have HI := Lib.hid hi
            have HZ := Lib.hid (And.intro hz0 (And.intro hz1 hz2))
            clear hi hz0 hz1 hz2
            go_wp2_with (at_builtin; refine wpList_append_own _ rfl (.tmp 28) (.tmp 33) _ rfl (w.heap.size + 2) 2 i0 _ 1 8 Try.underlying50 HI.out HZ.out.1 HZ.out.2.1 HZ.out.2.2 rfl (by decide) _ (cn (pres H R) k) _ rfl (H1.out.own.alloc _) ⟨w1.heap.size, 0, none⟩ 1 1 [.int .i64 (R k).v] rfl rfl ?_ ?_ (by unfold maxLen; omega) (by omega) (by simp; omega) ?_)
            · intro j u hu
              match j, hu with
              | 0, hu => exact (World.cell?_alloc_mark _ _ _ _ _).trans hu
            · intro u hu
              simp only [List.mem_singleton] at hu
              subst hu
              rfl
            · intro v' w' hown hg _
              have H2 := Lib.hid (ref_app H1.out HP.out.1 HP.out.2 hown hg)
              clear hown hg e1 r0 r1
              go_wp2
              go_roundw
              case rel => exact ⟨k + 1, by go_num, by omega, H2.out⟩
              case measure => simp [intOf]; omega
        · have HP := Lib.hid (pres_gone (R := R) (k := k) (H := H) (.inl h))
          have HM := Lib.hid (may_put h hm)
          clear hm
          go_wp2_with fail
          refine (rMayV _ _ _ _ HM.out _).mono ?_
          rintro e w1 ⟨rfl, b1⟩
          have H1 := Lib.hid (ref_call HA.out b1)
          have e1 := blk_cell H1.out.hh (o := k * 3 + 1) (v := .bool (H k).o) (hs_o H k hk3)
          rw [h] at e1
          clear b1 a0 a1 a2 HA
          go_wp2
          go_roundw
          case rel => exact ⟨k + 1, by go_num, by omega, ref_go H1.out HP.out⟩
          case measure => simp [intOf]; omega
    · obtain rfl : k = 3 := by omega
      have e3 : ((3 : Nat) : Int) = 3 := rfl
      obtain ⟨A, c, rfl, HP⟩ := Mid.ints_of_own HA.out.own
      have HP2 := Lib.hid HP
      clear HP
      go_wp2
      go_ret
      exact ⟨A, c, rfl, HP2.out, HA.out.below⟩

theorem vot_n (n : Nat) (L : Nat → Int) (d : Int) : (vot n L d).n = n := by
  unfold vot; split
  · rename_i q; rw [q.1]; rfl
  · rfl

set_option maxRecDepth 100000 in
set_option maxHeartbeats 4000000 in
theorem rVoted (A : Option Addr) (n c : Nat) (L : Nat → Int) (d : Int) (w : World) (hn : n ≤ 3) (hL : ∀ i, In (L i)) (hd : In d) (hP : Ints w w.heap.size A n L) :
    Calls Try.prog 22 #[.slice A n c, .int .i64 d] w fun e w' => e = .returned (vv (vot n L d)) ∧ Below w.heap.size w w' := by
  have HL := Lib.hid hL
  have HD := Lib.hid hd
  have HP := Lib.hid hP
  have hm : n ≤ maxLen := by unfold maxLen; omega
  have HM := Lib.hid hm
  have B0 := Lib.hid ((Below.refl _ w).alloc (Nat.le_refl _) (.cells #[.bool false, .int .i64 0, .int .i64 0] 29))
  have K0 := Lib.hid (blk_alloc w #[.bool false, .int .i64 0, .int .i64 0] 29)
  have P1 := Lib.hid (hP.next ((Below.refl _ w).alloc (Nat.le_refl _) (.cells #[.bool false, .int .i64 0, .int .i64 0] 29)))
  clear hL hd hP hm
  by_cases h2 : n = 2
  · subst h2
    obtain ⟨b, off, rfl, hb, hc⟩ := HP.out (by omega)
    cases hf : far (L 0) (L 1) d
    all_goals
      have HF := Lib.hid hf
      first | have HE := Lib.hid (vot_far hf) | have HE := Lib.hid (vot_near hf)
      clear hf
      go_enter Try.func22, Try.ntmps22
      go_wp2_with fail
      refine (rOf _ _ _ L _ HM.out (fun i _ => HL.out i) P1.out).mono ?_
      rintro e w1 ⟨rfl, b1⟩
      have c0 := ((below_alloc b1).cell (p := ⟨b, off + 0, none⟩) hb).trans (hc 0 (by omega))
      have c1 := ((below_alloc b1).cell (p := ⟨b, off + 1, none⟩) hb).trans (hc 1 (by omega))
      rw [Nat.add_zero] at c0
      have B1 := Lib.hid (below_alloc b1)
      have R1 := Lib.hid (blk_kept K0.out b1)
      have z0 := blk_cell R1.out (o := 0) (v := .bool false) rfl
      have z1 := blk_cell R1.out (o := 1) (v := .int .i64 0) rfl
      have z2 := blk_cell R1.out (o := 2) (v := .int .i64 0) rfl
      have f0 := blk_free R1.out 0
      have f1 := blk_free R1.out 1
      have f2 := blk_free R1.out 2
      clear b1
      go_wp2
      go_quiet ((go_at_call 23; exact Calls.quiet_of_same ((rFar _ _ _ _ (HL.out 0) (HL.out 1) HD.out).mono fun _ _ h => ⟨h.1, h.2.symm⟩)))
      rw [HF.out]
      go_wp2
    · refine bodyPost_ret (v := vv ⟨true, avg (L 0) (L 1), 2⟩) ?_ rfl ⟨by rw [HE.out], below_put (below_drewN B1.out _) (Nat.le_refl _) _ _ _⟩
      exact ret_vt Try.results22 _ _ w.heap.size ⟨true, avg (L 0) (L 1), 2⟩ rfl (blk_put (w := w1.drewN _) R1.out _ _ _)
    · refine bodyPost_ret (v := vv ⟨false, 0, 2⟩) ?_ rfl ⟨by rw [HE.out], below_put (below_drewN B1.out _) (Nat.le_refl _) _ _ _⟩
      exact ret_vt Try.results22 _ _ w.heap.size ⟨false, 0, 2⟩ rfl (blk_put (w := w1.drewN _) R1.out _ _ _)
  · have HE := Lib.hid (vot_not (L := L) (d := d) h2)
    have k2 : ((n : Int) == 2) = false := by simp; omega
    go_enter Try.func22, Try.ntmps22
    go_wp2_with fail
    refine (rOf _ _ _ L _ HM.out (fun i _ => HL.out i) P1.out).mono ?_
    rintro e w1 ⟨rfl, b1⟩
    have B1 := Lib.hid (below_alloc b1)
    have R1 := Lib.hid (blk_kept K0.out b1)
    have z0 := blk_cell R1.out (o := 0) (v := .bool false) rfl
    have z1 := blk_cell R1.out (o := 1) (v := .int .i64 0) rfl
    have z2 := blk_cell R1.out (o := 2) (v := .int .i64 0) rfl
    have f0 := blk_free R1.out 0
    have f1 := blk_free R1.out 1
    have f2 := blk_free R1.out 2
    clear b1
    go_wp2
    go_quiet (fail)
    go_wp2
    refine bodyPost_ret (v := vv ⟨ofB n, ofN n L, n⟩) ?_ rfl ⟨by rw [HE.out], below_put (below_drewN B1.out _) (Nat.le_refl _) _ _ _⟩
    exact ret_vt Try.results22 _ _ w.heap.size ⟨ofB n, ofN n L, n⟩ rfl (blk_put (w := w1.drewN _) R1.out _ _ _)

end Go.Proofs.Ytafifglfbebhaaa.Vote
