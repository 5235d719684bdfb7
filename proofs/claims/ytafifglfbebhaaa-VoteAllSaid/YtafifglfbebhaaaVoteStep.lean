/- Contract of vote.Step. Conditions: the numbers are int64. -/
import Derived.Test.YtafifglfbebhaaaVoteRef
import Derived.Deep.RegionHeld3
namespace Go.Proofs.Ytafifglfbebhaaa.Vote
open Go.ChangeShapes Go.WideShapes Go.ChangeAt Go.RowKit Num Bl Pers Mid

/-- The last region of a function with two results in cells. -/
structure EndAt (w0 : World) (a b c d : Nat) (T1 T2 : TypeId) (U V X Y : Array Value) (w : World) : Prop where
  below : Below w0.heap.size w0 w
  ha : Blk w a U T1
  hb : Blk w b V T2
  hc : Blk w c X T1
  hd : Blk w d Y T2
  lc : w0.heap.size ≤ c
  ld : w0.heap.size ≤ d
  ac : a ≠ c
  ad : a ≠ d
  bc : b ≠ c
  bd : b ≠ d
  cd : c ≠ d
theorem end_c {w0 w : World} {a b c d : Nat} {T1 T2 : TypeId} {U V X Y : Array Value} (h : EndAt w0 a b c d T1 T2 U V X Y w) : EndAt w0 a b c d T1 T2 U V U Y (w.setRow c U) :=
  ⟨below_row h.below h.lc _, blk_row_far h.ha h.ac _, blk_row_far h.hb h.bc _, blk_row h.hc _, blk_row_far h.hd (Ne.symm h.cd) _, h.lc, h.ld, h.ac, h.ad, h.bc, h.bd, h.cd⟩
theorem end_d {w0 w : World} {a b c d : Nat} {T1 T2 : TypeId} {U V X Y : Array Value} (h : EndAt w0 a b c d T1 T2 U V X Y w) : EndAt w0 a b c d T1 T2 U V X V (w.setRow d V) :=
  ⟨below_row h.below h.ld _, blk_row_far h.ha h.ad _, blk_row_far h.hb h.bd _, blk_row_far h.hc h.cd _, blk_row h.hd _, h.lc, h.ld, h.ac, h.ad, h.bc, h.bd, h.cd⟩
theorem ret_rows {fn : Func} {p q : Tmp} {T1 T2 : TypeId} (h : fn.results = #[.cell p T1, .cell q T2]) (tmps : Array Value) (W : World) (c d : Nat) (U V : Array Value)
    (hp : tmps.getD p undef = .pointer (some ⟨c, 0, none⟩)) (hq : tmps.getD q undef = .pointer (some ⟨d, 0, none⟩))
    (l1 : (loadVar T1 ⟨c, 0, none⟩).run Try.prog W = .ok (.agg U) W) (l2 : (loadVar T2 ⟨d, 0, none⟩).run Try.prog W = .ok (.agg V) W) :
    (results fn tmps).run Try.prog W = .ok (.tuple #[.agg U, .agg V]) W := by
  have hp' : tmps[p]?.getD undef = .pointer (some ⟨c, 0, none⟩) := by simpa using hp
  have hq' : tmps[q]?.getD undef = .pointer (some ⟨d, 0, none⟩) := by simpa using hq
  simp [results, h, hp', hq', asAddr, l1, l2]
theorem row_hs {W : World} {c : Nat} {F : Nat → Hl} (K : Blk W c (hsA F) 24) : (loadVar 24 ⟨c, 0, none⟩).run Try.prog W = .ok (.agg (hsA F)) W :=
  run_loadVar_row W c 24 24 _ (0, 0) _ K Try.underlying24 rfl infoHs
theorem row_vt {W : World} {c : Nat} {V : Vt} (K : Blk W c (vc V) 29) : (loadVar 29 ⟨c, 0, none⟩).run Try.prog W = .ok (vv V) W :=
  run_loadVar_row W c 29 29 _ (0, 0) _ K Try.underlying29 rfl infoV
abbrev noV : Vt := ⟨false, 0, 0⟩

theorem vot_in (n : Nat) (L : Nat → Int) (d : Int) (h : ∀ i, In (L i)) : In (vot n L d).v := by
  have z : In 0 := ⟨by decide, by decide⟩
  unfold vot
  split
  · exact z
  · show In (ofN n L)
    have h1 := h 0
    have h2 := h 1
    have h3 := h 2
    unfold ofN
    unfold In at *
    split
    · exact h1
    split
    · unfold avg; omega
    split
    · have hm := mid_cases (L 0) (L 1) (L 2); omega
    · exact z
theorem stV_in (H : Nat → Hl) (R : Nat → Rd) (d : Int) (h : ∀ i, In (R i).v) : In (stV H R d).v := vot_in _ _ _ (vl_in _ (pres_in H R h) 3)

/-- The healths, the first k of them gone on. -/
def mixH (H F : Nat → Hl) (k i : Nat) : Hl := if i < k then F i else H i
theorem mixH_at (H F : Nat → Hl) (k : Nat) : mixH H F k k = H k := by unfold mixH; rw [if_neg (by omega)]
theorem mixH_set {H F : Nat → Hl} {k : Nat} {s : Hl} (h : F k = s) (hk : k < 3) : (((hsA (mixH H F k)).setIfInBounds (k * 3) (.int .i64 s.b)).setIfInBounds (k * 3 + 1) (.bool s.o)).setIfInBounds (k * 3 + 2) (.int .i64 s.g) = hsA (mixH H F (k + 1)) := by
  subst h
  have hk3 : k = 0 ∨ k = 1 ∨ k = 2 := by omega
  rcases hk3 with rfl | rfl | rfl <;> simp [hsA, mixH]
theorem mixH_all (H F : Nat → Hl) : hsA (mixH H F 3) = hsA F := by simp [hsA, mixH]

/-- What vote.Step's rounds leave. -/
structure StepAt (w0 : World) (H F : Nat → Hl) (R P : Nat → Rd) (V : Vt) (p v k : Nat) (w : World) : Prop where
  below : Below w0.heap.size w0 w
  hh : Blk w w0.heap.size (hsA (mixH H F k)) 24
  hr : Blk w (w0.heap.size + 1) (rsA R) 27
  h8 : Blk w (w0.heap.size + 1 + 1) (hsA noH) 24
  h9 : Blk w (w0.heap.size + 1 + 1 + 1) (vc noV) 29
  hp : Blk w p (rsA P) 27
  hv : Blk w v (vc V) 29
  lp : w0.heap.size + 1 + 1 + 1 < p
  lv : w0.heap.size + 1 + 1 + 1 < v
theorem step_below {w0 w w1 : World} {H F : Nat → Hl} {R P : Nat → Rd} {V : Vt} {p v k : Nat} (h : StepAt w0 H F R P V p v k w) (b : Below w.heap.size w w1) : StepAt w0 H F R P V p v k w1 :=
  ⟨bthen h.below b, blk_kept h.hh b, blk_kept h.hr b, blk_kept h.h8 b, blk_kept h.h9 b, blk_kept h.hp b, blk_kept h.hv b, h.lp, h.lv⟩
/-- What the round's region reads. -/
theorem step_held {w0 w w1 : World} {H F : Nat → Hl} {R P : Nat → Rd} {V : Vt} {p v k : Nat} (h : StepAt w0 H F R P V p v k w) (hk : k < 3) (b : Below w.heap.size w w1) :
    w1.cell? ⟨w0.heap.size + 1, k * 2, none⟩ = some (.bool (R k).i) ∧ w1.cell? ⟨w0.heap.size + 1, k * 2 + 1, none⟩ = some (.int .i64 (R k).v) ∧ w1.cell? ⟨p, k * 2, none⟩ = some (.bool (P k).i)
    ∧ w1.cell? ⟨v, 0, none⟩ = some (.bool V.i) ∧ w1.cell? ⟨v, 1, none⟩ = some (.int .i64 V.v) ∧ w1.cell? ⟨v, 2, none⟩ = some (.int .i64 V.n) ∧ Hid (StepAt w0 H F R P V p v k w1) :=
  have q := step_below h b
  ⟨blk_cell q.hr (rs_i R k hk), blk_cell q.hr (rs_v R k hk), blk_cell q.hp (rs_i P k hk), blk_cell q.hv (o := 0) rfl, blk_cell q.hv (o := 1) rfl, blk_cell q.hv (o := 2) rfl, q⟩
theorem step_again {w0 w w1 : World} {H F : Nat → Hl} {R P : Nat → Rd} {V : Vt} {p v k : Nat} {A B C D E G : Prop} (h : A ∧ B ∧ C ∧ D ∧ E ∧ G ∧ Hid (StepAt w0 H F R P V p v k w)) (hk : k < 3) (b : Below w.heap.size w w1) :
    w1.cell? ⟨w0.heap.size + 1, k * 2, none⟩ = some (.bool (R k).i) ∧ w1.cell? ⟨w0.heap.size + 1, k * 2 + 1, none⟩ = some (.int .i64 (R k).v) ∧ w1.cell? ⟨p, k * 2, none⟩ = some (.bool (P k).i)
    ∧ w1.cell? ⟨v, 0, none⟩ = some (.bool V.i) ∧ w1.cell? ⟨v, 1, none⟩ = some (.int .i64 V.v) ∧ w1.cell? ⟨v, 2, none⟩ = some (.int .i64 V.n) ∧ Hid (StepAt w0 H F R P V p v k w1) := step_held h.2.2.2.2.2.2.out hk b
theorem step_put {w0 w : World} {H F : Nat → Hl} {R P : Nat → Rd} {V : Vt} {p v k : Nat} {s : Hl} (h : StepAt w0 H F R P V p v k w) (hs : F k = s) (hk : k < 3) :
    StepAt w0 H F R P V p v (k + 1) (((w.setCell ⟨w0.heap.size, k * 3, none⟩ (.int .i64 s.b)).setCell ⟨w0.heap.size, k * 3 + 1, none⟩ (.bool s.o)).setCell ⟨w0.heap.size, k * 3 + 2, none⟩ (.int .i64 s.g)) := by
  have hlp := h.lp
  have hlv := h.lv
  exact ⟨((h.below.setCell (p := ⟨w0.heap.size, k * 3, none⟩) (Nat.le_refl _) _).setCell (p := ⟨w0.heap.size, k * 3 + 1, none⟩) (Nat.le_refl _) _).setCell (p := ⟨w0.heap.size, k * 3 + 2, none⟩) (Nat.le_refl _) _, by
    rw [← mixH_set hs hk]; exact blk_set (blk_set (blk_set h.hh _ _) _ _) _ _, blk_far (blk_far (blk_far h.hr _ _ (by omega)) _ _ (by omega)) _ _ (by omega), blk_far (blk_far (blk_far h.h8 _ _ (by omega)) _ _ (by omega)) _ _ (by omega),
    blk_far (blk_far (blk_far h.h9 _ _ (by omega)) _ _ (by omega)) _ _ (by omega), blk_far (blk_far (blk_far h.hp _ _ (by omega)) _ _ (by omega)) _ _ (by omega), blk_far (blk_far (blk_far h.hv _ _ (by omega)) _ _ (by omega)) _ _ (by omega), h.lp, h.lv⟩
theorem step_end {w0 w : World} {H F : Nat → Hl} {R P : Nat → Rd} {V : Vt} {p v : Nat} (h : StepAt w0 H F R P V p v 3 w) :
    EndAt w0 w0.heap.size v (w0.heap.size + 1 + 1) (w0.heap.size + 1 + 1 + 1) 24 29 (hsA F) (vc V) (hsA noH) (vc noV) w.drew := by
  have hlp := h.lp
  have hlv := h.lv
  exact ⟨below_drewN h.below 1, by rw [← mixH_all H F]; exact h.hh, h.hv, h.h8, h.h9, by omega, by omega, by omega, by omega, by omega, by omega, by omega⟩
/-- The beginning: four blocks, then what is present, and what it comes to. -/
abbrev four (w : World) (H : Nat → Hl) (R : Nat → Rd) : World := (((w.alloc (.cells (hsA H) 24)).alloc (.cells (rsA R) 27)).alloc (.cells (hsA noH) 24)).alloc (.cells (vc noV) 29)
theorem four_at (w : World) (H : Nat → Hl) (R : Nat → Rd) : Below w.heap.size w (four w H R) ∧ Blk (four w H R) w.heap.size (hsA H) 24 ∧ Blk (four w H R) (w.heap.size + 1) (rsA R) 27 ∧ Blk (four w H R) (w.heap.size + 1 + 1) (hsA noH) 24 ∧ Blk (four w H R) (w.heap.size + 1 + 1 + 1) (vc noV) 29 := by
  have a1 := blk_alloc w (hsA H) 24
  have a2 := blk_alloc2 w (.cells (hsA H) 24) (rsA R) 27
  have a3 := blk_alloc2 (w.alloc (.cells (hsA H) 24)) (.cells (rsA R) 27) (hsA noH) 24
  have a4 := blk_alloc2 ((w.alloc (.cells (hsA H) 24)).alloc (.cells (rsA R) 27)) (.cells (hsA noH) 24) (vc noV) 29
  rw [World.size_alloc] at a3
  rw [World.size_alloc, World.size_alloc] at a4
  have k : ∀ (W : World) (o : Obj), Below W.heap.size W (W.alloc o) := fun W o => (Below.refl _ W).alloc (Nat.le_refl _) o
  exact ⟨bthen (bthen (bthen (k _ _) (k _ _)) (k _ _)) (k _ _), blk_kept (blk_kept (blk_kept a1 (k _ _)) (k _ _)) (k _ _), blk_kept (blk_kept a2 (k _ _)) (k _ _), blk_kept a3 (k _ _), a4⟩
theorem step_begin {w w1 w2 : World} {H F : Nat → Hl} {R P : Nat → Rd} {V : Vt} (b1 : Below (four w H R).heap.size (four w H R) w1) (b2 : Below (w1.alloc (.cells (rsA P) 27)).heap.size (w1.alloc (.cells (rsA P) 27)) w2) :
    StepAt w H F R P V w1.heap.size w2.heap.size 0 (w2.alloc (.cells (vc V) 29)) := by
  obtain ⟨q0, q1, q2, q3, q4⟩ := four_at w H R
  have b3 : Below w2.heap.size w2 (w2.alloc (.cells (vc V) 29)) := (Below.refl _ w2).alloc (Nat.le_refl _) _
  have c1 := below_alloc b2
  have k1 := blk_lt (blk_kept q4 b1)
  have k2 := blk_lt (blk_kept (blk_kept q4 b1) c1)
  exact ⟨bthen (bthen (bthen q0 b1) c1) b3, blk_kept (blk_kept (blk_kept q1 b1) c1) b3, blk_kept (blk_kept (blk_kept q2 b1) c1) b3, blk_kept (blk_kept (blk_kept q3 b1) c1) b3, blk_kept (blk_kept (blk_kept q4 b1) c1) b3, blk_kept (blk_kept (blk_alloc w1 _ _) b2) b3, blk_alloc w2 _ _, by omega, by omega⟩

set_option maxRecDepth 100000 in
set_option maxHeartbeats 8000000 in
theorem stepC (H : Nat → Hl) (R : Nat → Rd) (d : Int) (q : Bool) (w : World) (hR : ∀ i, In (R i).v) (hd : In d) :
    Calls Try.prog 8 #[.agg (hsA H), .agg (rsA R), .int .i64 d, .bool q] w fun e w' => e = .returned (.tuple #[.agg (hsA (stH H R d q)), vv (stV H R d)]) ∧ Below w.heap.size w w' := by
  have HR := Lib.hid hR
  have HP := Lib.hid (pres_in H R hR)
  have HV := Lib.hid (stV_in H R d hR)
  have HD := Lib.hid hd
  have HF : Hid (∀ k, stH H R d q k = next (H k) (bd (R k) (pres H R k).i (stV H R d) d) q) := fun _ => rfl
  have cC : ∀ W, Calls Try.prog 18 #[.agg (rsA (pres H R)), .int .i64 d] W fun e w' => e = .returned (vv (stV H R d)) ∧ Below W.heap.size W w' := fun W => comesToC (pres H R) d W HP.out hd
  have cP : ∀ W, Calls Try.prog 17 #[.agg (hsA H), .agg (rsA R)] W fun e w' => e = .returned (.agg (rsA (pres H R))) ∧ Below W.heap.size W w' := fun W => presentC H R W
  clear hR hd HP
  generalize stH H R d q = F at *
  generalize stV H R d = V at *
  generalize pres H R = P at *
  go_enter Try.func8, Try.ntmps8
  go_wp2_with fail
  refine (cP _).mono ?_
  rintro e w1 ⟨rfl, b1⟩
  have B1 := Lib.hid (show Below (four w H R).heap.size (four w H R) w1 from b1)
  clear b1 cP
  go_wp2_with fail
  refine (cC _).mono ?_
  rintro e w2 ⟨rfl, b2⟩
  have K0 := Lib.hid (step_begin (F := F) (V := V) (P := P) B1.out b2)
  clear b2 B1 cC
  go_wp2
  go_loopw [20] (fun v wr => ∃ k : Nat, v = .int .i64 k ∧ k ≤ 3 ∧ StepAt w H F R P V w1.heap.size w2.heap.size k wr) (fun v _ => 3 - (intOf v).toNat)
  case atStart => exact ⟨0, rfl, by omega, K0.out⟩
  case round =>
    rename_i wr
    obtain ⟨k, rfl, hk, A⟩ := hrel
    have HA := Lib.hid A
    clear A K0
    by_cases hk3 : k < 3
    · have k0 : (0 : Int) ≤ (k : Int) := Int.natCast_nonneg _
      have k3 : (k : Int) < 3 := by omega
      have HK := Lib.hid hk3
      go_wp2_with fail
      go_region_held3 (fun w' => w'.cell? ⟨w.heap.size + 1, k * 2, none⟩ = some (.bool (R k).i) ∧ w'.cell? ⟨w.heap.size + 1, k * 2 + 1, none⟩ = some (.int .i64 (R k).v) ∧ w'.cell? ⟨w1.heap.size, k * 2, none⟩ = some (.bool (P k).i) ∧ w'.cell? ⟨w2.heap.size, 0, none⟩ = some (.bool V.i) ∧ w'.cell? ⟨w2.heap.size, 1, none⟩ = some (.int .i64 V.v) ∧ w'.cell? ⟨w2.heap.size, 2, none⟩ = some (.int .i64 V.n) ∧ Hid (StepAt w H F R P V w1.heap.size w2.heap.size k w'))
        (first
          | exact step_held HA.out HK.out (below_drewN (Below.refl _ _) 1)
          | exact step_again (by assumption) HK.out bb
          | assumption)
        (first
          | (go_at_call 19; refine (isBadC (R k) (P k).i V d _ (HR.out k) HV.out HD.out).mono ?_; rintro e v ⟨rfl, bb⟩))
      have HB : Hid (StepAt w H F R P V w1.heap.size w2.heap.size k v) := by go_split_ands; assumption
      generalize hy : bd (R k) (P k).i V d = y at *
      have HY := Lib.hid ((HF.out k).trans (by rw [hy]))
      clear HA hy
      have a0 := blk_cell HB.out.hh (o := k * 3) (v := .int .i64 (H k).b) ((hs_b _ k hk3).trans (by rw [mixH_at]))
      have a1 := blk_cell HB.out.hh (o := k * 3 + 1) (v := .bool (H k).o) ((hs_o _ k hk3).trans (by rw [mixH_at]))
      have a2 := blk_cell HB.out.hh (o := k * 3 + 2) (v := .int .i64 (H k).g) ((hs_g _ k hk3).trans (by rw [mixH_at]))
      go_wp2_with fail
      refine (nextC (H k) y q _).mono ?_
      rintro e v3 ⟨rfl, b3⟩
      have HC := Lib.hid (step_below HB.out b3)
      clear b3 a0 a1 a2 HB
      have a0 := blk_cell HC.out.hh (o := k * 3) (hs_b _ k hk3)
      have a1 := blk_cell HC.out.hh (o := k * 3 + 1) (hs_o _ k hk3)
      have a2 := blk_cell HC.out.hh (o := k * 3 + 2) (hs_g _ k hk3)
      have f0 := blk_free HC.out.hh (k * 3)
      have f1 := blk_free HC.out.hh (k * 3 + 1)
      have f2 := blk_free HC.out.hh (k * 3 + 2)
      generalize next (H k) y q = s at *
      go_wp2
      go_roundw
      case rel => exact ⟨k + 1, by go_num, by omega, step_put HC.out HY.out hk3⟩
      case measure => simp [intOf]; omega
    · obtain rfl : k = 3 := by omega
      have e3 : ((3 : Nat) : Int) = 3 := rfl
      have E := Lib.hid (step_end HA.out)
      go_upto_region 9 with (fail)
      refine wp_region_any (by kernel_rfl) ?_
      change wpAny _ _ _ _ _ _ _ (World.drew _)
      refine wpAny_ready (rs := [0, 1]) (by kernel_rfl) (by simp) ?_
      refine AllReady.cons rfl (fun K hK => ?_) (AllReady.cons rfl (fun K hK => ?_) AllReady.nil)
      · skip
        refine wp_load_row 24 (.tmp 4) rfl w.heap.size rfl 24 (hsA F) (0, 0) _ E.out.ha Try.underlying24 rfl infoHs ?_
        refine hK _ _ ?_
        clear hK K
        refine wpAny_ready (rs := [1, 2]) (by kernel_rfl) (by simp) ?_
        refine AllReady.cons rfl (fun K hK => ?_) (AllReady.cons rfl (fun K hK => ?_) AllReady.nil)
        · skip
          refine wp_load_row 29 (.tmp 11) rfl w2.heap.size rfl 29 (vc V) (0, 0) _ E.out.hb Try.underlying29 rfl infoV ?_
          refine hK _ _ ?_
          clear hK K
          refine wpAny_ready (rs := [2]) (by kernel_rfl) (by simp) ?_
          refine AllReady.cons rfl (fun K hK => ?_) AllReady.nil
          refine wp_store_row 24 (.tmp 8) (.tmp 42) rfl (w.heap.size + 1 + 1) (hsA F) rfl rfl 24 _ E.out.hc infoHs rfl (by kernel_rfl) ?_
          have E1 := Lib.hid (end_c E.out)
          refine hK _ _ ?_
          clear hK K
          refine wpAny_ready (rs := [3]) (by kernel_rfl) (by simp) ?_
          refine AllReady.cons rfl (fun K hK => ?_) AllReady.nil
          refine wp_store_row 29 (.tmp 9) (.tmp 43) rfl (w.heap.size + 1 + 1 + 1) (vc V) rfl rfl 29 _ E1.out.hd infoV rfl (by kernel_rfl) ?_
          have E2 := Lib.hid (end_d E1.out)
          refine hK _ _ ?_
          clear hK K
          refine wpAny_done (by kernel_rfl) ?_ _
          go_wp2
          refine bodyPost_ret (v := .tuple #[.agg (hsA F), vv V]) ?_ rfl ⟨rfl, E2.out.below⟩
          exact ret_rows Try.results8 _ _ (w.heap.size + 1 + 1) (w.heap.size + 1 + 1 + 1) (hsA F) (vc V) rfl rfl (row_hs E2.out.hc) (row_vt E2.out.hd)
        · skip
          refine wp_store_row 24 (.tmp 8) (.tmp 42) rfl (w.heap.size + 1 + 1) (hsA F) rfl rfl 24 _ E.out.hc infoHs rfl (by kernel_rfl) ?_
          have E3 := Lib.hid (end_c E.out)
          refine hK _ _ ?_
          clear hK K
          refine wpAny_ready (rs := [1]) (by kernel_rfl) (by simp) ?_
          refine AllReady.cons rfl (fun K hK => ?_) AllReady.nil
          refine wp_load_row 29 (.tmp 11) rfl w2.heap.size rfl 29 (vc V) (0, 0) _ E3.out.hb Try.underlying29 rfl infoV ?_
          refine hK _ _ ?_
          clear hK K
          refine wpAny_ready (rs := [3]) (by kernel_rfl) (by simp) ?_
          refine AllReady.cons rfl (fun K hK => ?_) AllReady.nil
          refine wp_store_row 29 (.tmp 9) (.tmp 43) rfl (w.heap.size + 1 + 1 + 1) (vc V) rfl rfl 29 _ E3.out.hd infoV rfl (by kernel_rfl) ?_
          have E4 := Lib.hid (end_d E3.out)
          refine hK _ _ ?_
          clear hK K
          refine wpAny_done (by kernel_rfl) ?_ _
          go_wp2
          refine bodyPost_ret (v := .tuple #[.agg (hsA F), vv V]) ?_ rfl ⟨rfl, E4.out.below⟩
          exact ret_rows Try.results8 _ _ (w.heap.size + 1 + 1) (w.heap.size + 1 + 1 + 1) (hsA F) (vc V) rfl rfl (row_hs E4.out.hc) (row_vt E4.out.hd)
      · skip
        refine wp_load_row 29 (.tmp 11) rfl w2.heap.size rfl 29 (vc V) (0, 0) _ E.out.hb Try.underlying29 rfl infoV ?_
        refine hK _ _ ?_
        clear hK K
        refine wpAny_ready (rs := [0]) (by kernel_rfl) (by simp) ?_
        refine AllReady.cons rfl (fun K hK => ?_) AllReady.nil
        refine wp_load_row 24 (.tmp 4) rfl w.heap.size rfl 24 (hsA F) (0, 0) _ E.out.ha Try.underlying24 rfl infoHs ?_
        refine hK _ _ ?_
        clear hK K
        refine wpAny_ready (rs := [2]) (by kernel_rfl) (by simp) ?_
        refine AllReady.cons rfl (fun K hK => ?_) AllReady.nil
        refine wp_store_row 24 (.tmp 8) (.tmp 42) rfl (w.heap.size + 1 + 1) (hsA F) rfl rfl 24 _ E.out.hc infoHs rfl (by kernel_rfl) ?_
        have E5 := Lib.hid (end_c E.out)
        refine hK _ _ ?_
        clear hK K
        refine wpAny_ready (rs := [3]) (by kernel_rfl) (by simp) ?_
        refine AllReady.cons rfl (fun K hK => ?_) AllReady.nil
        refine wp_store_row 29 (.tmp 9) (.tmp 43) rfl (w.heap.size + 1 + 1 + 1) (vc V) rfl rfl 29 _ E5.out.hd infoV rfl (by kernel_rfl) ?_
        have E6 := Lib.hid (end_d E5.out)
        refine hK _ _ ?_
        clear hK K
        refine wpAny_done (by kernel_rfl) ?_ _
        go_wp2
        refine bodyPost_ret (v := .tuple #[.agg (hsA F), vv V]) ?_ rfl ⟨rfl, E6.out.below⟩
        exact ret_rows Try.results8 _ _ (w.heap.size + 1 + 1) (w.heap.size + 1 + 1 + 1) (hsA F) (vc V) rfl rfl (row_hs E6.out.hc) (row_vt E6.out.hd)

end Go.Proofs.Ytafifglfbebhaaa.Vote
