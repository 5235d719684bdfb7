/- Contracts of plane's held and Says. Conditions: the tables of bounds lie there; the numbers are int64 numbers. -/
import Derived.Test.YtaicijhkchfcfaaDoorPlStep
namespace Go.Proofs.YtaicijhkchfcfaaDoor.Pl
open Go.ChangeShapes Go.WideShapes Go.ChangeAt Go.RowKit Num Mem

/-- What a word of a signal holds. -/
def lo (i : Nat) : Int := Dict.kLo (Dict.sL (i : Int))
def hi (i : Nat) : Int := Dict.kHi (Dict.sL (i : Int))
theorem lh_ok : ∀ i : Nat, i < 4 → -100000 ≤ lo i ∧ lo i ≤ hi i ∧ hi i ≤ 200000 := fun i h => match i, h with
  | 0, _ => ⟨by decide +kernel, by decide +kernel, by decide +kernel⟩
  | 1, _ => ⟨by decide +kernel, by decide +kernel, by decide +kernel⟩
  | 2, _ => ⟨by decide +kernel, by decide +kernel, by decide +kernel⟩
  | 3, _ => ⟨by decide +kernel, by decide +kernel, by decide +kernel⟩
theorem lo_In {i : Nat} (h : i < 4) : In (lo i) := by have := lh_ok i h; exact ⟨by omega, by omega⟩
theorem hi_In {i : Nat} (h : i < 4) : In (hi i) := by have := lh_ok i h; exact ⟨by omega, by omega⟩
/-- A signal's kind in memory. -/
abbrev kZ : Array Value := #[.int .i64 0, .int .i64 0, .int .i64 0, .int .i64 0]
theorem infoK : (Tryd.prog.info? 40).map (·.size) = some 4 := by kernel_rfl
def stK (x v : Value) : Sem Unit := Instr.storeAt 40 x v
theorem stK_eq (x v : Value) : Instr.storeAt 40 x v = stK x v := rfl
theorem stK_blk {W : World} {g : Nat} {us : Array Value} (hus : us.size = 4) (l : Int) (K : Blk W g us 40) : (stK (.pointer (some ⟨g, 0, none⟩)) (.agg (Dict.kA l))).run Tryd.prog W = .ok () (W.setRow g (Dict.kA l)) := by
  unfold stK
  simp only [Instr.storeAt, Instr.sureAddr, Sem.run_bind, Sem.run_pure, Result.andThen_ok, run_storeVar_row W g 40 40 _ (Dict.kA l) K infoK hus (by kernel_rfl)]

/-- One number of a block, stored. -/
def stI (x v : Value) : Sem Unit := Instr.storeAt 2 x v
theorem stI_eq (x v : Value) : Instr.storeAt 2 x v = stI x v := rfl
theorem stI_cell {W : World} {g o : Nat} {v : Value} (x : Int) (c : W.cell? ⟨g, o, none⟩ = some v) (f : W.frozen? ⟨g, o, none⟩ = false) : (stI (.pointer (some ⟨g, o, none⟩)) (.int .i64 x)).run Tryd.prog W = .ok () (W.setCell ⟨g, o, none⟩ (.int .i64 x)) := by
  unfold stI
  go_simp

section
attribute [local go_sem ↓] stK_eq
set_option maxRecDepth 100000 in
set_option maxHeartbeats 4000000 in
theorem heldC (i : Nat) (hi4 : i < 4) (v : Int) (hv : In v) (w : World) : Calls Tryd.prog 23 #[.int .i64 (i : Int), .int .i64 v] w fun e w' => e = .returned (.int .i64 (within v (lo i) (hi i))) ∧ Below w.heap.size w w' := by
  have KC := Lib.hid (fun V => Dict.kindOf (i : Int) V)
  have WC := Lib.hid (fun V => withinC v (lo i) (hi i) V hv (lo_In hi4) (hi_In hi4))
  have EL : lo i = Dict.kLo (Dict.sL (i : Int)) := rfl
  have EH : hi i = Dict.kHi (Dict.sL (i : Int)) := rfl
  have i0 : (0 : Int) ≤ (i : Int) := Int.natCast_nonneg _
  have i4 : (i : Int) < 4 := by omega
  clear hi4 hv
  generalize within v (lo i) (hi i) = r at *
  generalize Dict.sL (i : Int) = l at *
  rw [EL, EH] at WC
  clear EL EH
  go_enter Tryd.func23, Tryd.ntmps23
  go_wp2_with fail
  refine (KC.out _).mono ?_
  rintro e w1 ⟨rfl, b1⟩
  have B1 := Lib.hid b1
  clear b1
  have s1 := stK_blk (us := kZ) rfl l (blk_alloc w1 _ 40)
  have HK := Lib.hid (blk_row (blk_alloc w1 kZ 40) (Dict.kA l))
  have B2 := Lib.hid (below_row (below_new (bthen (Below.refl _ w) B1.out) (.cells kZ 40)) B1.out.size (Dict.kA l))
  go_upto_region 2 with (fail)
  clear s1 B1
  generalize World.setRow _ _ _ = W at *
  have c1 := blk_cell HK.out (o := 1) (v := .int .i64 (Dict.kLo l)) rfl
  have c2 := blk_cell HK.out (o := 2) (v := .int .i64 (Dict.kHi l)) rfl
  go_wp2_with fail
  refine (WC.out _).mono ?_
  rintro e w2 ⟨rfl, rfl⟩
  clear c1 c2
  go_wp2
  go_ret
  exact ⟨rfl, B2.out⟩
end

/-- What a source says. -/
def sayq (p : Pt) (q : Nat → Int) (i k : Nat) : Int := within (sat (val p i + calq q (4 + i * 3 + k))) (lo i) (hi i)
theorem sayq_cal (p : Pt) (q : Nat → Int) : sayq p (calq q) = sayq p q := by unfold sayq; rw [calq_twice]
theorem sayq_is (p : Pt) (q : Nat → Int) (i k : Nat) : sayq p q i k = say p (ofq q) (lo i) (hi i) i k := by
  unfold sayq say
  rw [cal_of]
  show _ = within (sat (val p i + calq q (4 + (3 * i + k)))) (lo i) (hi i)
  rw [show 4 + (3 * i + k) = 4 + i * 3 + k by omega]
theorem sayq_In {p : Pt} {q : Nat → Int} {i : Nat} (k : Nat) (h : i < 4) : In (sayq p q i k) := by
  have := lh_ok i h
  have := wi_bd (n := sat (val p i + calq q (4 + i * 3 + k))) (show lo i ≤ hi i by omega)
  exact ⟨by unfold sayq; omega, by unfold sayq; omega⟩

abbrev zF : Nat → Nat → Int := fun _ _ => 0
/-- What Says lays: the answer, what is said so far, what is true. -/
structure SyAt (w0 : World) (v : Nat → Int) (g : Nat) (f : Nat → Nat → Int) (n : Nat) (w : World) : Prop where
  below : Below w0.heap.size w0 w
  hz : Blk w (w0.heap.size + 1 + 1) (wA zF) 27
  ho : Blk w (w0.heap.size + 1 + 1 + 1) (wA (mixF zF f n)) 27
  ht : Blk w g (n4A v) 43
  hg : w0.heap.size + 1 + 1 + 1 < g
section
variable {w0 w w1 : World} {v : Nat → Int} {g : Nat} {f : Nat → Nat → Int} {n : Nat}
theorem sy_call (h : SyAt w0 v g f n w) (b : Below w.heap.size w w1) : SyAt w0 v g f n w1 := ⟨bthen h.below b, blk_kept h.hz b, blk_kept h.ho b, blk_kept h.ht b, h.hg⟩
theorem sy_drew (h : SyAt w0 v g f n w) : SyAt w0 v g f n w.drew := ⟨below_drewN h.below 1, h.hz, h.ho, h.ht, h.hg⟩
theorem sy_as (h : SyAt w0 v g f n w) {m : Nat} (e : n = m) : SyAt w0 v g f m w := e ▸ h
theorem sy_three (h : SyAt w0 v g f n w) (c : Nat → Int) : SyAt w0 v g f n ((w.alloc (.cells (cA zC) 26)).setRow w.heap.size (cA c)) ∧ Blk ((w.alloc (.cells (cA zC) 26)).setRow w.heap.size (cA c)) w.heap.size (cA c) 26 := by
  have k := sy_call h (allocs w (.cells (cA zC) 26))
  have z := blk_lt h.ht
  have hg := h.hg
  exact ⟨⟨below_row k.below h.below.size _, blk_row_far k.hz (by omega) _, blk_row_far k.ho (by omega) _, blk_row_far k.ht (by omega) _, hg⟩, blk_row (blk_alloc _ _ _) _⟩
theorem sy_next {i k : Nat} (h : SyAt w0 v g f (i * 3 + k) w) (hi : i < 4) (hk : k < 3) : SyAt w0 v g f (i * 3 + k + 1) (w.setCell ⟨w0.heap.size + 1 + 1 + 1, i * 3 + k, none⟩ (.int .i64 (f i k))) := by
  have hg := h.hg
  exact ⟨h.below.setCell (p := ⟨w0.heap.size + 1 + 1 + 1, i * 3 + k, none⟩) (by show w0.heap.size ≤ w0.heap.size + 1 + 1 + 1; omega) _, blk_far h.hz _ _ (by omega), blk_eq (by rw [wA_set _ _ i k hi hk]; exact wA_as fun a b ha hb => mixF_next zF f hi hk a b ha hb) (blk_set h.ho _ _), blk_far h.ht _ _ (by omega), hg⟩
theorem sy_s {i k : Nat} (h : SyAt w0 v g f n w) (hi : i < 4) (hk : k < 3) (x : Int) : w.cell? ⟨g, i, none⟩ = some (.int .i64 (v i)) ∧ (stI (.pointer (some ⟨w0.heap.size + 1 + 1 + 1, i * 3 + k, none⟩)) (.int .i64 x)).run Tryd.prog w = .ok () (w.setCell ⟨w0.heap.size + 1 + 1 + 1, i * 3 + k, none⟩ (.int .i64 x)) :=
  ⟨blk_cell h.ht (n4_at v i hi), stI_cell x (blk_cell h.ho (wA_at _ i k hi hk)) (blk_free h.ho _)⟩
end
/-- What Says boxes. -/
structure SbAt (w0 : World) (p : Pt) (q : Nat → Int) (w : World) : Prop where
  below : Below w0.heap.size w0 w
  hp : Blk w w0.heap.size (ptA p) 23
  hq : Blk w (w0.heap.size + 1) (gA q) 29
  hz : Blk w (w0.heap.size + 1 + 1) (wA zF) 27
  ho : Blk w (w0.heap.size + 1 + 1 + 1) (wA zF) 27
theorem sb_box (w : World) (p : Pt) (q : Nat → Int) : SbAt w p q ((((w.alloc (.cells (ptA p) 23)).alloc (.cells (gA q) 29)).alloc (.cells (wA zF) 27)).alloc (.cells (wA zF) 27)) :=
  ⟨below_new (below_new (below_new (allocs w _) _) _) _, blk_kept (blk_kept (blk_kept (blk_alloc w _ _) (allocs _ _)) (allocs _ _)) (allocs _ _), blk_kept (blk_kept (blk_alloc2 w _ _ _) (allocs _ _)) (allocs _ _), blk_kept (blk_alloc3 w _ _ _ _) (allocs _ _), by
    have h := blk_alloc3 (w.alloc (.cells (ptA p) 23)) (.cells (gA q) 29) (.cells (wA zF) 27) (wA zF) 27
    simpa using h⟩
section
variable {w0 w w1 : World} {p : Pt} {q : Nat → Int}
theorem sb_call (h : SbAt w0 p q w) (b : Below w.heap.size w w1) : SbAt w0 p q w1 := ⟨bthen h.below b, blk_kept h.hp b, blk_kept h.hq b, blk_kept h.hz b, blk_kept h.ho b⟩
theorem sb_row (h : SbAt w0 p q w) {g : Nat} (hg : w0.heap.size + 1 + 1 + 1 < g) (cs : Array Value) : SbAt w0 p q (w.setRow g cs) :=
  ⟨below_row h.below (by omega) _, blk_row_far h.hp (by omega) _, blk_row_far h.hq (by omega) _, blk_row_far h.hz (by omega) _, blk_row_far h.ho (by omega) _⟩
theorem sb_air (h : SbAt w0 p q w) (q' : Nat → Int) : SbAt w0 p q' (w.setRow (w0.heap.size + 1) (gA q')) :=
  ⟨below_row h.below (by omega) _, blk_row_far h.hp (by omega) _, blk_row h.hq _, blk_row_far h.hz (by omega) _, blk_row_far h.ho (by omega) _⟩
theorem sb_true (h : SbAt w0 p q w) (v : Nat → Int) : SbAt w0 p q ((w.alloc (.cells (n4A zC) 43)).setRow w.heap.size (n4A v)) ∧ Blk ((w.alloc (.cells (n4A zC) 43)).setRow w.heap.size (n4A v)) w.heap.size (n4A v) 43 ∧ w0.heap.size + 1 + 1 + 1 < w.heap.size :=
  ⟨sb_row (sb_call h (allocs _ _)) (blk_lt h.ho) _, blk_row (blk_alloc _ _ _) _, blk_lt h.ho⟩
theorem sy_of (h : SbAt w0 p q w) {g : Nat} {v : Nat → Int} (t : Blk w g (n4A v) 43) (hg : w0.heap.size + 1 + 1 + 1 < g) (f : Nat → Nat → Int) : SyAt w0 v g f 0 w :=
  ⟨h.below, h.hz, by rw [mixF_zero]; exact h.ho, t, hg⟩
theorem sy_all {v : Nat → Int} {g : Nat} {f : Nat → Nat → Int} (h : SyAt w0 v g f 12 w) : Blk w (w0.heap.size + 1 + 1 + 1) (wA f) 27 := blk_eq (wA_as (mixF_all zF f)) h.ho
end

section
attribute [local go_sem ↓] ldP_eq ldG_eq ldW_eq stW_eq ldT_eq stT_eq stN_eq stI_eq
set_option maxRecDepth 100000 in
set_option maxHeartbeats 8000000 in
theorem saysC (p : Pt) (q : Nat → Int) (hp : Pin p) (hq : ∀ j, j < 16 → In (q j)) (w : World) (T : TbAt w) : Calls Tryd.prog 9 #[.agg (ptA p), .agg (gA q)] w fun e w' => e = .returned (.agg (wA (sayq p q))) ∧ Below w.heap.size w w' := by
  have HT := Lib.hid T
  have CC := Lib.hid (fun V (U : TbAt V) => calmC q hq V U)
  have TC := Lib.hid (fun V => truthsC p hp V)
  have AC : Hid (∀ (i k : Nat) (V : World), Calls Tryd.prog 18 #[.int .i64 (val p i), .int .i64 (calq q (4 + i * 3 + k))] V fun e w' => e = .returned (.int .i64 (sat (val p i + calq q (4 + i * 3 + k)))) ∧ V = w') :=
    Lib.hid fun i k V => add _ _ V (val_In hp i) (calq_In q _)
  have HC : Hid (∀ (i k : Nat) (V : World), i < 4 → Calls Tryd.prog 23 #[.int .i64 (i : Int), .int .i64 (sat (val p i + calq q (4 + i * 3 + k)))] V fun e w' => e = .returned (.int .i64 (sayq p q i k)) ∧ Below V.heap.size V w') :=
    Lib.hid fun i k V hi => heldC i hi _ (Pl.sat_In _) V
  clear hp hq T
  have K0 := Lib.hid (sb_box w p q)
  generalize sayq p q = f at *
  generalize calq q = r at *
  generalize val p = v at *
  go_enter Tryd.func9, Tryd.ntmps9
  go_upto_region 2 with (fail)
  generalize World.alloc _ _ = W at *
  have l1 := ldP_blk K0.out.hp
  go_wp2_with fail
  refine (TC.out _).mono ?_
  rintro e w1 ⟨rfl, b1⟩
  have K1 := Lib.hid (sb_call K0.out b1)
  clear l1 b1 K0
  have s1 := stN_blk (us := n4A zC) rfl v (blk_alloc w1 _ 43)
  have K2 := Lib.hid (sb_true K1.out v)
  go_upto_region 3 with (fail)
  clear s1 K1
  generalize World.setRow _ _ _ = W2 at *
  generalize w1.heap.size = g at *
  have l1 := ldG_blk K2.out.1.hq
  go_wp2_with fail
  refine (CC.out _ (tb_kept HT.out K2.out.1.below)).mono ?_
  rintro e w3 ⟨rfl, b1⟩
  have K3 := Lib.hid (sy_of (sb_call K2.out.1 b1) (blk_kept K2.out.2.1 b1) K2.out.2.2 f)
  clear l1 b1 K2 CC TC HT
  have fd := fun V => fd_w r V
  go_upto_region 4 with (fail)
  clear fd
  go_loopw [16] (fun i wr => ∃ i' : Nat, i = .int .i64 i' ∧ i' ≤ 4 ∧ SyAt w v g f (i' * 3) wr) (fun i _ => 4 - (intOf i).toNat)
  case atStart => exact ⟨0, rfl, by omega, K3.out⟩
  case round =>
    rename_i wr
    obtain ⟨i, rfl, hi, H⟩ := hrel
    have HA := Lib.hid H
    clear H K3
    by_cases hi4 : i < 4
    · have i0 : (0 : Int) ≤ (i : Int) := Int.natCast_nonneg _
      have i4 : (i : Int) < 4 := by omega
      have HI := Lib.hid hi4
      have ip := fun V => ix_w (gw r) V i hi4
      have s1 := stT_blk (us := cA zC) rfl (gw r i) (blk_alloc wr _ 26)
      obtain ⟨K2, B2⟩ := sy_three HA.out (gw r i)
      replace K2 := Lib.hid K2
      have l2 := ldT_blk B2
      clear B2 hi4
      go_upto_region 7 with (fail)
      clear s1 l2 ip HA
      generalize World.setRow _ _ _ = W2 at *
      go_loopw [21] (fun i' wr => ∃ k : Nat, i' = .int .i64 k ∧ k ≤ 3 ∧ SyAt w v g f (i * 3 + k) wr) (fun i _ => 3 - (intOf i).toNat)
      case atStart => exact ⟨0, rfl, by omega, K2.out⟩
      case round =>
        obtain ⟨k, rfl, hk, H⟩ := hrel
        have HB := Lib.hid H
        clear H K2
        by_cases hk3 : k < 3
        · have k0 : (0 : Int) ≤ (k : Int) := Int.natCast_nonneg _
          have k3 : (k : Int) < 3 := by omega
          have ip : ∀ V, (Instr.index 26 (.agg (cA (gw r i))) (.int .i64 (k : Int))).run Tryd.prog V = .ok (.int .i64 (r (4 + i * 3 + k))) V := fun V => ix_3 (gw r i) V k hk3
          have A1 := Lib.hid (AC.out i k)
          have A2 := Lib.hid (fun V => HC.out i k V HI.out)
          have NX := Lib.hid (fun V (h : SyAt w v g f (i * 3 + k) V) => sy_next h HI.out hk3)
          have SS := Lib.hid (fun n V (h : SyAt w v g f n V) => sy_s h HI.out hk3 (f i k))
          generalize sat (v i + r (4 + i * 3 + k)) = y at *
          generalize r (4 + i * 3 + k) = x at *
          generalize f i k = z at *
          clear hk3
          go_upto_region 9 with (fail)
          clear ip
          have TA := Lib.hid (sy_drew HB.out)
          clear HB
          go_region_held3 (fun w' => w'.cell? ⟨g, i, none⟩ = some (.int .i64 (v i)) ∧ (stI (.pointer (some ⟨w.heap.size + 1 + 1 + 1, i * 3 + k, none⟩)) (.int .i64 z)).run Tryd.prog w' = .ok () (w'.setCell ⟨w.heap.size + 1 + 1 + 1, i * 3 + k, none⟩ (.int .i64 z)))
            (first
              | (with_reducible assumption)
              | exact SS.out _ _ TA.out
              | exact SS.out _ _ (NX.out _ TA.out))
            (first
            | ((with_reducible refine (A1.out _).mono ?_); rintro e u ⟨rfl, rfl⟩)
            | ((with_reducible refine (A2.out _).mono ?_); rintro e u ⟨rfl, bb⟩; replace TA := Lib.hid (sy_call TA.out bb); clear bb))
          all_goals
            have TB := Lib.hid (NX.out _ TA.out)
            go_wp2
            go_roundw
            case rel => exact ⟨k + 1, by go_num, by omega, TB.out⟩
            case measure => simp [intOf]; omega
        · obtain rfl : k = 3 := by omega
          have e3 : ((3 : Nat) : Int) = 3 := rfl
          go_wp2
          go_roundw
          case rel => exact ⟨i + 1, by go_num, by omega, sy_as HB.out (by omega)⟩
          case measure => simp [intOf]; omega
    · obtain rfl : i = 4 := by omega
      have HF := Lib.hid (sy_all (sy_as HA.out (by omega)))
      have HG := Lib.hid HA.out.below
      have HR := Lib.hid HA.out.hz
      clear HA
      have l3 := ldW_blk HF.out
      have s3 := stW_blk rfl f HR.out
      go_wp2
      refine bodyPost_ret (v := .agg (wA f)) ?_ rfl ⟨rfl, below_row HG.out (by omega) _⟩
      exact retW Tryd.results9 _ _ (w.heap.size + 1 + 1) f rfl (blk_row HR.out _)
end

end Go.Proofs.YtaicijhkchfcfaaDoor.Pl
