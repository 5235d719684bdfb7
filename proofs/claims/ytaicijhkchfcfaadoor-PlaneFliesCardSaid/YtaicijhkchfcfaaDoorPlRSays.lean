/- Contract of the document's Says. Conditions: the numbers are int64 numbers. -/
import Derived.Test.YtaicijhkchfcfaaDoorPlRCalm
import Derived.Test.YtaicijhkchfcfaaDoorPlSays
namespace Go.Proofs.YtaicijhkchfcfaaDoor.Pl
open Go.ChangeShapes Go.WideShapes Go.ChangeAt Go.RowKit Num Mem

/-- What the document's Says lays: an aeroplane, what is wrong, the answer, what is said so far. -/
structure RyAt (w0 : World) (p : Pt) (r : Nat → Int) (g : Nat) (f : Nat → Nat → Int) (n : Nat) (w : World) : Prop where
  below : Below w0.heap.size w0 w
  hp : Blk w w0.heap.size (ptA p) 23
  hq : Blk w (w0.heap.size + 1) (gA r) 29
  hz : Blk w (w0.heap.size + 1 + 1) (wA zF) 27
  ho : Blk w g (wA (mixF zF f n)) 27
  hg : w0.heap.size + 1 + 1 < g
section
variable {w0 w w1 : World} {p : Pt} {r : Nat → Int} {g : Nat} {f : Nat → Nat → Int} {n : Nat}
theorem ry_call (h : RyAt w0 p r g f n w) (b : Below w.heap.size w w1) : RyAt w0 p r g f n w1 := ⟨bthen h.below b, blk_kept h.hp b, blk_kept h.hq b, blk_kept h.hz b, blk_kept h.ho b, h.hg⟩
theorem ry_drew (h : RyAt w0 p r g f n w) : RyAt w0 p r g f n w.drew := ⟨below_drewN h.below 1, h.hp, h.hq, h.hz, h.ho, h.hg⟩
theorem ry_as (h : RyAt w0 p r g f n w) {m : Nat} (e : n = m) : RyAt w0 p r g f m w := e ▸ h
theorem ry_row (h : RyAt w0 p r g f n w) {b : Nat} (hb : g < b) (cs : Array Value) : RyAt w0 p r g f n (w.setRow b cs) := by
  have hg := h.hg
  exact ⟨below_row h.below (by omega) _, blk_row_far h.hp (by omega) _, blk_row_far h.hq (by omega) _, blk_row_far h.hz (by omega) _, blk_row_far h.ho (by omega) _, hg⟩
theorem ry_kind (h : RyAt w0 p r g f n w) (l : Int) : RyAt w0 p r g f n ((w.alloc (.cells kZ 40)).setRow w.heap.size (Dict.kA l)) ∧ Blk ((w.alloc (.cells kZ 40)).setRow w.heap.size (Dict.kA l)) w.heap.size (Dict.kA l) 40 ∧ g < w.heap.size :=
  ⟨ry_row (ry_call h (allocs _ _)) (blk_lt h.ho) _, blk_row (blk_alloc _ _ _) _, blk_lt h.ho⟩
theorem ry_next {i k : Nat} (h : RyAt w0 p r g f (i * 3 + k) w) (hi : i < 4) (hk : k < 3) : RyAt w0 p r g f (i * 3 + k + 1) (w.setCell ⟨g, i * 3 + k, none⟩ (.int .i64 (f i k))) := by
  have hg := h.hg
  exact ⟨h.below.setCell (p := ⟨g, i * 3 + k, none⟩) (by show w0.heap.size ≤ g; omega) _, blk_far h.hp _ _ (by omega), blk_far h.hq _ _ (by omega), blk_far h.hz _ _ (by omega), blk_eq (by rw [wA_set _ _ i k hi hk]; exact wA_as fun a b ha hb => mixF_next zF f hi hk a b ha hb) (blk_set h.ho _ _), hg⟩
theorem ry_all (h : RyAt w0 p r g f 12 w) : Blk w g (wA f) 27 := blk_eq (wA_as (mixF_all zF f)) h.ho
end
/-- What the document's Says boxes. -/
structure RbAt (w0 : World) (p : Pt) (q : Nat → Int) (w : World) : Prop where
  below : Below w0.heap.size w0 w
  hp : Blk w w0.heap.size (ptA p) 23
  hq : Blk w (w0.heap.size + 1) (gA q) 29
  hz : Blk w (w0.heap.size + 1 + 1) (wA zF) 27
theorem rb_box (w : World) (p : Pt) (q : Nat → Int) : RbAt w p q (((w.alloc (.cells (ptA p) 23)).alloc (.cells (gA q) 29)).alloc (.cells (wA zF) 27)) :=
  ⟨below_new (below_new (allocs w _) _) _, blk_kept (blk_kept (blk_alloc w _ _) (allocs _ _)) (allocs _ _), blk_kept (blk_alloc2 w _ _ _) (allocs _ _), blk_alloc3 w _ _ _ _⟩
section
variable {w0 w w1 : World} {p : Pt} {q : Nat → Int}
theorem rb_call (h : RbAt w0 p q w) (b : Below w.heap.size w w1) : RbAt w0 p q w1 := ⟨bthen h.below b, blk_kept h.hp b, blk_kept h.hq b, blk_kept h.hz b⟩
theorem rb_air (h : RbAt w0 p q w) (q' : Nat → Int) : RbAt w0 p q' (w.setRow (w0.heap.size + 1) (gA q')) :=
  ⟨below_row h.below (by omega) _, blk_row_far h.hp (by omega) _, blk_row h.hq _, blk_row_far h.hz (by omega) _⟩
theorem ry_of (h : RbAt w0 p q w) (f : Nat → Nat → Int) : RyAt w0 p q w.heap.size f 0 (w.alloc (.cells (wA zF) 27)) := by
  have k := rb_call h (allocs w (.cells (wA zF) 27))
  exact ⟨k.below, k.hp, k.hq, k.hz, by rw [mixF_zero]; exact blk_alloc _ _ _, blk_lt h.hz⟩
end
/-- Which signal it is. -/
theorem sig_ways (p : Pt) (i : Nat) (h : i < 4) : (val p i = p.y ∧ ((i : Int) == 0) = true ∧ ((i : Int) == 1) = false ∧ ((i : Int) == 2) = false) ∨ (val p i = sat (p.h - p.x.tdiv 20) ∧ ((i : Int) == 0) = false ∧ ((i : Int) == 1) = true ∧ ((i : Int) == 2) = false) ∨ (val p i = p.h ∧ ((i : Int) == 0) = false ∧ ((i : Int) == 1) = false ∧ ((i : Int) == 2) = true) ∨ (val p i = p.t ∧ ((i : Int) == 0) = false ∧ ((i : Int) == 1) = false ∧ ((i : Int) == 2) = false) := match i, h with
  | 0, _ => .inl ⟨rfl, rfl, rfl, rfl⟩
  | 1, _ => .inr (.inl ⟨rfl, rfl, rfl, rfl⟩)
  | 2, _ => .inr (.inr (.inl ⟨rfl, rfl, rfl, rfl⟩))
  | 3, _ => .inr (.inr (.inr ⟨rfl, rfl, rfl, rfl⟩))

section
attribute [local go_sem ↓] ldG_eq stG_eq ldW_eq stW_eq stK_eq
set_option maxRecDepth 100000 in
set_option maxHeartbeats 16000000 in
theorem rSaysC (p : Pt) (q : Nat → Int) (hp : Pin p) (hq : ∀ j, j < 16 → In (q j)) (w : World) : Calls Tryd.prog 10 #[.agg (ptA p), .agg (gA q)] w fun e w' => e = .returned (.agg (wA (sayq p q))) ∧ Below w.heap.size w w' := by
  have CC := Lib.hid (fun V => rCalmC q hq V)
  have KC := Lib.hid (fun (i : Nat) V => Dict.rKindOf (i : Int) V)
  have AC : Hid (∀ (i k : Nat) (V : World), Calls Tryd.prog 21 #[.int .i64 (val p i), .int .i64 (calq q (4 + i * 3 + k))] V fun e w' => e = .returned (.int .i64 (sat (val p i + calq q (4 + i * 3 + k)))) ∧ V = w') :=
    Lib.hid fun i k V => radd _ _ V (val_In hp i) (calq_In q _)
  have HC : Hid (∀ (i k : Nat) (V : World), i < 4 → Calls Tryd.prog 24 #[.int .i64 (sat (val p i + calq q (4 + i * 3 + k))), .int .i64 (Dict.kLo (Dict.sL (i : Int))), .int .i64 (Dict.kHi (Dict.sL (i : Int)))] V fun e w' => e = .returned (.int .i64 (sayq p q i k)) ∧ V = w') :=
    Lib.hid fun i k V hi4 => rwithin _ (lo i) (hi i) V (Pl.sat_In _) (lo_In hi4) (hi_In hi4)
  have BC := Lib.hid (fun V => rBeamC p.x hp.x V)
  have SC := Lib.hid (fun V => rsub p.h (p.x.tdiv 20) V hp.h (quo_In hp.x))
  have SW := Lib.hid (sig_ways p)
  clear hp hq
  have K0 := Lib.hid (rb_box w p q)
  generalize sayq p q = f at *
  generalize calq q = r at *
  generalize val p = v at *
  generalize p.x.tdiv 20 = bm at *
  go_enter Tryd.func10, Tryd.ntmps10
  go_upto_region 1 with (fail)
  generalize World.alloc _ _ = W at *
  have l1 := ldG_blk K0.out.hq
  go_wp2_with fail
  refine (CC.out _).mono ?_
  rintro e w1 ⟨rfl, b1⟩
  have K1 := Lib.hid (rb_call K0.out b1)
  clear l1 b1 K0
  have s1 := stG_blk rfl r K1.out.hq
  have K2 := Lib.hid (rb_air K1.out r)
  go_upto_region 2 with (fail)
  clear s1 K1 CC
  generalize World.setRow _ _ _ = W2 at *
  have K3 := Lib.hid (ry_of K2.out f)
  go_upto_region 4 with (fail)
  generalize W2.heap.size = g at *
  generalize World.alloc _ _ = W3 at *
  clear K2
  go_loopw [6] (fun i wr => ∃ i' : Nat, i = .int .i64 i' ∧ i' ≤ 4 ∧ RyAt w p r g f (i' * 3) wr) (fun i _ => 4 - (intOf i).toNat)
  case atStart => exact ⟨0, rfl, by omega, K3.out⟩
  case round =>
    rename_i wr
    obtain ⟨i, rfl, hi, H⟩ := hrel
    have HA := Lib.hid H
    clear H K3
    by_cases hi4 : i < 4
    · have i0 : (0 : Int) ≤ (i : Int) := Int.natCast_nonneg _
      have i4 : (i : Int) < 4 := by omega
      have HI := Lib.hid hi4
      have KI := Lib.hid (KC.out i)
      have HI2 := Lib.hid (fun k V => HC.out i k V hi4)
      have AI := Lib.hid (AC.out i)
      have way := SW.out i hi4
      generalize v i = y at *
      generalize Dict.sL (i : Int) = l at *
      have HW := Lib.hid way
      clear hi4 way
      go_wp2_with fail
      refine (KI.out _).mono ?_
      rintro e w5 ⟨rfl, b1⟩
      have HB := Lib.hid (ry_call HA.out b1)
      clear b1 HA
      have s1 := stK_blk (us := kZ) rfl l (blk_alloc w5 _ 40)
      have K6 := Lib.hid (ry_kind HB.out l)
      go_upto_region 7 with (fail)
      clear s1 HB
      generalize World.setRow _ _ _ = W6 at *
      generalize w5.heap.size = b at *
      have HK := Lib.hid K6.out.2.1
      have HL := Lib.hid K6.out.2.2
      have HP := Lib.hid K6.out.1
      clear K6
      have c0 := blk_cell HP.out.hp (o := 0) (v := .int .i64 p.x) rfl
      have c1 := blk_cell HP.out.hp (o := 1) (v := .int .i64 p.y) rfl
      have c2 := blk_cell HP.out.hp (o := 2) (v := .int .i64 p.h) rfl
      have c3 := blk_cell HP.out.hp (o := 3) (v := .int .i64 p.t) rfl
      rcases HW.out with ⟨hy, e0, e1, e2⟩ | ⟨hy, e0, e1, e2⟩ | ⟨hy, e0, e1, e2⟩ | ⟨hy, e0, e1, e2⟩
      · rw [← hy] at c1
        clear hy HW
        go_upto_region 14 with (fail)
        clear c0 c1 c2 c3 e0 e1 e2
        go_upto_region 15 with (fail)
        go_loopw [10] (fun i' wr => ∃ k : Nat, i' = .int .i64 k ∧ k ≤ 3 ∧ RyAt w p r g f (i * 3 + k) wr ∧ Blk wr b (Dict.kA l) 40) (fun i _ => 3 - (intOf i).toNat)
        case atStart => exact ⟨0, rfl, by omega, HP.out, HK.out⟩
        case round =>
          obtain ⟨k, rfl, hk, H, hb⟩ := hrel
          have HC := Lib.hid H
          have HD := Lib.hid hb
          clear H hb HP HK
          by_cases hk3 : k < 3
          · have k0 : (0 : Int) ≤ (k : Int) := Int.natCast_nonneg _
            have k3 : (k : Int) < 3 := by omega
            have A1 := Lib.hid (AI.out k)
            have A2 := Lib.hid (HI2.out k)
            have NX := Lib.hid (fun V (h : RyAt w p r g f (i * 3 + k) V) => ry_next h HI.out hk3)
            have g0 := blk_cell HC.out.hq (o := 4 + i * 3 + k) (v := .int .i64 (r (4 + i * 3 + k))) (gA_at r _ (by omega))
            have d0 := blk_cell HD.out (o := 1) (v := .int .i64 (Dict.kLo l)) rfl
            have d1 := blk_cell HD.out (o := 2) (v := .int .i64 (Dict.kHi l)) rfl
            generalize sat (y + r (4 + i * 3 + k)) = z1 at *
            generalize r (4 + i * 3 + k) = x at *
            generalize f i k = z at *
            have HK3 := Lib.hid hk3
            clear hk3
            go_upto_region 17 with (fail)
            go_still_tail 17, (by kernel_rfl)
            still_call ((A1.out _).mono fun _ _ h => ⟨h.1, h.2.symm⟩)
            repeat still_step
            still_call ((A2.out _).mono fun _ _ h => ⟨h.1, h.2.symm⟩)
            repeat still_step
            refine wpStill_nil ?_
            change wpList _ _ _ _ _ wr.drew
            have HE := Lib.hid (ry_drew HC.out)
            have HF := Lib.hid (show Blk wr.drew b (Dict.kA l) 40 from HD.out)
            clear HC HD g0 d0 d1
            generalize World.drew wr = V at *
            have o0 := blk_cell HE.out.ho (wA_at _ i k HI.out HK3.out)
            have f0 := blk_free HE.out.ho (i * 3 + k)
            have TB := Lib.hid (NX.out _ HE.out)
            have TC := Lib.hid (blk_far HF.out (i * 3 + k) (.int .i64 z) (show b ≠ g from fun e => Nat.lt_irrefl g (e ▸ HL.out)))
            go_wp2
            go_roundw
            case rel => exact ⟨k + 1, by go_num, by omega, TB.out, TC.out⟩
            case measure => simp [intOf]; omega
          · obtain rfl : k = 3 := by omega
            have e3 : ((3 : Nat) : Int) = 3 := rfl
            go_wp2
            go_roundw
            case rel => exact ⟨i + 1, by go_num, by omega, ry_as HC.out (by omega)⟩
            case measure => simp [intOf]; omega
      · have SY := Lib.hid (fun V => by have h := SC.out V; rw [← hy] at h; exact h)
        clear hy HW
        go_upto_region 11 with (fail)
        go_still_tail 6, (by kernel_rfl)
        still_call ((BC.out _).mono fun _ _ h => ⟨h.1, h.2.symm⟩)
        repeat still_step
        still_call ((SY.out _).mono fun _ _ h => ⟨h.1, h.2.symm⟩)
        repeat still_step
        refine wpStill_nil ?_
        change wpList _ _ _ _ _ W6.drew
        replace HP := Lib.hid (ry_drew HP.out)
        replace HK := Lib.hid (show Blk W6.drew b (Dict.kA l) 40 from HK.out)
        clear c0 c1 c2 c3 SY
        generalize World.drew W6 = W6 at *
        go_upto_region 14 with (fail)
        clear e0 e1 e2
        go_upto_region 15 with (fail)
        go_loopw [10] (fun i' wr => ∃ k : Nat, i' = .int .i64 k ∧ k ≤ 3 ∧ RyAt w p r g f (i * 3 + k) wr ∧ Blk wr b (Dict.kA l) 40) (fun i _ => 3 - (intOf i).toNat)
        case atStart => exact ⟨0, rfl, by omega, HP.out, HK.out⟩
        case round =>
          obtain ⟨k, rfl, hk, H, hb⟩ := hrel
          have HC := Lib.hid H
          have HD := Lib.hid hb
          clear H hb HP HK
          by_cases hk3 : k < 3
          · have k0 : (0 : Int) ≤ (k : Int) := Int.natCast_nonneg _
            have k3 : (k : Int) < 3 := by omega
            have A1 := Lib.hid (AI.out k)
            have A2 := Lib.hid (HI2.out k)
            have NX := Lib.hid (fun V (h : RyAt w p r g f (i * 3 + k) V) => ry_next h HI.out hk3)
            have g0 := blk_cell HC.out.hq (o := 4 + i * 3 + k) (v := .int .i64 (r (4 + i * 3 + k))) (gA_at r _ (by omega))
            have d0 := blk_cell HD.out (o := 1) (v := .int .i64 (Dict.kLo l)) rfl
            have d1 := blk_cell HD.out (o := 2) (v := .int .i64 (Dict.kHi l)) rfl
            generalize sat (y + r (4 + i * 3 + k)) = z1 at *
            generalize r (4 + i * 3 + k) = x at *
            generalize f i k = z at *
            have HK3 := Lib.hid hk3
            clear hk3
            go_upto_region 17 with (fail)
            go_still_tail 17, (by kernel_rfl)
            still_call ((A1.out _).mono fun _ _ h => ⟨h.1, h.2.symm⟩)
            repeat still_step
            still_call ((A2.out _).mono fun _ _ h => ⟨h.1, h.2.symm⟩)
            repeat still_step
            refine wpStill_nil ?_
            change wpList _ _ _ _ _ wr.drew
            have HE := Lib.hid (ry_drew HC.out)
            have HF := Lib.hid (show Blk wr.drew b (Dict.kA l) 40 from HD.out)
            clear HC HD g0 d0 d1
            generalize World.drew wr = V at *
            have o0 := blk_cell HE.out.ho (wA_at _ i k HI.out HK3.out)
            have f0 := blk_free HE.out.ho (i * 3 + k)
            have TB := Lib.hid (NX.out _ HE.out)
            have TC := Lib.hid (blk_far HF.out (i * 3 + k) (.int .i64 z) (show b ≠ g from fun e => Nat.lt_irrefl g (e ▸ HL.out)))
            go_wp2
            go_roundw
            case rel => exact ⟨k + 1, by go_num, by omega, TB.out, TC.out⟩
            case measure => simp [intOf]; omega
          · obtain rfl : k = 3 := by omega
            have e3 : ((3 : Nat) : Int) = 3 := rfl
            go_wp2
            go_roundw
            case rel => exact ⟨i + 1, by go_num, by omega, ry_as HC.out (by omega)⟩
            case measure => simp [intOf]; omega
      · rw [← hy] at c2
        clear hy HW
        go_upto_region 14 with (fail)
        clear c0 c1 c2 c3 e0 e1 e2
        go_upto_region 15 with (fail)
        go_loopw [10] (fun i' wr => ∃ k : Nat, i' = .int .i64 k ∧ k ≤ 3 ∧ RyAt w p r g f (i * 3 + k) wr ∧ Blk wr b (Dict.kA l) 40) (fun i _ => 3 - (intOf i).toNat)
        case atStart => exact ⟨0, rfl, by omega, HP.out, HK.out⟩
        case round =>
          obtain ⟨k, rfl, hk, H, hb⟩ := hrel
          have HC := Lib.hid H
          have HD := Lib.hid hb
          clear H hb HP HK
          by_cases hk3 : k < 3
          · have k0 : (0 : Int) ≤ (k : Int) := Int.natCast_nonneg _
            have k3 : (k : Int) < 3 := by omega
            have A1 := Lib.hid (AI.out k)
            have A2 := Lib.hid (HI2.out k)
            have NX := Lib.hid (fun V (h : RyAt w p r g f (i * 3 + k) V) => ry_next h HI.out hk3)
            have g0 := blk_cell HC.out.hq (o := 4 + i * 3 + k) (v := .int .i64 (r (4 + i * 3 + k))) (gA_at r _ (by omega))
            have d0 := blk_cell HD.out (o := 1) (v := .int .i64 (Dict.kLo l)) rfl
            have d1 := blk_cell HD.out (o := 2) (v := .int .i64 (Dict.kHi l)) rfl
            generalize sat (y + r (4 + i * 3 + k)) = z1 at *
            generalize r (4 + i * 3 + k) = x at *
            generalize f i k = z at *
            have HK3 := Lib.hid hk3
            clear hk3
            go_upto_region 17 with (fail)
            go_still_tail 17, (by kernel_rfl)
            still_call ((A1.out _).mono fun _ _ h => ⟨h.1, h.2.symm⟩)
            repeat still_step
            still_call ((A2.out _).mono fun _ _ h => ⟨h.1, h.2.symm⟩)
            repeat still_step
            refine wpStill_nil ?_
            change wpList _ _ _ _ _ wr.drew
            have HE := Lib.hid (ry_drew HC.out)
            have HF := Lib.hid (show Blk wr.drew b (Dict.kA l) 40 from HD.out)
            clear HC HD g0 d0 d1
            generalize World.drew wr = V at *
            have o0 := blk_cell HE.out.ho (wA_at _ i k HI.out HK3.out)
            have f0 := blk_free HE.out.ho (i * 3 + k)
            have TB := Lib.hid (NX.out _ HE.out)
            have TC := Lib.hid (blk_far HF.out (i * 3 + k) (.int .i64 z) (show b ≠ g from fun e => Nat.lt_irrefl g (e ▸ HL.out)))
            go_wp2
            go_roundw
            case rel => exact ⟨k + 1, by go_num, by omega, TB.out, TC.out⟩
            case measure => simp [intOf]; omega
          · obtain rfl : k = 3 := by omega
            have e3 : ((3 : Nat) : Int) = 3 := rfl
            go_wp2
            go_roundw
            case rel => exact ⟨i + 1, by go_num, by omega, ry_as HC.out (by omega)⟩
            case measure => simp [intOf]; omega
      · rw [← hy] at c3
        clear hy HW
        go_upto_region 14 with (fail)
        clear c0 c1 c2 c3 e0 e1 e2
        go_upto_region 15 with (fail)
        go_loopw [10] (fun i' wr => ∃ k : Nat, i' = .int .i64 k ∧ k ≤ 3 ∧ RyAt w p r g f (i * 3 + k) wr ∧ Blk wr b (Dict.kA l) 40) (fun i _ => 3 - (intOf i).toNat)
        case atStart => exact ⟨0, rfl, by omega, HP.out, HK.out⟩
        case round =>
          obtain ⟨k, rfl, hk, H, hb⟩ := hrel
          have HC := Lib.hid H
          have HD := Lib.hid hb
          clear H hb HP HK
          by_cases hk3 : k < 3
          · have k0 : (0 : Int) ≤ (k : Int) := Int.natCast_nonneg _
            have k3 : (k : Int) < 3 := by omega
            have A1 := Lib.hid (AI.out k)
            have A2 := Lib.hid (HI2.out k)
            have NX := Lib.hid (fun V (h : RyAt w p r g f (i * 3 + k) V) => ry_next h HI.out hk3)
            have g0 := blk_cell HC.out.hq (o := 4 + i * 3 + k) (v := .int .i64 (r (4 + i * 3 + k))) (gA_at r _ (by omega))
            have d0 := blk_cell HD.out (o := 1) (v := .int .i64 (Dict.kLo l)) rfl
            have d1 := blk_cell HD.out (o := 2) (v := .int .i64 (Dict.kHi l)) rfl
            generalize sat (y + r (4 + i * 3 + k)) = z1 at *
            generalize r (4 + i * 3 + k) = x at *
            generalize f i k = z at *
            have HK3 := Lib.hid hk3
            clear hk3
            go_upto_region 17 with (fail)
            go_still_tail 17, (by kernel_rfl)
            still_call ((A1.out _).mono fun _ _ h => ⟨h.1, h.2.symm⟩)
            repeat still_step
            still_call ((A2.out _).mono fun _ _ h => ⟨h.1, h.2.symm⟩)
            repeat still_step
            refine wpStill_nil ?_
            change wpList _ _ _ _ _ wr.drew
            have HE := Lib.hid (ry_drew HC.out)
            have HF := Lib.hid (show Blk wr.drew b (Dict.kA l) 40 from HD.out)
            clear HC HD g0 d0 d1
            generalize World.drew wr = V at *
            have o0 := blk_cell HE.out.ho (wA_at _ i k HI.out HK3.out)
            have f0 := blk_free HE.out.ho (i * 3 + k)
            have TB := Lib.hid (NX.out _ HE.out)
            have TC := Lib.hid (blk_far HF.out (i * 3 + k) (.int .i64 z) (show b ≠ g from fun e => Nat.lt_irrefl g (e ▸ HL.out)))
            go_wp2
            go_roundw
            case rel => exact ⟨k + 1, by go_num, by omega, TB.out, TC.out⟩
            case measure => simp [intOf]; omega
          · obtain rfl : k = 3 := by omega
            have e3 : ((3 : Nat) : Int) = 3 := rfl
            go_wp2
            go_roundw
            case rel => exact ⟨i + 1, by go_num, by omega, ry_as HC.out (by omega)⟩
            case measure => simp [intOf]; omega
    · obtain rfl : i = 4 := by omega
      have HF := Lib.hid (ry_all (ry_as HA.out (by omega)))
      have HG := Lib.hid HA.out.below
      have HR := Lib.hid HA.out.hz
      clear HA
      have l3 := ldW_blk HF.out
      have s3 := stW_blk rfl f HR.out
      go_wp2
      refine bodyPost_ret (v := .agg (wA f)) ?_ rfl ⟨rfl, below_row HG.out (by omega) _⟩
      exact retW Tryd.results10 _ _ (w.heap.size + 1 + 1) f rfl (blk_row HR.out _)
end

end Go.Proofs.YtaicijhkchfcfaaDoor.Pl
