/- Contracts of lanes.Many and lanes.Apart, and of the document's own. Conditions: numbers are int64. -/
import Derived.Test.YtdjemiimnpkfnaaLanesApp
import Derived.Deep.DeepCutAuto
import Derived.Deep.RegionHeld3
import Derived.Deep.RegionWith
namespace Go.Proofs.Ytdjemiimnpkfnaa.Lanes
open Go.ChangeShapes Go.WideShapes Go.ChangeAt Go.RowKit Num Mid

theorem sK_cases (H : Nat → Bool) (n : Nat) : ((if H n then ((sK H n : Nat) : Int) + 1 else ((sK H n : Nat) : Int))) = ((sK H (n + 1) : Nat) : Int) := by
  cases h : H n
  · rw [sK_off h]; rfl
  · rw [sK_on h]; simp

set_option maxHeartbeats 1000000 in
theorem manyC (H : Nat → Bool) (w : World) :
    Calls Try.prog 10 #[.agg (b3A H)] w fun e w' => e = .returned (.int .i64 (sK H 3 : Nat)) ∧ Below w.heap.size w w' := by
  have K0 := Lib.hid (allocs w (.cells (b3A H) 25))
  have KX := Lib.hid (blk_alloc w (b3A H) 25)
  go_enter Try.func10, Try.ntmps10
  go_wp2_with ((with_reducible refine load_b3 rfl (.tmp 1) rfl w.heap.size H KX.out ?_ ?_); rfl)
  clear KX
  generalize World.alloc w _ = W at *
  go_loopw [3, 7] (fun v i wr => ∃ k : Nat, v = .int .i64 (sK H k : Nat) ∧ i = .int .i64 k ∧ k ≤ 3 ∧ Below w.heap.size w wr) (fun _ i _ => 3 - (intOf i).toNat)
  case atStart => exact ⟨0, rfl, rfl, by omega, K0.out⟩
  case round =>
    rename_i wr
    obtain ⟨k, rfl, rfl, hk, S⟩ := hrel
    have HA := Lib.hid S
    clear S K0
    by_cases hk3 : k < 3
    · have k0 : (0 : Int) ≤ (k : Int) := Int.natCast_nonneg _
      have k3 : (k : Int) < 3 := by omega
      have jx := fun W => ix_b H W k hk3
      have s0 : (0 : Int) ≤ ((sK H k : Nat) : Int) := Int.natCast_nonneg _
      have s1 : ((sK H k : Nat) : Int) ≤ 3 := by have := sK_le H k; omega
      cases hH : H k
      · have HH := Lib.hid hH
        rw [hH] at jx
        clear hH
        go_wp2
        go_roundw
        case rel => exact ⟨k + 1, by rw [sK_off HH.out], by go_num, by omega, HA.out⟩
        case measure => simp [intOf]; omega
      · have HH := Lib.hid hH
        rw [hH] at jx
        clear hH
        go_wp2
        go_roundw
        case rel => exact ⟨k + 1, by rw [sK_on HH.out]; go_num, by go_num, by omega, HA.out⟩
        case measure => simp [intOf]; omega
    · obtain rfl : k = 3 := by omega
      have e3 : ((3 : Nat) : Int) = 3 := rfl
      go_wp2
      exact bodyPost_ret (results_tmp rfl _ _ _) rfl ⟨rfl, HA.out⟩

set_option maxHeartbeats 1000000 in
theorem rManyC (H : Nat → Bool) (w : World) :
    Calls Try.prog 11 #[.agg (b3A H)] w fun e w' => e = .returned (.int .i64 (sK H 3 : Nat)) ∧ Below w.heap.size w w' := by
  have K0 := Lib.hid (show Below w.heap.size w (w.alloc (.cells (b3A H) 25)) ∧ Blk (w.alloc (.cells (b3A H) 25)) w.heap.size (b3A H) 25 from ⟨allocs _ _, blk_alloc _ _ _⟩)
  go_enter Try.func11, Try.ntmps11
  go_wp2_with fail
  generalize World.alloc w _ = W at *
  go_loopw [3, 4] (fun v i wr => ∃ k : Nat, v = .int .i64 (sK H k : Nat) ∧ i = .int .i64 k ∧ k ≤ 3 ∧ Below w.heap.size w wr ∧ Blk wr w.heap.size (b3A H) 25) (fun _ i _ => 3 - (intOf i).toNat)
  case atStart => exact ⟨0, rfl, rfl, by omega, K0.out⟩
  case round =>
    rename_i wr
    obtain ⟨k, rfl, rfl, hk, S⟩ := hrel
    have HA := Lib.hid S
    clear S K0
    by_cases hk3 : k < 3
    · have k0 : (0 : Int) ≤ (k : Int) := Int.natCast_nonneg _
      have k3 : (k : Int) < 3 := by omega
      have c0 := blk_cell HA.out.2 (b3_at H k hk3)
      have s0 : (0 : Int) ≤ ((sK H k : Nat) : Int) := Int.natCast_nonneg _
      have s1 : ((sK H k : Nat) : Int) ≤ 3 := by have := sK_le H k; omega
      cases hH : H k
      · have HH := Lib.hid hH
        rw [hH] at c0
        clear hH
        go_wp2
        go_roundw
        case rel => exact ⟨k + 1, by rw [sK_off HH.out], by go_num, by omega, HA.out⟩
        case measure => simp [intOf]; omega
      · have HH := Lib.hid hH
        rw [hH] at c0
        clear hH
        go_wp2
        go_roundw
        case rel => exact ⟨k + 1, by rw [sK_on HH.out]; go_num, by go_num, by omega, HA.out⟩
        case measure => simp [intOf]; omega
    · obtain rfl : k = 3 := by omega
      have e3 : ((3 : Nat) : Int) = 3 := rfl
      go_wp2
      exact bodyPost_ret (results_tmp rfl _ _ _) rfl ⟨rfl, HA.out.1⟩

/-- The greatest of the first n differences. -/
def ap (c d : Nat → Int) : Nat → Int
  | 0 => 0
  | n + 1 => gmax (ap c d n) (df (c n) (d n))
theorem ap_in {c d : Nat → Int} (hc : ∀ j, In (c j)) (hd : ∀ j, In (d j)) (n : Nat) : 0 ≤ ap c d n ∧ ap c d n ≤ 9223372036854775807 := by
  induction n with
  | zero => exact ⟨by show (0 : Int) ≤ 0; omega, by show (0 : Int) ≤ _; omega⟩
  | succ n ih =>
    have h1 := df_in _ _ (hc n) (hd n)
    have h2 := gmax_cases (ap c d n) (df (c n) (d n))
    show 0 ≤ gmax _ _ ∧ gmax _ _ ≤ _
    omega
structure ApAt (w0 : World) (c d : Nat → Int) (w : World) : Prop where
  below : Below w0.heap.size w0 w
  hc : Blk w w0.heap.size (cA c) 23
  hd : Blk w (w0.heap.size + 1) (cA d) 23
theorem ap_box (w : World) (c d : Nat → Int) : ApAt w c d ((w.alloc (.cells (cA c) 23)).alloc (.cells (cA d) 23)) :=
  ⟨below_new (allocs w _) _, blk_kept (blk_alloc w _ _) (allocs _ _), blk_alloc2 w _ _ _⟩
theorem ap_call {w0 w w1 : World} {c d : Nat → Int} (h : ApAt w0 c d w) (b : Below w.heap.size w w1) : ApAt w0 c d w1 :=
  ⟨bthen h.below b, blk_kept h.hc b, blk_kept h.hd b⟩
theorem ap_drew {w0 w : World} {c d : Nat → Int} (h : ApAt w0 c d w) : ApAt w0 c d w.drew := ⟨below_drewN h.below 1, h.hc, h.hd⟩
theorem ap_drewN {w0 w : World} {c d : Nat → Int} (h : ApAt w0 c d w) (n : Nat) : ApAt w0 c d (w.drewN n) := ⟨below_drewN h.below n, h.hc, h.hd⟩
theorem ap_cells {w0 w : World} {c d : Nat → Int} (h : ApAt w0 c d w) : w.cell? ⟨w0.heap.size, 0, none⟩ = some (.int .i64 (c 0)) ∧ w.cell? ⟨w0.heap.size, 1, none⟩ = some (.int .i64 (c 1)) ∧ w.cell? ⟨w0.heap.size, 2, none⟩ = some (.int .i64 (c 2)) ∧ w.cell? ⟨w0.heap.size + 1, 0, none⟩ = some (.int .i64 (d 0)) ∧ w.cell? ⟨w0.heap.size + 1, 1, none⟩ = some (.int .i64 (d 1)) ∧ w.cell? ⟨w0.heap.size + 1, 2, none⟩ = some (.int .i64 (d 2)) :=
  ⟨blk_cell h.hc (o := 0) rfl, blk_cell h.hc (o := 1) rfl, blk_cell h.hc (o := 2) rfl, blk_cell h.hd (o := 0) rfl, blk_cell h.hd (o := 1) rfl, blk_cell h.hd (o := 2) rfl⟩

set_option maxHeartbeats 4000000 in
theorem rApartC (c d : Nat → Int) (hc : ∀ j, In (c j)) (hd : ∀ j, In (d j)) (w : World) :
    Calls Try.prog 13 #[.agg (cA c), .agg (cA d)] w fun e w' => e = .returned (.int .i64 (ap c d 3)) ∧ Below w.heap.size w w' := by
  have K0 := Lib.hid (ap_box w c d)
  have HC := Lib.hid hc
  have HD := Lib.hid hd
  clear hc hd
  go_enter Try.func13, Try.ntmps13
  go_wp2_with fail
  generalize World.alloc (World.alloc w _) _ = W at *
  go_loopw [5, 6] (fun v i wr => ∃ k : Nat, v = .int .i64 (ap c d k) ∧ i = .int .i64 k ∧ k ≤ 3 ∧ ApAt w c d wr) (fun _ i _ => 3 - (intOf i).toNat)
  case atStart => exact ⟨0, rfl, rfl, by omega, K0.out⟩
  case round =>
    rename_i wr
    obtain ⟨k, rfl, rfl, hk, S⟩ := hrel
    have HA := Lib.hid S
    clear S K0
    by_cases hk3 : k < 3
    · have k0 : (0 : Int) ≤ (k : Int) := Int.natCast_nonneg _
      have k3 : (k : Int) < 3 := by omega
      have jx := fun c W => ix_i c W k hk3
      go_wp2_with fail
      have TA := Lib.hid (ap_drew HA.out)
      clear HA
      go_region_held3 (fun w' => w'.cell? ⟨w.heap.size, 0, none⟩ = some (.int .i64 (c 0)) ∧ w'.cell? ⟨w.heap.size, 1, none⟩ = some (.int .i64 (c 1)) ∧ w'.cell? ⟨w.heap.size, 2, none⟩ = some (.int .i64 (c 2)) ∧ w'.cell? ⟨w.heap.size + 1, 0, none⟩ = some (.int .i64 (d 0)) ∧ w'.cell? ⟨w.heap.size + 1, 1, none⟩ = some (.int .i64 (d 1)) ∧ w'.cell? ⟨w.heap.size + 1, 2, none⟩ = some (.int .i64 (d 2)))
        (first
          | (with_reducible assumption)
          | exact ap_cells TA.out)
        (first
        | (go_at_call 17; refine (numsC _ _).mono ?_; rintro e v ⟨rfl, bb⟩; replace TA := Lib.hid (ap_call TA.out bb); clear bb)
        | (go_at_call 23; refine (gapC _ _ _ (HC.out k) (HD.out k)).mono ?_; rintro e v ⟨rfl, rfl⟩))
      all_goals
        by_cases h : ap c d k < df (c k) (d k)
        · have HG := Lib.hid (show ap c d (k + 1) = df (c k) (d k) from if_pos h)
          go_wp2
          go_roundw
          case rel => exact ⟨k + 1, by rw [HG.out], by go_num, by omega, TA.out⟩
          case measure => simp [intOf]; omega
        · have HG := Lib.hid (show ap c d (k + 1) = ap c d k from if_neg h)
          go_wp2
          go_roundw
          case rel => exact ⟨k + 1, by rw [HG.out], by go_num, by omega, TA.out⟩
          case measure => simp [intOf]; omega
    · obtain rfl : k = 3 := by omega
      have e3 : ((3 : Nat) : Int) = 3 := rfl
      go_wp2
      exact bodyPost_ret (results_tmp rfl _ _ _) rfl ⟨rfl, HA.out.below⟩

theorem na_cells {w0 w : World} {c d : Nat → Int} {g k : Nat} (h : ApAt w0 c d w ∧ Blk w g (nA k) 51) : w.cell? ⟨w0.heap.size, 0, none⟩ = some (.int .i64 (c 0)) ∧ w.cell? ⟨w0.heap.size, 1, none⟩ = some (.int .i64 (c 1)) ∧ w.cell? ⟨w0.heap.size, 2, none⟩ = some (.int .i64 (c 2)) ∧ w.cell? ⟨w0.heap.size + 1, 0, none⟩ = some (.int .i64 (d 0)) ∧ w.cell? ⟨w0.heap.size + 1, 1, none⟩ = some (.int .i64 (d 1)) ∧ w.cell? ⟨w0.heap.size + 1, 2, none⟩ = some (.int .i64 (d 2)) ∧ w.cell? ⟨g, 0, none⟩ = some (.func (.func (fOf k)) #[] #[]) :=
  have q := ap_cells h.1
  ⟨q.1, q.2.1, q.2.2.1, q.2.2.2.1, q.2.2.2.2.1, q.2.2.2.2.2, blk_cell h.2 (o := 0) rfl⟩
theorem na_call {w0 w w1 : World} {c d : Nat → Int} {g k : Nat} (h : ApAt w0 c d w ∧ Blk w g (nA k) 51) (b : Below w.heap.size w w1) : ApAt w0 c d w1 ∧ Blk w1 g (nA k) 51 := ⟨ap_call h.1 b, blk_kept h.2 b⟩

set_option maxHeartbeats 4000000 in
theorem apartC (c d : Nat → Int) (hc : ∀ j, In (c j)) (hd : ∀ j, In (d j)) (w : World) :
    Calls Try.prog 12 #[.agg (cA c), .agg (cA d)] w fun e w' => e = .returned (.int .i64 (ap c d 3)) ∧ Below w.heap.size w w' := by
  have K0 := Lib.hid (ap_box w c d)
  have HC := Lib.hid hc
  have HD := Lib.hid hd
  clear hc hd
  go_enter Try.func12, Try.ntmps12
  go_wp2_with fail
  generalize World.alloc (World.alloc w _) _ = W at *
  refine (numbersC _).mono ?_
  rintro e w1 ⟨rfl, b1⟩
  have K1 := Lib.hid (ap_call K0.out b1)
  clear b1 K0
  go_wp2
  go_loopw [5, 9] (fun v i wr => ∃ k : Nat, v = .int .i64 (ap c d k) ∧ i = .int .i64 k ∧ k ≤ 3 ∧ ApAt w c d wr) (fun _ i _ => 3 - (intOf i).toNat)
  case atStart => exact ⟨0, rfl, rfl, by omega, K1.out⟩
  case round =>
    rename_i wr
    obtain ⟨k, rfl, rfl, hk, S⟩ := hrel
    have HA := Lib.hid S
    clear S K1
    by_cases hk3 : k < 3
    · have k0 : (0 : Int) ≤ (k : Int) := Int.natCast_nonneg _
      have k3 : (k : Int) < 3 := by omega
      have HK := Lib.hid hk3
      have jx := fun W => ix_n W k hk3
      have HF := fun args w => call_of args w k hk3
      have NA := Lib.hid (show ApAt w c d (wr.alloc (.cells (nA k) 51)) ∧ Blk (wr.alloc (.cells (nA k) 51)) wr.heap.size (nA k) 51 from ⟨ap_call HA.out (allocs _ _), blk_alloc _ _ _⟩)
      clear HA
      go_wp2_with fail
      have TA := Lib.hid (show ApAt w c d (wr.alloc (.cells (nA k) 51)).drew ∧ Blk (wr.alloc (.cells (nA k) 51)).drew wr.heap.size (nA k) 51 from ⟨ap_drew NA.out.1, NA.out.2⟩)
      clear NA
      generalize wr.heap.size = g at *
      go_region_held3 (fun w' => w'.cell? ⟨w.heap.size, 0, none⟩ = some (.int .i64 (c 0)) ∧ w'.cell? ⟨w.heap.size, 1, none⟩ = some (.int .i64 (c 1)) ∧ w'.cell? ⟨w.heap.size, 2, none⟩ = some (.int .i64 (c 2)) ∧ w'.cell? ⟨w.heap.size + 1, 0, none⟩ = some (.int .i64 (d 0)) ∧ w'.cell? ⟨w.heap.size + 1, 1, none⟩ = some (.int .i64 (d 1)) ∧ w'.cell? ⟨w.heap.size + 1, 2, none⟩ = some (.int .i64 (d 2)) ∧ w'.cell? ⟨g, 0, none⟩ = some (.func (.func (fOf k)) #[] #[]))
        (first
          | (with_reducible assumption)
          | exact na_cells TA.out)
        (first
        | (go_at_call 22; refine (diffC _ _ _ (HC.out k) (HD.out k)).mono ?_; rintro e v ⟨rfl, rfl⟩)
        | (with_reducible refine (pickC c _ k HK.out).mono ?_; rintro e v ⟨rfl, bb⟩; replace TA := Lib.hid (na_call TA.out bb); clear bb)
        | (with_reducible refine (pickC d _ k HK.out).mono ?_; rintro e v ⟨rfl, bb⟩; replace TA := Lib.hid (na_call TA.out bb); clear bb))
      all_goals
        go_wp2
        go_roundw
        case rel => exact ⟨k + 1, rfl, by go_num, by omega, TA.out.1⟩
        case measure => simp [intOf]; omega
    · obtain rfl : k = 3 := by omega
      have e3 : ((3 : Nat) : Int) = 3 := rfl
      go_wp2
      exact bodyPost_ret (results_tmp rfl _ _ _) rfl ⟨rfl, HA.out.below⟩

end Go.Proofs.Ytdjemiimnpkfnaa.Lanes
