/- Contracts of equip.Least (slices.Min of four numbers), equip.Less, and of the document's own. Conditions: none. -/
import Derived.Test.YtijjanoagimmhaaEquipSmall
namespace Go.Proofs.Ytijjanoagimmhaa.Equip
open Go.ChangeShapes Go.WideShapes Go.ChangeAt Go.RowKit Num Pers Vote Lanes

theorem ls_step (S : St) (k : Nat) : lsN S (k + 1) = gmin (lsN S k) (S.s (k + 1)) := rfl
set_option maxHeartbeats 1000000 in
theorem minC (S : St) (g : Nat) (w : World) (K : Blk w g (stA S) 29) :
    Calls Try.prog 17 #[.slice (some ⟨g, 0, none⟩) 4 4] w fun e w' => e = .returned (.int .i64 (lsN S 3)) ∧ w = w' := by
  have HK := Lib.hid K
  have c0 := blk_cell K (o := 0) (v := .int .i64 (S.s 0)) rfl
  clear K
  go_enter Try.func17, Try.ntmps17
  go_wp2_with fail
  clear c0
  go_loop [3, 4] (fun m i => ∃ k : Nat, k ≤ 3 ∧ m = .int .i64 (lsN S k) ∧ i = .int .i64 ((k + 1 : Nat) : Int)) (fun _ i => 4 - (intOf i).toNat)
  case atStart => exact ⟨0, by omega, rfl, rfl⟩
  case round =>
    obtain ⟨k, hk, rfl, rfl⟩ := hrel
    by_cases hk3 : k < 3
    · have k0 : (0 : Int) ≤ ((k + 1 : Nat) : Int) := Int.natCast_nonneg _
      have k4 : ((k + 1 : Nat) : Int) < 4 := by omega
      have c0 := blk_cell HK.out (st_at S (k + 1) (by omega))
      have HS := Lib.hid (ls_step S k)
      go_wp2
      go_round
      case rel => exact ⟨k + 1, by omega, by rw [HS.out], by go_num⟩
      case measure => simp [intOf]; omega
    · obtain rfl : k = 3 := by omega
      have e4 : ((3 + 1 : Nat) : Int) = 4 := rfl
      go_wp2
      go_ret
      exact ⟨rfl, rfl⟩

set_option maxHeartbeats 1000000 in
theorem leastC (S : St) (w : World) :
    Calls Try.prog 8 #[.agg (stA S)] w fun e w' => e = .returned (.int .i64 (lsN S 3)) ∧ Below w.heap.size w w' := by
  have K0 := Lib.hid (And.intro (allocs w (.cells (stA S) 29)) (blk_alloc w (stA S) 29))
  go_enter Try.func8, Try.ntmps8
  go_wp2_with fail
  refine (minC S _ _ K0.out.2).mono ?_
  rintro e w' ⟨rfl, rfl⟩
  go_wp2
  go_ret
  exact ⟨rfl, K0.out.1⟩

set_option maxHeartbeats 1000000 in
theorem rLeastC (S : St) (w : World) :
    Calls Try.prog 9 #[.agg (stA S)] w fun e w' => e = .returned (.int .i64 (lsN S 3)) ∧ Below w.heap.size w w' := by
  have K0 := Lib.hid (And.intro (allocs w (.cells (stA S) 29)) (blk_alloc w (stA S) 29))
  go_enter Try.func9, Try.ntmps9
  go_wp2_with fail
  generalize World.alloc w _ = W at *
  go_loop [3, 4] (fun m i => ∃ k : Nat, k ≤ 3 ∧ m = .int .i64 (lsN S k) ∧ i = .int .i64 ((k + 1 : Nat) : Int)) (fun _ i => 4 - (intOf i).toNat)
  case atStart => exact ⟨0, by omega, rfl, rfl⟩
  case round =>
    obtain ⟨k, hk, rfl, rfl⟩ := hrel
    by_cases hk3 : k < 3
    · have k0 : (0 : Int) ≤ ((k + 1 : Nat) : Int) := Int.natCast_nonneg _
      have k4 : ((k + 1 : Nat) : Int) < 4 := by omega
      have c0 := blk_cell K0.out.2 (st_at S (k + 1) (by omega))
      by_cases h : S.s (k + 1) < lsN S k
      · have HS : Hid (lsN S (k + 1) = S.s (k + 1)) := if_pos h
        go_wp2
        go_round
        case rel => exact ⟨k + 1, by omega, by rw [HS.out], by go_num⟩
        case measure => simp [intOf]; omega
      · have HS : Hid (lsN S (k + 1) = lsN S k) := if_neg h
        go_wp2
        go_round
        case rel => exact ⟨k + 1, by omega, by rw [HS.out], by go_num⟩
        case measure => simp [intOf]; omega
    · obtain rfl : k = 3 := by omega
      have e4 : ((3 + 1 : Nat) : Int) = 4 := rfl
      go_wp2
      go_ret
      exact ⟨rfl, K0.out.1⟩

set_option maxRecDepth 100000 in
set_option maxHeartbeats 4000000 in
theorem lessC (A B : St) (w : World) :
    Calls Try.prog 10 #[.agg (stA A), .agg (stA B)] w fun e w' => e = .returned (.bool (less A B)) ∧ Below w.heap.size w w' := by
  have K0 := Lib.hid (two_box w A B)
  have en := fun W => ne_st A B W
  cases hE : eqS A B
  · have HL := Lib.hid (less_other hE)
    rw [hE] at en
    clear hE
    go_enter Try.func10, Try.ntmps10
    go_wp2_with fail
    refine (moreC A B _).mono ?_
    rintro e w1 ⟨rfl, b1⟩
    have K1 := Lib.hid (bthen K0.out.below b1)
    clear b1
    go_wp2
    go_ret
    exact ⟨ret_bool HL.out, K1.out⟩
  · have HL := Lib.hid (less_same hE)
    rw [hE] at en
    clear hE
    go_enter Try.func10, Try.ntmps10
    go_wp2_with fail
    go_ret
    exact ⟨ret_bool HL.out, K0.out.below⟩

theorem two_cells {w0 w : World} {A B : St} (h : TwoAt w0 A B w) : (w.cell? ⟨w0.heap.size, 0, none⟩ = some (.int .i64 (A.s 0)) ∧ w.cell? ⟨w0.heap.size, 1, none⟩ = some (.int .i64 (A.s 1)) ∧ w.cell? ⟨w0.heap.size, 2, none⟩ = some (.int .i64 (A.s 2)) ∧ w.cell? ⟨w0.heap.size, 3, none⟩ = some (.int .i64 (A.s 3)) ∧ w.cell? ⟨w0.heap.size, 4, none⟩ = some (.int .i64 A.l) ∧ w.cell? ⟨w0.heap.size, 5, none⟩ = some (.int .i64 A.y) ∧ w.cell? ⟨w0.heap.size, 6, none⟩ = some (.bool A.r) ∧ w.cell? ⟨w0.heap.size, 7, none⟩ = some (.bool A.t)) ∧ (w.cell? ⟨w0.heap.size + 1, 0, none⟩ = some (.int .i64 (B.s 0)) ∧ w.cell? ⟨w0.heap.size + 1, 1, none⟩ = some (.int .i64 (B.s 1)) ∧ w.cell? ⟨w0.heap.size + 1, 2, none⟩ = some (.int .i64 (B.s 2)) ∧ w.cell? ⟨w0.heap.size + 1, 3, none⟩ = some (.int .i64 (B.s 3)) ∧ w.cell? ⟨w0.heap.size + 1, 4, none⟩ = some (.int .i64 B.l) ∧ w.cell? ⟨w0.heap.size + 1, 5, none⟩ = some (.int .i64 B.y) ∧ w.cell? ⟨w0.heap.size + 1, 6, none⟩ = some (.bool B.r) ∧ w.cell? ⟨w0.heap.size + 1, 7, none⟩ = some (.bool B.t)) :=
  ⟨⟨blk_cell h.ha (o := 0) rfl, blk_cell h.ha (o := 1) rfl, blk_cell h.ha (o := 2) rfl, blk_cell h.ha (o := 3) rfl, blk_cell h.ha (o := 4) rfl, blk_cell h.ha (o := 5) rfl, blk_cell h.ha (o := 6) rfl, blk_cell h.ha (o := 7) rfl⟩, ⟨blk_cell h.hb (o := 0) rfl, blk_cell h.hb (o := 1) rfl, blk_cell h.hb (o := 2) rfl, blk_cell h.hb (o := 3) rfl, blk_cell h.hb (o := 4) rfl, blk_cell h.hb (o := 5) rfl, blk_cell h.hb (o := 6) rfl, blk_cell h.hb (o := 7) rfl⟩⟩

set_option maxRecDepth 100000 in
set_option maxHeartbeats 4000000 in
theorem rLessC (A B : St) (w : World) :
    Calls Try.prog 11 #[.agg (stA A), .agg (stA B)] w fun e w' => e = .returned (.bool (less A B)) ∧ Below w.heap.size w w' := by
  have K0 := Lib.hid (two_box w A B)
  go_enter Try.func11, Try.ntmps11
  go_wp2_with fail
  generalize World.alloc (World.alloc w _) _ = W at *
  go_loopw [5, 6] (fun v i wr => ∃ k : Nat, v = .bool (ltN A B k) ∧ i = .int .i64 k ∧ k ≤ 8 ∧ nmN A B k = true ∧ TwoAt w A B wr) (fun _ i _ => 8 - (intOf i).toNat)
  case atStart => exact ⟨0, rfl, rfl, by omega, rfl, K0.out⟩
  case round =>
    rename_i wr
    obtain ⟨k, rfl, rfl, hk, N, S⟩ := hrel
    have HA := Lib.hid S
    have HN := Lib.hid N
    clear S N K0
    by_cases hk8 : k < 8
    · have k0 : (0 : Int) ≤ (k : Int) := Int.natCast_nonneg _
      have k8 : (k : Int) < 8 := by omega
      have jx := fun S W => ix_8 S W k hk8
      have HK := Lib.hid hk8
      go_wp2_with fail
      have TA := Lib.hid (two_drew HA.out)
      clear HA
      go_region_held3 (fun w' => (w'.cell? ⟨w.heap.size, 0, none⟩ = some (.int .i64 (A.s 0)) ∧ w'.cell? ⟨w.heap.size, 1, none⟩ = some (.int .i64 (A.s 1)) ∧ w'.cell? ⟨w.heap.size, 2, none⟩ = some (.int .i64 (A.s 2)) ∧ w'.cell? ⟨w.heap.size, 3, none⟩ = some (.int .i64 (A.s 3)) ∧ w'.cell? ⟨w.heap.size, 4, none⟩ = some (.int .i64 A.l) ∧ w'.cell? ⟨w.heap.size, 5, none⟩ = some (.int .i64 A.y) ∧ w'.cell? ⟨w.heap.size, 6, none⟩ = some (.bool A.r) ∧ w'.cell? ⟨w.heap.size, 7, none⟩ = some (.bool A.t)) ∧ (w'.cell? ⟨w.heap.size + 1, 0, none⟩ = some (.int .i64 (B.s 0)) ∧ w'.cell? ⟨w.heap.size + 1, 1, none⟩ = some (.int .i64 (B.s 1)) ∧ w'.cell? ⟨w.heap.size + 1, 2, none⟩ = some (.int .i64 (B.s 2)) ∧ w'.cell? ⟨w.heap.size + 1, 3, none⟩ = some (.int .i64 (B.s 3)) ∧ w'.cell? ⟨w.heap.size + 1, 4, none⟩ = some (.int .i64 B.l) ∧ w'.cell? ⟨w.heap.size + 1, 5, none⟩ = some (.int .i64 B.y) ∧ w'.cell? ⟨w.heap.size + 1, 6, none⟩ = some (.bool B.r) ∧ w'.cell? ⟨w.heap.size + 1, 7, none⟩ = some (.bool B.t)))
        (first
          | (with_reducible assumption)
          | exact two_cells TA.out)
        (first
        | (with_reducible refine (numsC A _).mono ?_; rintro e v ⟨rfl, bb⟩; replace TA := Lib.hid (two_call TA.out bb); clear bb)
        | (with_reducible refine (numsC B _).mono ?_; rintro e v ⟨rfl, bb⟩; replace TA := Lib.hid (two_call TA.out bb); clear bb))
      all_goals
        by_cases hm : nu B k < nu A k
        · have HM : Hid (less A B = false) := by show less A B = false; unfold less; rw [nm_more HK.out hm]; rfl
          go_wp2
          go_ret
          exact ⟨ret_bool HM.out, TA.out.below⟩
        · have HM : Hid (nmN A B (k + 1) = true) := by show (nmN A B k && decide (nu A k ≤ nu B k)) = true; rw [HN.out, decide_eq_true (by omega)]; rfl
          have HL : Hid (ltN A B (k + 1) = (ltN A B k || decide (nu A k < nu B k))) := rfl
          obtain ⟨F, hF⟩ : ∃ F, ltN A B k = F := ⟨_, rfl⟩
          rw [hF]
          have HF := Lib.hid hF
          clear hF HN
          cases F
          · go_wp2_with fail
            have TB := Lib.hid (two_drew TA.out)
            clear TA
            go_region_held3 (fun w' => (w'.cell? ⟨w.heap.size, 0, none⟩ = some (.int .i64 (A.s 0)) ∧ w'.cell? ⟨w.heap.size, 1, none⟩ = some (.int .i64 (A.s 1)) ∧ w'.cell? ⟨w.heap.size, 2, none⟩ = some (.int .i64 (A.s 2)) ∧ w'.cell? ⟨w.heap.size, 3, none⟩ = some (.int .i64 (A.s 3)) ∧ w'.cell? ⟨w.heap.size, 4, none⟩ = some (.int .i64 A.l) ∧ w'.cell? ⟨w.heap.size, 5, none⟩ = some (.int .i64 A.y) ∧ w'.cell? ⟨w.heap.size, 6, none⟩ = some (.bool A.r) ∧ w'.cell? ⟨w.heap.size, 7, none⟩ = some (.bool A.t)) ∧ (w'.cell? ⟨w.heap.size + 1, 0, none⟩ = some (.int .i64 (B.s 0)) ∧ w'.cell? ⟨w.heap.size + 1, 1, none⟩ = some (.int .i64 (B.s 1)) ∧ w'.cell? ⟨w.heap.size + 1, 2, none⟩ = some (.int .i64 (B.s 2)) ∧ w'.cell? ⟨w.heap.size + 1, 3, none⟩ = some (.int .i64 (B.s 3)) ∧ w'.cell? ⟨w.heap.size + 1, 4, none⟩ = some (.int .i64 B.l) ∧ w'.cell? ⟨w.heap.size + 1, 5, none⟩ = some (.int .i64 B.y) ∧ w'.cell? ⟨w.heap.size + 1, 6, none⟩ = some (.bool B.r) ∧ w'.cell? ⟨w.heap.size + 1, 7, none⟩ = some (.bool B.t)))
              (first
                | (with_reducible assumption)
                | exact two_cells TB.out)
              (first
              | (with_reducible refine (numsC A _).mono ?_; rintro e v ⟨rfl, bb⟩; replace TB := Lib.hid (two_call TB.out bb); clear bb)
              | (with_reducible refine (numsC B _).mono ?_; rintro e v ⟨rfl, bb⟩; replace TB := Lib.hid (two_call TB.out bb); clear bb))
            all_goals
              go_wp2
              go_roundw
              case rel => exact ⟨k + 1, by rw [HL.out, HF.out]; rfl, by go_num, by omega, HM.out, TB.out⟩
              case measure => simp [intOf]; omega
          · go_wp2_with fail
            have TB := TA
            clear TA
            go_quiet (fail)
            go_wp2
            go_roundw
            case rel => exact ⟨k + 1, by rw [HL.out, HF.out]; rfl, by go_num, by omega, HM.out, two_drewN TB.out _⟩
            case measure => simp [intOf]; omega
    · obtain rfl : k = 8 := by omega
      have e8 : ((8 : Nat) : Int) = 8 := rfl
      have HL : Hid (less A B = ltN A B 8) := by show less A B = _; unfold less; rw [HN.out]; rfl
      go_wp2
      go_ret
      exact ⟨ret_bool HL.out, HA.out.below⟩

end Go.Proofs.Ytijjanoagimmhaa.Equip
