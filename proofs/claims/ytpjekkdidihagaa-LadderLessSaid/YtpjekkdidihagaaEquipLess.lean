/- Contracts of equip.Least (slices.Min of four numbers), equip.Less, and of the document's own. Conditions: none. -/
import Derived.Test.YtpjekkdidihagaaEquipSmall
namespace Go.Proofs.Ytpjekkdidihagaa.Equip
open Go.ChangeShapes Go.WideShapes Go.ChangeAt Go.RowKit Num Pers Vote Lanes

set_option maxRecDepth 100000 in
set_option maxHeartbeats 4000000 in
theorem lessC (A B : St) (w : World) :
    Calls Try.prog 13 #[.agg (stA A), .agg (stA B)] w fun e w' => e = .returned (.bool (less A B)) ∧ Below w.heap.size w w' := by
  have K0 := Lib.hid (two_box w A B)
  have en := fun W => ne_st A B W
  cases hE : eqS A B
  · have HL := Lib.hid (less_other hE)
    rw [hE] at en
    clear hE
    go_enter Try.func13, Try.ntmps13
    go_wp2_with fail
    refine (moreC A B _).mono ?_
    rintro e w1 ⟨rfl, b1⟩
    have K1 := Lib.hid (bthen K0.out.below b1)
    clear b1
    go_wp2
    go_ret
    exact ⟨ret_bool HL.out, K1.out⟩
  · have HL := Lib.hid (less_same hE)
    rw [hE] at en
    clear hE
    go_enter Try.func13, Try.ntmps13
    go_wp2_with fail
    go_ret
    exact ⟨ret_bool HL.out, K0.out.below⟩

theorem two_cells {w0 w : World} {A B : St} (h : TwoAt w0 A B w) : (w.cell? ⟨w0.heap.size, 0, none⟩ = some (.int .i64 (A.s 0)) ∧ w.cell? ⟨w0.heap.size, 1, none⟩ = some (.int .i64 (A.s 1)) ∧ w.cell? ⟨w0.heap.size, 2, none⟩ = some (.int .i64 (A.s 2)) ∧ w.cell? ⟨w0.heap.size, 3, none⟩ = some (.int .i64 (A.s 3)) ∧ w.cell? ⟨w0.heap.size, 4, none⟩ = some (.int .i64 A.l) ∧ w.cell? ⟨w0.heap.size, 5, none⟩ = some (.int .i64 A.y) ∧ w.cell? ⟨w0.heap.size, 6, none⟩ = some (.bool A.r) ∧ w.cell? ⟨w0.heap.size, 7, none⟩ = some (.bool A.t)) ∧ (w.cell? ⟨w0.heap.size + 1, 0, none⟩ = some (.int .i64 (B.s 0)) ∧ w.cell? ⟨w0.heap.size + 1, 1, none⟩ = some (.int .i64 (B.s 1)) ∧ w.cell? ⟨w0.heap.size + 1, 2, none⟩ = some (.int .i64 (B.s 2)) ∧ w.cell? ⟨w0.heap.size + 1, 3, none⟩ = some (.int .i64 (B.s 3)) ∧ w.cell? ⟨w0.heap.size + 1, 4, none⟩ = some (.int .i64 B.l) ∧ w.cell? ⟨w0.heap.size + 1, 5, none⟩ = some (.int .i64 B.y) ∧ w.cell? ⟨w0.heap.size + 1, 6, none⟩ = some (.bool B.r) ∧ w.cell? ⟨w0.heap.size + 1, 7, none⟩ = some (.bool B.t)) :=
  ⟨⟨blk_cell h.ha (o := 0) rfl, blk_cell h.ha (o := 1) rfl, blk_cell h.ha (o := 2) rfl, blk_cell h.ha (o := 3) rfl, blk_cell h.ha (o := 4) rfl, blk_cell h.ha (o := 5) rfl, blk_cell h.ha (o := 6) rfl, blk_cell h.ha (o := 7) rfl⟩, ⟨blk_cell h.hb (o := 0) rfl, blk_cell h.hb (o := 1) rfl, blk_cell h.hb (o := 2) rfl, blk_cell h.hb (o := 3) rfl, blk_cell h.hb (o := 4) rfl, blk_cell h.hb (o := 5) rfl, blk_cell h.hb (o := 6) rfl, blk_cell h.hb (o := 7) rfl⟩⟩

set_option maxRecDepth 100000 in
set_option maxHeartbeats 4000000 in
theorem rLessC (A B : St) (w : World) :
    Calls Try.prog 12 #[.agg (stA A), .agg (stA B)] w fun e w' => e = .returned (.bool (less A B)) ∧ Below w.heap.size w w' := by
  have K0 := Lib.hid (two_box w A B)
  go_enter Try.func12, Try.ntmps12
  go_wp2_with fail
  generalize World.alloc (World.alloc w _) _ = W at *
  go_loopw [5, 6] (fun v i wr => ∃ k : Nat, v = .bool (ltN A B k) ∧ i = .int .i64 k ∧ k ≤ 8 ∧ nmN A B k = true ∧ TwoAt w A B wr) (fun _ i _ => 8 - (intOf i).toNat)
  case atStart => exact ⟨0, rfl, rfl, by omega, rfl, K0.out⟩
  case round =>
    rename_i wr
    obtain ⟨k, rfl, rfl, hk, N, S⟩ := hrel
    have HA := Lib.hid S
    have HN := Lib.hid N
    clear S N K0
    by_cases hk8 : k < 8
    · have k0 : (0 : Int) ≤ (k : Int) := Int.natCast_nonneg _
      have k8 : (k : Int) < 8 := by omega
      have jx := fun S W => ix_8 S W k hk8
      have HK := Lib.hid hk8
      go_wp2_with fail
      have TA := Lib.hid (two_drew HA.out)
      clear HA
      go_region_held3 (fun w' => (w'.cell? ⟨w.heap.size, 0, none⟩ = some (.int .i64 (A.s 0)) ∧ w'.cell? ⟨w.heap.size, 1, none⟩ = some (.int .i64 (A.s 1)) ∧ w'.cell? ⟨w.heap.size, 2, none⟩ = some (.int .i64 (A.s 2)) ∧ w'.cell? ⟨w.heap.size, 3, none⟩ = some (.int .i64 (A.s 3)) ∧ w'.cell? ⟨w.heap.size, 4, none⟩ = some (.int .i64 A.l) ∧ w'.cell? ⟨w.heap.size, 5, none⟩ = some (.int .i64 A.y) ∧ w'.cell? ⟨w.heap.size, 6, none⟩ = some (.bool A.r) ∧ w'.cell? ⟨w.heap.size, 7, none⟩ = some (.bool A.t)) ∧ (w'.cell? ⟨w.heap.size + 1, 0, none⟩ = some (.int .i64 (B.s 0)) ∧ w'.cell? ⟨w.heap.size + 1, 1, none⟩ = some (.int .i64 (B.s 1)) ∧ w'.cell? ⟨w.heap.size + 1, 2, none⟩ = some (.int .i64 (B.s 2)) ∧ w'.cell? ⟨w.heap.size + 1, 3, none⟩ = some (.int .i64 (B.s 3)) ∧ w'.cell? ⟨w.heap.size + 1, 4, none⟩ = some (.int .i64 B.l) ∧ w'.cell? ⟨w.heap.size + 1, 5, none⟩ = some (.int .i64 B.y) ∧ w'.cell? ⟨w.heap.size + 1, 6, none⟩ = some (.bool B.r) ∧ w'.cell? ⟨w.heap.size + 1, 7, none⟩ = some (.bool B.t)))
        (first
          | (with_reducible assumption)
          | exact two_cells TA.out)
        (first
        | (with_reducible refine (numsC A _).mono ?_; rintro e v ⟨rfl, bb⟩; replace TA := Lib.hid (two_call TA.out bb); clear bb)
        | (with_reducible refine (numsC B _).mono ?_; rintro e v ⟨rfl, bb⟩; replace TA := Lib.hid (two_call TA.out bb); clear bb))
      all_goals
        by_cases hm : nu B k < nu A k
        · have HM : Hid (less A B = false) := by show less A B = false; unfold less; rw [nm_more HK.out hm]; rfl
          go_wp2
          go_ret
          exact ⟨ret_bool HM.out, TA.out.below⟩
        · have HM : Hid (nmN A B (k + 1) = true) := by show (nmN A B k && decide (nu A k ≤ nu B k)) = true; rw [HN.out, decide_eq_true (by omega)]; rfl
          have HL : Hid (ltN A B (k + 1) = (ltN A B k || decide (nu A k < nu B k))) := rfl
          obtain ⟨F, hF⟩ : ∃ F, ltN A B k = F := ⟨_, rfl⟩
          rw [hF]
          have HF := Lib.hid hF
          clear hF HN
          cases F
          · go_wp2_with fail
            have TB := Lib.hid (two_drew TA.out)
            clear TA
            go_region_held3 (fun w' => (w'.cell? ⟨w.heap.size, 0, none⟩ = some (.int .i64 (A.s 0)) ∧ w'.cell? ⟨w.heap.size, 1, none⟩ = some (.int .i64 (A.s 1)) ∧ w'.cell? ⟨w.heap.size, 2, none⟩ = some (.int .i64 (A.s 2)) ∧ w'.cell? ⟨w.heap.size, 3, none⟩ = some (.int .i64 (A.s 3)) ∧ w'.cell? ⟨w.heap.size, 4, none⟩ = some (.int .i64 A.l) ∧ w'.cell? ⟨w.heap.size, 5, none⟩ = some (.int .i64 A.y) ∧ w'.cell? ⟨w.heap.size, 6, none⟩ = some (.bool A.r) ∧ w'.cell? ⟨w.heap.size, 7, none⟩ = some (.bool A.t)) ∧ (w'.cell? ⟨w.heap.size + 1, 0, none⟩ = some (.int .i64 (B.s 0)) ∧ w'.cell? ⟨w.heap.size + 1, 1, none⟩ = some (.int .i64 (B.s 1)) ∧ w'.cell? ⟨w.heap.size + 1, 2, none⟩ = some (.int .i64 (B.s 2)) ∧ w'.cell? ⟨w.heap.size + 1, 3, none⟩ = some (.int .i64 (B.s 3)) ∧ w'.cell? ⟨w.heap.size + 1, 4, none⟩ = some (.int .i64 B.l) ∧ w'.cell? ⟨w.heap.size + 1, 5, none⟩ = some (.int .i64 B.y) ∧ w'.cell? ⟨w.heap.size + 1, 6, none⟩ = some (.bool B.r) ∧ w'.cell? ⟨w.heap.size + 1, 7, none⟩ = some (.bool B.t)))
              (first
                | (with_reducible assumption)
                | exact two_cells TB.out)
              (first
              | (with_reducible refine (numsC A _).mono ?_; rintro e v ⟨rfl, bb⟩; replace TB := Lib.hid (two_call TB.out bb); clear bb)
              | (with_reducible refine (numsC B _).mono ?_; rintro e v ⟨rfl, bb⟩; replace TB := Lib.hid (two_call TB.out bb); clear bb))
            all_goals
              go_wp2
              go_roundw
              case rel => exact ⟨k + 1, by rw [HL.out, HF.out]; rfl, by go_num, by omega, HM.out, TB.out⟩
              case measure => simp [intOf]; omega
          · go_wp2_with fail
            have TB := TA
            clear TA
            go_quiet (fail)
            go_wp2
            go_roundw
            case rel => exact ⟨k + 1, by rw [HL.out, HF.out]; rfl, by go_num, by omega, HM.out, two_drewN TB.out _⟩
            case measure => simp [intOf]; omega
    · obtain rfl : k = 8 := by omega
      have e8 : ((8 : Nat) : Int) = 8 := rfl
      have HL : Hid (less A B = ltN A B 8) := by show less A B = _; unfold less; rw [HN.out]; rfl
      go_wp2
      go_ret
      exact ⟨ret_bool HL.out, HA.out.below⟩

end Go.Proofs.Ytpjekkdidihagaa.Equip
