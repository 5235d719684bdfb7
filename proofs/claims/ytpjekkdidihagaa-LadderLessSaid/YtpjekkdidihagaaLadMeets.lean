/- Contracts of ladder.Meets and of the document's own. Conditions: none. -/
import Derived.Test.YtpjekkdidihagaaLadRow
import Derived.Test.YtpjekkdidihagaaEquipLess
namespace Go.Proofs.Ytpjekkdidihagaa.Lad
open Go.ChangeShapes Go.WideShapes Go.ChangeAt Go.RowKit Num Pers Vote Equip
open Lanes hiding Blk
attribute [local go_sem ↓] ldR_eq ldS_eq

set_option maxRecDepth 100000 in
set_option maxHeartbeats 4000000 in
theorem meetsC (S L : St) (w : World) :
    Calls Try.prog 9 #[.agg (stA S), .agg (stA L)] w fun e w' => e = .returned (.bool (meets S L)) ∧ Below w.heap.size w w' := by
  have K0 := Lib.hid (two_box w S L)
  have en := fun W => eq_st S L W
  cases hE : eqS S L
  · have HL := Lib.hid (meets_other hE)
    rw [hE] at en
    clear hE
    go_enter Try.func9, Try.ntmps9
    go_upto_region 1 with (fail)
    generalize World.alloc (World.alloc w _) _ = W at *
    have q0 := ldS_blk K0.out.ha
    have q1 := ldS_blk K0.out.hb
    go_wp2_with fail
    refine (lessC L S _).mono ?_
    rintro e w1 ⟨rfl, b1⟩
    have K1 := Lib.hid (bthen K0.out.below b1)
    clear b1
    go_wp2
    go_ret
    exact ⟨ret_bool HL.out.symm, K1.out⟩
  · have HL := Lib.hid (meets_same hE)
    rw [hE] at en
    clear hE
    go_enter Try.func9, Try.ntmps9
    go_upto_region 1 with (fail)
    generalize World.alloc (World.alloc w _) _ = W at *
    have q0 := ldS_blk K0.out.ha
    have q1 := ldS_blk K0.out.hb
    go_wp2_with fail
    go_ret
    exact ⟨ret_bool HL.out, K0.out.below⟩

theorem two_s {w0 w : World} {A B : St} (h : TwoAt w0 A B w) : (ldS (.pointer (some ⟨w0.heap.size, 0, none⟩))).run Try.prog w = .ok (.agg (stA A)) w ∧ (ldS (.pointer (some ⟨w0.heap.size + 1, 0, none⟩))).run Try.prog w = .ok (.agg (stA B)) w := ⟨ldS_blk h.ha, ldS_blk h.hb⟩
set_option maxRecDepth 100000 in
set_option maxHeartbeats 4000000 in
theorem rMeetsC (S L : St) (w : World) :
    Calls Try.prog 10 #[.agg (stA S), .agg (stA L)] w fun e w' => e = .returned (.bool (meets S L)) ∧ Below w.heap.size w w' := by
  have K0 := Lib.hid (two_box w S L)
  go_enter Try.func10, Try.ntmps10
  go_wp2_with fail
  generalize World.alloc (World.alloc w _) _ = W at *
  go_loopw [5] (fun i wr => ∃ k : Nat, i = .int .i64 k ∧ k ≤ 8 ∧ nmN L S k = true ∧ TwoAt w S L wr) (fun i _ => 8 - (intOf i).toNat)
  case atStart => exact ⟨0, rfl, by omega, rfl, K0.out⟩
  case round =>
    rename_i wr
    obtain ⟨k, rfl, hk, N, T⟩ := hrel
    have HA := Lib.hid T
    have HN := Lib.hid N
    clear T N K0
    by_cases hk8 : k < 8
    · have k0 : (0 : Int) ≤ (k : Int) := Int.natCast_nonneg _
      have k8 : (k : Int) < 8 := by omega
      have jx := fun S W => ix_8 S W k hk8
      have HK := Lib.hid hk8
      go_wp2_with fail
      have TA := Lib.hid (two_drew HA.out)
      clear HA
      go_region_held3 (fun w' => (ldS (.pointer (some ⟨w.heap.size, 0, none⟩))).run Try.prog w' = .ok (.agg (stA S)) w' ∧ (ldS (.pointer (some ⟨w.heap.size + 1, 0, none⟩))).run Try.prog w' = .ok (.agg (stA L)) w')
        (first
          | (with_reducible assumption)
          | exact two_s TA.out)
        (first
        | (with_reducible refine (numsC S _).mono ?_; rintro e v ⟨rfl, bb⟩; replace TA := Lib.hid (two_call TA.out bb); clear bb)
        | (with_reducible refine (numsC L _).mono ?_; rintro e v ⟨rfl, bb⟩; replace TA := Lib.hid (two_call TA.out bb); clear bb))
      all_goals
        by_cases hm : nu S k < nu L k
        · have HM : Hid (meets S L = false) := meets_no HK.out hm
          go_wp2
          go_ret
          exact ⟨ret_bool HM.out, TA.out.below⟩
        · have HM : Hid (nmN L S (k + 1) = true) := by show (nmN L S k && decide (nu L k ≤ nu S k)) = true; rw [HN.out, decide_eq_true (by omega)]; rfl
          go_wp2
          go_roundw
          case rel => exact ⟨k + 1, by go_num, by omega, HM.out, TA.out⟩
          case measure => simp [intOf]; omega
    · obtain rfl : k = 8 := by omega
      have e8 : ((8 : Nat) : Int) = 8 := rfl
      have HL : Hid (meets S L = true) := HN.out
      go_wp2
      go_ret
      exact ⟨ret_bool HL.out, HA.out.below⟩

end Go.Proofs.Ytpjekkdidihagaa.Lad
