/- Contracts of ladder.Level and of the document's own. Conditions: none. -/
import Derived.Test.YtpjekkdidihagaaLadMeets
import Derived.Test.YtpjekkdidihagaaLadRows
namespace Go.Proofs.Ytpjekkdidihagaa.Lad
open Go.ChangeShapes Go.WideShapes Go.ChangeAt Go.RowKit Num Pers Vote Equip
open Lanes hiding Blk
attribute [local go_sem ↓] ldR_eq ldS_eq

/-- An inventory boxed, and the rows. -/
structure LvlAt (w0 : World) (S : St) (g : Nat) (w : World) : Prop where
  below : Below w0.heap.size w0 w
  hs : Blk w w0.heap.size (stA S) 24
  hr : Blk w g r18 28
theorem lvl_rows {w0 w w1 : World} {S : St} {g : Nat} (b : Below w0.heap.size w0 w) (k : Blk w w0.heap.size (stA S) 24) (hr : Blk w1 g r18 28) (c : Below w.heap.size w w1) : LvlAt w0 S g w1 :=
  ⟨bthen b c, blk_kept k c, hr⟩
theorem lvl_call {w0 w w1 : World} {S : St} {g : Nat} (h : LvlAt w0 S g w) (b : Below w.heap.size w w1) : LvlAt w0 S g w1 := ⟨bthen h.below b, blk_kept h.hs b, blk_kept h.hr b⟩
theorem lvl_drew {w0 w : World} {S : St} {g : Nat} (h : LvlAt w0 S g w) : LvlAt w0 S g w.drew := ⟨below_drewN h.below 1, h.hs, h.hr⟩
/-- And a row of its own. -/
structure RngAt (w0 : World) (S : St) (g h k : Nat) (w : World) : Prop where
  lv : LvlAt w0 S g w
  hl : Blk w h (rgA (rowL k) (rowS k)) 28
theorem rng_new {w0 w : World} {S : St} {g : Nat} (k : Nat) (h : LvlAt w0 S g w) : RngAt w0 S g w.heap.size k (w.alloc (.cells (rgA (rowL k) (rowS k)) 28)) := ⟨lvl_call h (allocs _ _), blk_alloc _ _ _⟩
theorem rng_call {w0 w w1 : World} {S : St} {g h k : Nat} (r : RngAt w0 S g h k w) (b : Below w.heap.size w w1) : RngAt w0 S g h k w1 := ⟨lvl_call r.lv b, blk_kept r.hl b⟩

set_option maxRecDepth 100000 in
set_option maxHeartbeats 4000000 in
theorem levNo (S : St) (w : World) :
    Calls Try.prog 7 #[.agg (stA S), .bool false] w fun e w' => e = .returned (.int .u8 0) ∧ Below w.heap.size w w' := by
  have K0 := Lib.hid (allocs w (.cells (stA S) 24))
  go_enter Try.func7, Try.ntmps7
  go_wp2_with fail
  go_ret
  exact ⟨rfl, K0.out⟩

set_option maxRecDepth 100000 in
set_option maxHeartbeats 8000000 in
theorem levYes (S : St) (w : World) :
    Calls Try.prog 7 #[.agg (stA S), .bool true] w fun e w' => e = .returned (.int .u8 (levY S)) ∧ Below w.heap.size w w' := by
  have K0 := Lib.hid (And.intro (allocs w (.cells (stA S) 24)) (blk_alloc w (stA S) 24))
  go_enter Try.func7, Try.ntmps7
  go_wp2_with fail
  refine (rowsC _).mono ?_
  rintro e w1 ⟨g, rfl, hg, kr, bb⟩
  have K1 := Lib.hid (lvl_rows K0.out.1 K0.out.2 kr bb)
  clear bb kr hg K0
  go_upto_region 4 with (fail)
  go_loopw [11] (fun i wr => ∃ k : Nat, i = .int .i64 k ∧ k ≤ 2 ∧ (∀ j, j < k → meets S (rowS j) = false) ∧ LvlAt w S g wr) (fun i _ => 2 - (intOf i).toNat)
  case atStart => exact ⟨0, rfl, by omega, fun j hj => by omega, K1.out⟩
  case round =>
    rename_i wr
    obtain ⟨k, rfl, hk, N, T⟩ := hrel
    have HA := Lib.hid T
    have HN := Lib.hid N
    clear T N K1
    by_cases hk2 : k < 2
    · have k0 : (0 : Int) ≤ (k : Int) := Int.natCast_nonneg _
      have k2 : (k : Int) < 2 := by omega
      have q0 := ldR_row HA.out.hr hk2
      have HB := Lib.hid (rng_new k HA.out)
      have HK := Lib.hid hk2
      go_upto_region 6 with (fail)
      generalize hW : World.alloc wr _ = W
      have HC : Hid (RngAt w S g wr.heap.size k W) := by rw [← hW]; exact HB.out
      clear hW HB HA q0
      generalize wr.heap.size = h at *
      have q0 := ldS_blk HC.out.lv.hs
      have q1 := ldS_rg HC.out.hl
      go_wp2_with fail
      refine (meetsC S (rowS k) _).mono ?_
      rintro e w2 ⟨rfl, bb⟩
      have HD := Lib.hid (rng_call HC.out bb)
      clear bb HC q0 q1
      cases hM : meets S (rowS k)
      · have HM := Lib.hid (none_next HN.out hM)
        clear hM HN
        go_wp2
        go_roundw
        case rel => exact ⟨k + 1, by go_num, by omega, HM.out, HD.out.lv⟩
        case measure => simp [intOf]; omega
      · have HM := Lib.hid (lev_hit HK.out HN.out hM)
        clear hM HN
        have c0 := blk_cell HD.out.hl (o := 0) (v := .int .u8 (rowL k)) rfl
        go_wp2
        go_ret
        exact ⟨ret_int HM.out, HD.out.lv.below⟩
    · obtain rfl : k = 2 := by omega
      have e2 : ((2 : Nat) : Int) = 2 := rfl
      have HM := Lib.hid (lev_none HN.out)
      clear HN
      go_wp2
      go_ret
      exact ⟨ret_int HM.out, HA.out.below⟩
theorem levC (S : St) (p : Bool) (w : World) :
    Calls Try.prog 7 #[.agg (stA S), .bool p] w fun e w' => e = .returned (.int .u8 (lev S p)) ∧ Below w.heap.size w w' := by
  cases p
  · exact levNo S w
  · exact levYes S w

theorem lvl_s {w0 w : World} {S : St} {g k : Nat} (hk : k < 2) (h : LvlAt w0 S g w) : (ldS (.pointer (some ⟨w0.heap.size, 0, none⟩))).run Try.prog w = .ok (.agg (stA S)) w ∧ (ldS (.pointer (some ⟨g, k * 9 + 1, none⟩))).run Try.prog w = .ok (.agg (stA (rowS k))) w := ⟨ldS_blk h.hs, ldS_row h.hr hk⟩
set_option maxRecDepth 100000 in
set_option maxHeartbeats 8000000 in
theorem rLevNo (S : St) (w : World) :
    Calls Try.prog 8 #[.agg (stA S), .bool false] w fun e w' => e = .returned (.int .u8 0) ∧ Below w.heap.size w w' := by
  have K0 := Lib.hid (allocs w (.cells (stA S) 24))
  go_enter Try.func8, Try.ntmps8
  go_wp2_with fail
  refine (rRowsC _).mono ?_
  rintro e w1 ⟨g, rfl, hg, kr, bb⟩
  have K1 := Lib.hid (bthen K0.out bb)
  clear bb kr hg K0
  go_upto_region 3 with (fail)
  go_loopw [6] (fun i wr => i = .int .i64 0 ∧ Below w.heap.size w wr) (fun _ _ => 0)
  case atStart => exact ⟨rfl, K1.out⟩
  case round =>
    obtain ⟨rfl, b⟩ := hrel
    have HB := Lib.hid b
    clear b K1
    go_wp2_with fail
    go_ret
    exact ⟨rfl, HB.out⟩
set_option maxRecDepth 100000 in
set_option maxHeartbeats 8000000 in
theorem rLevYes (S : St) (w : World) :
    Calls Try.prog 8 #[.agg (stA S), .bool true] w fun e w' => e = .returned (.int .u8 (levY S)) ∧ Below w.heap.size w w' := by
  have K0 := Lib.hid (And.intro (allocs w (.cells (stA S) 24)) (blk_alloc w (stA S) 24))
  go_enter Try.func8, Try.ntmps8
  go_wp2_with fail
  refine (rRowsC _).mono ?_
  rintro e w1 ⟨g, rfl, hg, kr, bb⟩
  have K1 := Lib.hid (lvl_rows K0.out.1 K0.out.2 kr bb)
  clear bb kr hg K0
  go_upto_region 3 with (fail)
  go_loopw [6] (fun i wr => ∃ k : Nat, i = .int .i64 k ∧ k ≤ 2 ∧ (∀ j, j < k → meets S (rowS j) = false) ∧ LvlAt w S g wr) (fun i _ => 2 - (intOf i).toNat)
  case atStart => exact ⟨0, rfl, by omega, fun j hj => by omega, K1.out⟩
  case round =>
    rename_i wr
    obtain ⟨k, rfl, hk, N, T⟩ := hrel
    have HA := Lib.hid T
    have HN := Lib.hid N
    clear T N K1
    by_cases hk2 : k < 2
    · have k0 : (0 : Int) ≤ (k : Int) := Int.natCast_nonneg _
      have k2 : (k : Int) < 2 := by omega
      have HK := Lib.hid hk2
      go_wp2_with fail
      have TA := Lib.hid (lvl_drew HA.out)
      clear HA
      go_region_held3 (fun w' => (ldS (.pointer (some ⟨w.heap.size, 0, none⟩))).run Try.prog w' = .ok (.agg (stA S)) w' ∧ (ldS (.pointer (some ⟨g, k * 9 + 1, none⟩))).run Try.prog w' = .ok (.agg (stA (rowS k))) w')
        (first
          | (with_reducible assumption)
          | exact lvl_s HK.out TA.out)
        (first
        | (with_reducible refine (rMeetsC S (rowS k) _).mono ?_; rintro e v ⟨rfl, bb⟩; replace TA := Lib.hid (lvl_call TA.out bb); clear bb))
      all_goals
        cases hM : meets S (rowS k)
        · have HM := Lib.hid (none_next HN.out hM)
          clear hM HN
          go_wp2
          go_roundw
          case rel => exact ⟨k + 1, by go_num, by omega, HM.out, TA.out⟩
          case measure => simp [intOf]; omega
        · have HM := Lib.hid (lev_hit HK.out HN.out hM)
          have c0 := lev_row TA.out.hr HK.out
          clear hM HN
          go_wp2
          go_ret
          exact ⟨ret_int HM.out, TA.out.below⟩
    · obtain rfl : k = 2 := by omega
      have e2 : ((2 : Nat) : Int) = 2 := rfl
      have HM := Lib.hid (lev_none HN.out)
      clear HN
      go_wp2
      go_ret
      exact ⟨ret_int HM.out, HA.out.below⟩
theorem rLevC (S : St) (p : Bool) (w : World) :
    Calls Try.prog 8 #[.agg (stA S), .bool p] w fun e w' => e = .returned (.int .u8 (lev S p)) ∧ Below w.heap.size w w' := by
  cases p
  · exact rLevNo S w
  · exact rLevYes S w

end Go.Proofs.Ytpjekkdidihagaa.Lad
