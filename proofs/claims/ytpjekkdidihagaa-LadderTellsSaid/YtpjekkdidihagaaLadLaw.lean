/- LadderTells: the level, whether one is as much as another one, the rows, are the document's. Conditions: none. -/
import Derived.Test.YtpjekkdidihagaaLadLives
namespace Go.Proofs.Ytpjekkdidihagaa.Lad
open Go.ChangeShapes Go.WideShapes Go.ChangeAt Go.RowKit Num Pers Vote Equip
open Lanes hiding Blk
attribute [local go_sem ↓] ldR_eq ldS_eq

/-- What the law boxes, and both slices of rows. -/
structure LawAt (w0 : World) (S L : St) (g h : Nat) (w : World) : Prop where
  two : TwoAt w0 S L w
  hg : Blk w g r18 28
  hh : Blk w h r18 28
theorem law_call {w0 w w1 : World} {S L : St} {g h : Nat} (r : LawAt w0 S L g h w) (b : Below w.heap.size w w1) : LawAt w0 S L g h w1 := ⟨two_call r.two b, blk_kept r.hg b, blk_kept r.hh b⟩
theorem law_drew {w0 w : World} {S L : St} {g h : Nat} (r : LawAt w0 S L g h w) : LawAt w0 S L g h w.drew := ⟨two_drew r.two, r.hg, r.hh⟩
theorem law_drewN {w0 w : World} {S L : St} {g h : Nat} (r : LawAt w0 S L g h w) (n : Nat) : LawAt w0 S L g h (w.drewN n) := ⟨two_drewN r.two n, r.hg, r.hh⟩
theorem law_r {w0 w : World} {S L : St} {g h k : Nat} (hk : k < 2) (r : LawAt w0 S L g h w) : (ldR (.pointer (some ⟨g, k * 9, none⟩))).run Try.prog w = .ok (.agg (rgA (rowL k) (rowS k))) w ∧ (ldR (.pointer (some ⟨h, k * 9, none⟩))).run Try.prog w = .ok (.agg (rgA (rowL k) (rowS k))) w := ⟨ldR_row r.hg hk, ldR_row r.hh hk⟩

set_option maxRecDepth 100000 in
set_option maxHeartbeats 8000000 in
theorem tellsC (S L : St) (p : Bool) (w : World) :
    Calls Try.prog 3 #[.agg (stA S), .agg (stA L), .bool p] w fun e w' => e = .returned (.bool true) ∧ Below w.heap.size w w' := by
  have K0 := Lib.hid (two_box w S L)
  go_enter Try.func3, Try.ntmps3
  go_upto_region 1 with (fail)
  generalize World.alloc (World.alloc w _) _ = W at *
  go_wp2_with fail
  refine (rowsC _).mono ?_
  rintro e w1 ⟨g, rfl, _, kg, bb⟩
  have K1 := Lib.hid (And.intro (two_call K0.out bb) kg)
  clear bb kg K0
  go_wp2_with fail
  refine (rRowsC _).mono ?_
  rintro e w2 ⟨h, rfl, _, kh, bb⟩
  have K2 : Hid (LawAt w S L g h w2) := ⟨two_call K1.out.1 bb, blk_kept K1.out.2 bb, kh⟩
  clear bb kh K1
  go_upto_region 6 with (fail)
  go_loopw [9] (fun i wr => ∃ k : Nat, i = .int .i64 k ∧ k ≤ 2 ∧ LawAt w S L g h wr) (fun i _ => 2 - (intOf i).toNat)
  case atStart => exact ⟨0, rfl, by omega, K2.out⟩
  case round =>
    rename_i wr
    obtain ⟨k, rfl, hk, T⟩ := hrel
    have HA := Lib.hid T
    clear T K2
    by_cases hk2 : k < 2
    · have k0 : (0 : Int) ≤ (k : Int) := Int.natCast_nonneg _
      have k2 : (k : Int) < 2 := by omega
      have HK := Lib.hid hk2
      have en := fun W => ne_row k W
      go_wp2_with fail
      have TA := Lib.hid (law_drew HA.out)
      clear HA
      go_region_held3 (fun w' => (ldR (.pointer (some ⟨g, k * 9, none⟩))).run Try.prog w' = .ok (.agg (rgA (rowL k) (rowS k))) w' ∧ (ldR (.pointer (some ⟨h, k * 9, none⟩))).run Try.prog w' = .ok (.agg (rgA (rowL k) (rowS k))) w')
        (first
          | (with_reducible assumption)
          | exact law_r HK.out TA.out)
        (fail)
      all_goals
        go_wp2
        go_roundw
        case rel => exact ⟨k + 1, by go_num, by omega, TA.out⟩
        case measure => simp [intOf]; omega
    · obtain rfl : k = 2 := by omega
      have e2 : ((2 : Nat) : Int) = 2 := rfl
      have KL := Lib.hid (fun W => levC S p W)
      have KR := Lib.hid (fun W => rLevC S p W)
      generalize lev S p = v at *
      go_wp2_with fail
      have TA := Lib.hid (two_drew HA.out.two)
      clear HA
      go_region_held3 (fun w' => (ldS (.pointer (some ⟨w.heap.size, 0, none⟩))).run Try.prog w' = .ok (.agg (stA S)) w' ∧ (ldS (.pointer (some ⟨w.heap.size + 1, 0, none⟩))).run Try.prog w' = .ok (.agg (stA L)) w')
        (first
          | (with_reducible assumption)
          | exact two_s TA.out)
        (first
        | (with_reducible refine (KL.out _).mono ?_; rintro e v ⟨rfl, bb⟩; replace TA := Lib.hid (two_call TA.out bb); clear bb)
        | (with_reducible refine (KR.out _).mono ?_; rintro e v ⟨rfl, bb⟩; replace TA := Lib.hid (two_call TA.out bb); clear bb)
        | (with_reducible refine (meetsC S L _).mono ?_; rintro e v ⟨rfl, bb⟩; replace TA := Lib.hid (two_call TA.out bb); clear bb)
        | (with_reducible refine (rMeetsC S L _).mono ?_; rintro e v ⟨rfl, bb⟩; replace TA := Lib.hid (two_call TA.out bb); clear bb)
        | (with_reducible refine (lives _).mono ?_; rintro e v ⟨rfl, bb⟩; replace TA := Lib.hid (two_call TA.out bb); clear bb))
      all_goals
        go_wp2
        go_ret
        exact ⟨rfl, TA.out.below⟩

end Go.Proofs.Ytpjekkdidihagaa.Lad
