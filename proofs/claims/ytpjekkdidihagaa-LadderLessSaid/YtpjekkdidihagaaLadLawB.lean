/- LadderLess: of less the level is not higher; a level is there just if its row is met. Conditions: none. -/
import Derived.Test.YtpjekkdidihagaaLadLives
namespace Go.Proofs.Ytpjekkdidihagaa.Lad
open Go.ChangeShapes Go.WideShapes Go.ChangeAt Go.RowKit Num Pers Vote Equip
open Lanes hiding Blk
attribute [local go_sem ↓] ldR_eq ldS_eq

/-- What the law boxes, and the rows. -/
structure LessAt (w0 : World) (A B : St) (g : Nat) (w : World) : Prop where
  two : TwoAt w0 A B w
  hg : Blk w g r18 28
theorem les_call {w0 w w1 : World} {A B : St} {g : Nat} (r : LessAt w0 A B g w) (b : Below w.heap.size w w1) : LessAt w0 A B g w1 := ⟨two_call r.two b, blk_kept r.hg b⟩
theorem les_drew {w0 w : World} {A B : St} {g : Nat} (r : LessAt w0 A B g w) : LessAt w0 A B g w.drew := ⟨two_drew r.two, r.hg⟩
theorem les_drewN {w0 w : World} {A B : St} {g : Nat} (r : LessAt w0 A B g w) (n : Nat) : LessAt w0 A B g (w.drewN n) := ⟨two_drewN r.two n, r.hg⟩
theorem les_s {w0 w : World} {A B : St} {g k : Nat} (hk : k < 2) (r : LessAt w0 A B g w) : w.cell? ⟨g, k * 9, none⟩ = some (.int .u8 (rowL k)) ∧ (ldS (.pointer (some ⟨w0.heap.size, 0, none⟩))).run Try.prog w = .ok (.agg (stA A)) w ∧ (ldS (.pointer (some ⟨g, k * 9 + 1, none⟩))).run Try.prog w = .ok (.agg (stA (rowS k))) w := ⟨lev_row r.hg hk, ldS_blk r.two.ha, ldS_row r.hg hk⟩

set_option maxRecDepth 100000 in
set_option maxHeartbeats 16000000 in
theorem lessesC (A B : St) (p : Bool) (w : World) :
    Calls Try.prog 4 #[.agg (stA A), .agg (stA B), .bool p] w fun e w' => e = .returned (.bool true) ∧ Below w.heap.size w w' := by
  have K0 := Lib.hid (two_box w A B)
  have XA := Lib.hid (fun W => levC A p W)
  have XB := Lib.hid (fun W => levC B p W)
  have XL := Lib.hid (fun h => lev_less (A := A) (B := B) h p)
  have XY : Hid (p = true → ∀ k, k < 2 → meets A (rowS k) = true → rowL k ≤ lev A p) := fun e k hk h => by subst e; exact lev_yes hk h
  have XN : Hid (p = true → ∀ k, k < 2 → meets A (rowS k) = false → lev A p < rowL k) := fun e k hk h => by subst e; exact lev_no hk h
  have XZ : Hid (p = false → lev A p = 0) := fun e => by subst e; rfl
  have XD := Lib.hid (lev_bd A p)
  generalize lev A p = x at *
  generalize lev B p = y at *
  go_enter Try.func4, Try.ntmps4
  go_upto_region 1 with (fail)
  generalize World.alloc (World.alloc w _) _ = W at *
  have TA := Lib.hid (two_drew K0.out)
  clear K0
  go_region_held3 (fun w' => (ldS (.pointer (some ⟨w.heap.size, 0, none⟩))).run Try.prog w' = .ok (.agg (stA A)) w' ∧ (ldS (.pointer (some ⟨w.heap.size + 1, 0, none⟩))).run Try.prog w' = .ok (.agg (stA B)) w')
    (first
      | (with_reducible assumption)
      | exact two_s TA.out)
    (first
    | (with_reducible refine (XA.out _).mono ?_; rintro e v ⟨rfl, bb⟩; replace TA := Lib.hid (two_call TA.out bb); clear bb)
    | (with_reducible refine (XB.out _).mono ?_; rintro e v ⟨rfl, bb⟩; replace TA := Lib.hid (two_call TA.out bb); clear bb))
  go_upto_region 2 with (fail)
  have q0 := ldS_blk TA.out.ha
  have q1 := ldS_blk TA.out.hb
  go_wp2_with fail
  refine (rLessC A B _).mono ?_
  rintro e w1 ⟨rfl, bb⟩
  have K1 := Lib.hid (two_call TA.out bb)
  clear bb TA q0 q1
  have xd2 := XD.out.2
  have HS : Hid (less A B = true → x ≤ y) := XL.out
  generalize less A B = F at *
  cases F
  all_goals
    first
      | (have xy : x ≤ y := HS.out rfl)
      | skip
    clear HS
    go_wp2_with fail
    clear xd2
    try clear xy
    refine (rowsC _).mono ?_
    rintro e w2 ⟨g, rfl, _, kg, bb⟩
    have K2 : Hid (LessAt w A B g w2) := ⟨two_call K1.out bb, kg⟩
    clear bb kg K1
    go_upto_region 6 with (fail)
    go_loopw [10] (fun i wr => ∃ k : Nat, i = .int .i64 k ∧ k ≤ 2 ∧ LessAt w A B g wr) (fun i _ => 2 - (intOf i).toNat)
    case atStart => exact ⟨0, rfl, by omega, K2.out⟩
    case round =>
      rename_i wr
      obtain ⟨k, rfl, hk, T⟩ := hrel
      have HA := Lib.hid T
      clear T K2
      by_cases hk2 : k < 2
      · have k0 : (0 : Int) ≤ (k : Int) := Int.natCast_nonneg _
        have k2 : (k : Int) < 2 := by omega
        have HK := Lib.hid hk2
        cases p
        · go_wp2_with fail
          go_quiet (fail)
          go_wp2
          go_roundw
          case rel => exact ⟨k + 1, by go_num, by omega, les_drewN HA.out _⟩
          case measure => simp [intOf]; omega
        · go_wp2_with fail
          have TA := Lib.hid (les_drew HA.out)
          clear HA
          cases hM : meets A (rowS k)
          all_goals
            have HM := Lib.hid hM
            first
              | (have XC : Hid (x < rowL k) := XN.out (by trivial) k HK.out HM.out)
              | (have XC : Hid (rowL k ≤ x) := XY.out (by trivial) k HK.out HM.out)
            have MC : Hid (∀ W, Calls Try.prog 9 #[.agg (stA A), .agg (stA (rowS k))] W fun e w' => e = .returned (.bool (meets A (rowS k))) ∧ Below W.heap.size W w') := fun W => meetsC A (rowS k) W
            rw [hM] at MC
            clear hM
            have xc := XC.out
            go_region_held3 (fun w' => w'.cell? ⟨g, k * 9, none⟩ = some (.int .u8 (rowL k)) ∧ (ldS (.pointer (some ⟨w.heap.size, 0, none⟩))).run Try.prog w' = .ok (.agg (stA A)) w' ∧ (ldS (.pointer (some ⟨g, k * 9 + 1, none⟩))).run Try.prog w' = .ok (.agg (stA (rowS k))) w')
              (first
                | (with_reducible assumption)
                | exact les_s HK.out TA.out)
              (first
              | (with_reducible refine (MC.out _).mono ?_; rintro e v ⟨rfl, bb⟩; replace TA := Lib.hid (les_call TA.out bb); clear bb))
            all_goals
              go_wp2
              go_roundw
              case rel => exact ⟨k + 1, by go_num, by omega, TA.out⟩
              case measure => simp [intOf]; omega
      · obtain rfl : k = 2 := by omega
        have e2 : ((2 : Nat) : Int) = 2 := rfl
        cases p
        · obtain rfl : x = 0 := XZ.out rfl
          go_wp2_with fail
          refine (lives _).mono ?_
          rintro e w3 ⟨rfl, bb⟩
          have K3 := Lib.hid (les_call HA.out bb)
          clear bb HA
          go_wp2
          go_ret
          exact ⟨rfl, K3.out.two.below⟩
        · go_wp2_with fail
          refine (lives _).mono ?_
          rintro e w3 ⟨rfl, bb⟩
          have K3 := Lib.hid (les_call HA.out bb)
          clear bb HA
          go_wp2
          go_ret
          exact ⟨rfl, K3.out.two.below⟩

end Go.Proofs.Ytpjekkdidihagaa.Lad
