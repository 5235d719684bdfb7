/- The walk of the law FieldOne: it returns true and turns nothing that was there. Conditions: data are from 0 to 2^32 - 1. -/
import Derived.Test.YtdonplbpjjjohaaFieldLaw
namespace Go.Proofs.Ytdonplbpjjjohaa.Field
open Go.ChangeShapes Go.WideShapes Go.ChangeAt Go.RowKit Num Word

theorem pm_bit {d : Int} (h0 : 0 ≤ d) (h : d < 524288) : pmN 19 (bit d) = d ∧ pmE 19 = 0 := by
  have e := tm_bit d h0 19 0
  refine ⟨?_, by decide⟩
  rw [(pm_yes (L := bit d) (Nat.le_refl 19)).1, e, show (2 : Int) ^ 0 = 1 from rfl, Int.ediv_one, show (2 : Int) ^ 19 = 524288 from rfl]
  omega
theorem pm_0 (L : Nat → Bool) : pmN 0 L = 0 ∧ pmE 0 = 0 := ⟨rfl, rfl⟩

set_option maxHeartbeats 2000000 in
set_option maxRecDepth 100000 in
theorem one_good (d : Int) (w : World) (d0 : 0 ≤ d) (d1 : d < 524288) (g : good d) :
    Calls Try.prog 5 #[.int .u32 d] w fun e w' => e = .returned (.bool true) ∧ Below w.heap.size w w' := by
  have N := Lib.hid (nm_yes d1 d0)
  have D := Lib.hid (dg_yes d1 g)
  have DI := Lib.hid (dg5_in d1 d0 g)
  have DB := Lib.hid (pd5_dg5 d1 d0 g)
  clear g
  go_enter Try.func5, Try.ntmps5
  go_wp2_with fail
  refine (number d d0 (by omega) _).mono ?_
  rintro e w' ⟨rfl, rfl⟩
  rw [N.out.1]
  go_wp2_with fail
  refine (putNumber (nmN d) _).mono ?_
  rintro e w' ⟨rfl, rfl⟩
  rw [(pn_yes ⟨N.out.2.1, N.out.2.2.1⟩).1, (pn_yes ⟨N.out.2.1, N.out.2.2.1⟩).2, N.out.2.2.2]
  go_wp2_with fail
  refine (digits d d0 (by omega) _).mono ?_
  rintro e w' ⟨rfl, rfl⟩
  rw [D.out.1, D.out.2]
  go_wp2_with fail
  refine (putDigits (dg5 d) _).mono ?_
  rintro e w' ⟨rfl, rfl⟩
  rw [(pd_yes DI.out).1, (pd_yes DI.out).2, DB.out]
  go_wp2_with fail
  refine (marks d d0 (by omega) _).mono ?_
  rintro e w1 ⟨A1, c1, rfl, b1, p1⟩
  rw [(mk_yes d1).1] at p1 ⊢
  rw [(mk_yes d1).2]
  have P1 := Lib.hid p1
  have B1 := Lib.hid b1
  clear b1 p1
  go_wp2_with fail
  refine (putMarks A1 19 c1 (bit d) _ (by unfold maxLen; omega) P1.out).mono ?_
  rintro e w' ⟨rfl, rfl⟩
  rw [(pm_bit d0 d1).1, (pm_bit d0 d1).2]
  go_wp2_with fail
  refine (lives _).mono ?_
  rintro e w2 ⟨rfl, b2⟩
  have B2 := Lib.hid (bthen B1.out b2)
  clear b2
  go_wp2
  go_ret
  exact ⟨rfl, B2.out⟩

set_option maxHeartbeats 2000000 in
set_option maxRecDepth 100000 in
theorem one_bad (d : Int) (w : World) (d0 : 0 ≤ d) (d1 : d < 524288) (g : ¬ good d) :
    Calls Try.prog 5 #[.int .u32 d] w fun e w' => e = .returned (.bool true) ∧ Below w.heap.size w w' := by
  have N := Lib.hid (nm_yes d1 d0)
  have D := Lib.hid (dg_bad d1 g)
  clear g
  go_enter Try.func5, Try.ntmps5
  go_wp2_with fail
  refine (number d d0 (by omega) _).mono ?_
  rintro e w' ⟨rfl, rfl⟩
  rw [N.out.1]
  go_wp2_with fail
  refine (putNumber (nmN d) _).mono ?_
  rintro e w' ⟨rfl, rfl⟩
  rw [(pn_yes ⟨N.out.2.1, N.out.2.2.1⟩).1, (pn_yes ⟨N.out.2.1, N.out.2.2.1⟩).2, N.out.2.2.2]
  go_wp2_with fail
  refine (digits d d0 (by omega) _).mono ?_
  rintro e w' ⟨rfl, rfl⟩
  rw [D.out.1, D.out.2]
  go_wp2_with fail
  refine (putDigits 0 _).mono ?_
  rintro e w' ⟨rfl, rfl⟩
  go_wp2_with fail
  refine (marks d d0 (by omega) _).mono ?_
  rintro e w1 ⟨A1, c1, rfl, b1, p1⟩
  rw [(mk_yes d1).1] at p1 ⊢
  rw [(mk_yes d1).2]
  have P1 := Lib.hid p1
  have B1 := Lib.hid b1
  clear b1 p1
  go_wp2_with fail
  refine (putMarks A1 19 c1 (bit d) _ (by unfold maxLen; omega) P1.out).mono ?_
  rintro e w' ⟨rfl, rfl⟩
  rw [(pm_bit d0 d1).1, (pm_bit d0 d1).2]
  go_wp2_with fail
  refine (lives _).mono ?_
  rintro e w2 ⟨rfl, b2⟩
  have B2 := Lib.hid (bthen B1.out b2)
  clear b2
  go_wp2
  go_ret
  exact ⟨rfl, B2.out⟩

set_option maxHeartbeats 2000000 in
set_option maxRecDepth 100000 in
theorem one_over (d : Int) (w : World) (d1 : d < 4294967296) (h : 524288 ≤ d) :
    Calls Try.prog 5 #[.int .u32 d] w fun e w' => e = .returned (.bool true) ∧ Below w.heap.size w w' := by
  have N := Lib.hid (nm_no (d := d) (by omega))
  have D := Lib.hid (dg_no (d := d) (by omega))
  have M := Lib.hid (mk_no (d := d) (by omega))
  go_enter Try.func5, Try.ntmps5
  go_wp2_with fail
  refine (number d (by omega) d1 _).mono ?_
  rintro e w' ⟨rfl, rfl⟩
  rw [N.out.1, N.out.2]
  go_wp2_with fail
  refine (putNumber 0 _).mono ?_
  rintro e w' ⟨rfl, rfl⟩
  go_wp2_with fail
  refine (digits d (by omega) d1 _).mono ?_
  rintro e w' ⟨rfl, rfl⟩
  rw [D.out.1, D.out.2]
  go_wp2_with fail
  refine (putDigits 0 _).mono ?_
  rintro e w' ⟨rfl, rfl⟩
  go_wp2_with fail
  refine (marks d (by omega) d1 _).mono ?_
  rintro e w1 ⟨A1, c1, rfl, b1, p1⟩
  rw [M.out.1] at p1 ⊢
  rw [M.out.2]
  have P1 := Lib.hid p1
  have B1 := Lib.hid b1
  clear b1 p1
  go_wp2_with fail
  refine (putMarks A1 0 c1 (bit d) _ (by unfold maxLen; omega) P1.out).mono ?_
  rintro e w' ⟨rfl, rfl⟩
  rw [(pm_0 (bit d)).1, (pm_0 (bit d)).2]
  go_wp2_with fail
  refine (lives _).mono ?_
  rintro e w2 ⟨rfl, b2⟩
  have B2 := Lib.hid (bthen B1.out b2)
  clear b2
  go_wp2
  go_ret
  exact ⟨rfl, B2.out⟩

theorem oneLaw (d : Int) (w : World) (d0 : 0 ≤ d) (d1 : d < 4294967296) :
    Calls Try.prog 5 #[.int .u32 d] w fun e w' => e = .returned (.bool true) ∧ Below w.heap.size w w' := by
  by_cases h : d < 524288
  · by_cases g : good d
    · exact one_good d w d0 h g
    · exact one_bad d w d0 h g
  · exact one_over d w d1 (by omega)

end Go.Proofs.Ytdonplbpjjjohaa.Field
