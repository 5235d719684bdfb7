/- The walks of the laws TableRises and TableBetween: they return true and turn nothing that was there. -/
import Derived.Test.YtpgknkpdceaogaaTabGains
import Derived.StillTailTactics
namespace Go.Proofs.Ytpgknkpdceaogaa.Num
open Go.ChangeShapes Go.WideShapes Go.ChangeAt Go.RowKit

/-- The gain of a height. -/
def G (z : Int) : Int := if z ≤ 0 then 4 else if z ≤ 1524 then 4 + (4 * z) / 1524 else if z ≤ 6096 then 8 + (4 * (z - 1524)) / 4572 else if z ≤ 30000 then 12 + (4 * (z - 6096)) / 23904 else 16
theorem G_lo (z : Int) : 4 ≤ G z := by unfold G; repeat' split <;> omega
theorem G_hi (z : Int) : G z ≤ 16 := by unfold G; repeat' split <;> omega
theorem G_mono {y z : Int} (h : y ≤ z) : G y ≤ G z := by
  unfold G
  by_cases a1 : y ≤ 0
  · rw [if_pos a1]; repeat' split <;> omega
  rw [if_neg a1]
  by_cases a2 : y ≤ 1524
  · rw [if_pos a2, if_neg (show ¬ z ≤ 0 by omega)]; repeat' split <;> omega
  rw [if_neg a2]
  by_cases a3 : y ≤ 6096
  · rw [if_pos a3, if_neg (show ¬ z ≤ 0 by omega), if_neg (show ¬ z ≤ 1524 by omega)]; repeat' split <;> omega
  rw [if_neg a3]
  by_cases a4 : y ≤ 30000
  · rw [if_pos a4, if_neg (show ¬ z ≤ 0 by omega), if_neg (show ¬ z ≤ 1524 by omega), if_neg (show ¬ z ≤ 6096 by omega)]; repeat' split <;> omega
  rw [if_neg a4, if_neg (show ¬ z ≤ 0 by omega), if_neg (show ¬ z ≤ 1524 by omega), if_neg (show ¬ z ≤ 6096 by omega), if_neg (show ¬ z ≤ 30000 by omega)]
  omega

theorem btw_up (x0 y0 x1 x d : Int) (hx : x0 ≤ x) (h1 : x - x0 ≤ 1000000) (hd : x1 - x0 = d) : btwN x0 y0 x1 (y0 + 4) x = y0 + (4 * (x - x0)) / d ∧ btwE x0 y0 (y0 + 4) x = 0 := by
  have e : y0 + 4 - y0 = 4 := by omega
  unfold btwN btwE
  rw [e, if_pos (by omega), mulE_in (by omega) (by omega), Int.tdiv_eq_ediv_of_nonneg (by omega), hd]
  exact ⟨rfl, rfl⟩

theorem g_at (z : Int) : ∃ p, Pos 4 GX z p ∧ atN 4 GX GY z p = G z ∧ atE 4 GX GY z p = 0 := by
  unfold G
  by_cases a1 : z ≤ 0
  · exact ⟨0, gpos (by omega) ⟨.inl rfl, .inr a1⟩, by rw [if_pos a1]; rfl, rfl⟩
  rw [if_neg a1]
  by_cases a2 : z ≤ 1524
  · refine ⟨1, gpos (by omega) ⟨.inr (by show (0 : Int) < z; omega), .inr a2⟩, ?_⟩
    rw [if_pos a2]
    by_cases e : z = 1524
    · subst e; exact ⟨by decide, by decide⟩
    · have h := at_between 4 GX GY z 1 (by omega) (by omega) (fun q => e q.symm)
      have b := btw_up 0 4 1524 z 1524 (by omega) (by omega) (by omega)
      rw [h.1, h.2]
      refine ⟨?_, b.2⟩
      have := b.1
      rw [Int.sub_zero] at this
      exact this
  rw [if_neg a2]
  by_cases a3 : z ≤ 6096
  · refine ⟨2, gpos (by omega) ⟨.inr (by show (1524 : Int) < z; omega), .inr a3⟩, ?_⟩
    rw [if_pos a3]
    by_cases e : z = 6096
    · subst e; exact ⟨by decide, by decide⟩
    · have h := at_between 4 GX GY z 2 (by omega) (by omega) (fun q => e q.symm)
      have b := btw_up 1524 8 6096 z 4572 (by omega) (by omega) (by omega)
      rw [h.1, h.2]
      exact b
  rw [if_neg a3]
  by_cases a4 : z ≤ 30000
  · refine ⟨3, gpos (by omega) ⟨.inr (by show (6096 : Int) < z; omega), .inr a4⟩, ?_⟩
    rw [if_pos a4]
    by_cases e : z = 30000
    · subst e; exact ⟨by decide, by decide⟩
    · have h := at_between 4 GX GY z 3 (by omega) (by omega) (fun q => e q.symm)
      have b := btw_up 6096 12 30000 z 23904 (by omega) (by omega) (by omega)
      rw [h.1, h.2]
      exact b
  rw [if_neg a4]
  exact ⟨4, gpos (by omega) ⟨.inr (by show (30000 : Int) < z; omega), .inl rfl⟩, rfl, rfl⟩

theorem gat (A : Option Addr) (c : Nat) (z : Int) (w : World) (hP : Pts w w.heap.size A 4 GX GY) :
    Calls Try.prog 7 #[.slice A 4 c, .int .i64 z] w fun e w' => e = .returned (.tuple #[.int .i64 (G z), .int .i64 0]) ∧ Below w.heap.size w w' := by
  obtain ⟨p, hp, h1, h2⟩ := g_at z
  have := at_true A 4 c GX GY z p w hP gmay hp
  rw [h1, h2] at this
  exact this

set_option maxHeartbeats 1000000 in
theorem risesLaw (x y : Int) (w : World) :
    Calls Try.prog 5 #[.int .i64 x, .int .i64 y] w fun e w' => e = .returned (.bool true) ∧ Below w.heap.size w w' := by
  have hmm : gmin x y ≤ gmax x y := by
    have h1 := gmin_cases x y
    have h2 := gmax_cases x y
    omega
  have HL := Lib.hid (G_lo (gmin x y))
  have HM := Lib.hid (G_mono hmm)
  have HH := Lib.hid (G_hi (gmax x y))
  clear hmm
  go_enter Try.func5, Try.ntmps5
  go_wp2_with fail
  refine (gains _).mono ?_
  rintro e w1 ⟨rfl, b1, p1, _⟩
  have P1 := Lib.hid p1
  have B1 := Lib.hid b1
  clear b1 p1
  go_wp2_with fail
  refine (gat _ 4 (gmin x y) _ P1.out).mono ?_
  rintro e w2 ⟨rfl, b2⟩
  have B2 := Lib.hid (bthen B1.out b2)
  clear b2
  go_wp2_with fail
  refine (gains _).mono ?_
  rintro e w3 ⟨rfl, b3, p3, _⟩
  have P3 := Lib.hid p3
  have B3 := Lib.hid (bthen B2.out b3)
  clear b3 p3
  go_wp2_with fail
  refine (gat _ 4 (gmax x y) _ P3.out).mono ?_
  rintro e w4 ⟨rfl, b4⟩
  have B4 := Lib.hid (bthen B3.out b4)
  clear b4
  have hl := HL.out
  have hm := HM.out
  have hh := HH.out
  generalize G (gmin x y) = a at *
  generalize G (gmax x y) = b at *
  go_wp2_with fail
  refine (lives _).mono ?_
  rintro e w5 ⟨rfl, b5⟩
  have B5 := Lib.hid (bthen B4.out b5)
  clear b5
  go_wp2
  go_ret
  exact ⟨rfl, B5.out⟩

end Go.Proofs.Ytpgknkpdceaogaa.Num
