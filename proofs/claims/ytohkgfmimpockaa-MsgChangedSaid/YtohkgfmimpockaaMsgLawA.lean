/- The walk of the law MsgBack: it returns true and turns nothing that was there. Conditions: the message's fields are what their types allow, the bytes from 0 to 255. -/
import Derived.Test.YtohkgfmimpockaaMsgLives
namespace Go.Proofs.Ytohkgfmimpockaa.Msg
open Go.ChangeShapes Go.WideShapes Go.ChangeAt Go.RowKit Num By

/-- The law's own message, its bytes, and what is below. -/
structure BackAt (w0 : World) (m : Ms) (A : Option Addr) (n : Nat) (L : Nat → Int) (w : World) : Prop where
  box : Blk w w0.heap.size (mA m) 27
  below : Below w0.heap.size w0 w
  bys : Bys w w.heap.size A n L
theorem back_call {w0 w w1 : World} {m : Ms} {A : Option Addr} {n : Nat} {L : Nat → Int} (h : BackAt w0 m A n L w) (b : Below w.heap.size w w1) : BackAt w0 m A n L w1 := ⟨blk_kept h.box b, bthen h.below b, h.bys.next b⟩
theorem back_lay {w0 w : World} {m : Ms} {A : Option Addr} {n : Nat} {L : Nat → Int} (h : BackAt w0 m A n L w) (o : Obj) : BackAt w0 m A n L (w.alloc o) := back_call h ((Below.refl _ w).alloc (Nat.le_refl _) o)
theorem back_new {w : World} {m : Ms} {A : Option Addr} {n : Nat} {L : Nat → Int} (h : Bys w w.heap.size A n L) : BackAt w m A n L (w.alloc (.cells (mA m) 27)) := by
  have b := (Below.refl w.heap.size w).alloc (Nat.le_refl _) (.cells (mA m) 27)
  exact ⟨blk_alloc w _ _, b, h.next b⟩
theorem own_less {w : World} {base base' g n c : Nat} {L : Nat → Int} (h : OwnAt w base g n c L) (hb : base' ≤ base) : OwnAt w base' g n c L := ⟨Nat.le_trans hb h.base, h.fits, h.bys, h.cur⟩
theorem gE_size {n : Nat} {L : Nat → Int} (h : gE n L = 0) : n = 40 := by
  rcases Nat.lt_or_ge n 40 with g | g
  · rw [gE_short L g] at h; omega
  rcases Nat.lt_or_ge 40 n with k | k
  · rw [gE_long L k] at h; omega
  · omega

set_option maxRecDepth 100000 in
set_option maxHeartbeats 4000000 in
theorem back_false_no (m : Ms) (hw : Wf m) (A : Option Addr) (n c : Nat) (L : Nat → Int) (w : World) (hL : Byte L) (hc : n ≤ c) (hnil : A = none → n = 0 ∧ c = 0) (hP : Bys w w.heap.size A n L) (hm : may m = false) (hE : gE n L ≠ 0) :
    Calls Try.prog 4 #[.agg (mA m), .slice A n c] w fun e w' => e = .returned (.bool true) ∧ Below w.heap.size w w' := by
  have F0 := Lib.hid (back_new (m := m) hP)
  have HM := Lib.hid hm
  have HW := Lib.hid hw
  have HL := Lib.hid hL
  have HC := Lib.hid hc
  have HN := Lib.hid hnil
  have HE := Lib.hid hE
  clear hP hm hw hL hc hnil hE
  go_enter Try.func4, Try.ntmps4
  go_wp2_with ((with_reducible refine load_m rfl (.tmp 2) rfl w.heap.size m F0.out.box ?_ ?_); rfl)
  refine (putNo m HM.out _).mono ?_
  rintro e w1 ⟨rfl, b1⟩
  have F1 := Lib.hid (back_call F0.out b1)
  clear b1 F0
  go_wp2_with ((with_reducible refine load_m rfl (.tmp 2) rfl w.heap.size m F1.out.box ?_ ?_); rfl)
  refine (mayM HM.out _).mono ?_
  rintro e w2 ⟨rfl, b2⟩
  have F2 := Lib.hid (back_call F1.out b2)
  clear b2 F1
  go_wp2_with fail
  refine (getC A n c L _ HC.out HL.out F2.out.bys).mono ?_
  rw [gR_no HE.out]
  rintro e w4 ⟨rfl, b4⟩
  have F4 := Lib.hid (back_lay (back_call F2.out b4) (.cells (mA m0) 27))
  have K4 := Lib.hid (blk_alloc w4 (mA m0) 27)
  have t0 : (gE n L != 0) = true := by simpa using HE.out
  have qe := eq_m m0
  clear b4 F2
  generalize gE n L = E at *
  go_wp2_with (first | ((with_reducible refine load_m rfl (.tmp 9) rfl w4.heap.size m0 K4.out ?_ ?_); rfl))
  refine (lives _).mono ?_
  rintro e w5 ⟨rfl, b5⟩
  have B5 := Lib.hid (bthen F4.out.below b5)
  clear b5
  go_wp2
  go_ret
  exact ⟨rfl, B5.out⟩

set_option maxRecDepth 100000 in
set_option maxHeartbeats 4000000 in
theorem back_false_yes (m : Ms) (hw : Wf m) (A : Option Addr) (n c : Nat) (L : Nat → Int) (w : World) (hL : Byte L) (hc : n ≤ c) (hnil : A = none → n = 0 ∧ c = 0) (hP : Bys w w.heap.size A n L) (hm : may m = false) (hE : gE n L = 0) :
    Calls Try.prog 4 #[.agg (mA m), .slice A n c] w fun e w' => e = .returned (.bool true) ∧ Below w.heap.size w w' := by
  have F0 := Lib.hid (back_new (m := m) hP)
  have HM := Lib.hid hm
  have HW := Lib.hid hw
  have HL := Lib.hid hL
  have HC := Lib.hid hc
  have HN := Lib.hid hnil
  have HE := Lib.hid hE
  clear hP hm hw hL hc hnil hE
  go_enter Try.func4, Try.ntmps4
  go_wp2_with ((with_reducible refine load_m rfl (.tmp 2) rfl w.heap.size m F0.out.box ?_ ?_); rfl)
  refine (putNo m HM.out _).mono ?_
  rintro e w1 ⟨rfl, b1⟩
  have F1 := Lib.hid (back_call F0.out b1)
  clear b1 F0
  go_wp2_with ((with_reducible refine load_m rfl (.tmp 2) rfl w.heap.size m F1.out.box ?_ ?_); rfl)
  refine (mayM HM.out _).mono ?_
  rintro e w2 ⟨rfl, b2⟩
  have F2 := Lib.hid (back_call F1.out b2)
  clear b2 F1
  go_wp2_with fail
  refine (getC A n c L _ HC.out HL.out F2.out.bys).mono ?_
  rw [gR_yes HE.out, HE.out]
  rintro e w4 ⟨rfl, b4⟩
  obtain rfl : n = 40 := gE_size HE.out
  have HG : Hid (may (gm L) = true) := (gE_yes.1 HE.out).2.2.2
  have HP := Lib.hid (got_put HL.out HE.out)
  have HF := Lib.hid (gm_wf HL.out)
  have F4 := Lib.hid (back_lay (back_call F2.out b4) (.cells (mA (gm L)) 27))
  have K4 := Lib.hid (blk_alloc w4 (mA (gm L)) 27)
  clear b4 F2
  generalize gm L = G at *
  go_wp2_with (first | ((with_reducible refine load_m rfl (.tmp 9) rfl w4.heap.size G K4.out ?_ ?_); rfl))
  refine (putYes G HF.out HG.out _).mono ?_
  rintro e w5 ⟨v5, rfl, o5, b5⟩
  obtain ⟨g5, c5, rfl, O5⟩ := own_at o5 (by omega)
  have F5 := Lib.hid (back_call F4.out b5)
  have K5 := Lib.hid (blk_kept K4.out b5)
  have P5 := Lib.hid (O5.bys.as HP.out)
  clear o5 b5 O5 F4 K4
  go_wp2_with fail
  refine (sameC (some ⟨g5, 0, none⟩) A 40 c5 c L _ P5.out (by simp) F5.out.bys HN.out).mono ?_
  rintro e w' ⟨rfl, rfl⟩
  go_wp2_with (first | ((with_reducible refine load_mg (.tmp 9) rfl w4.heap.size G K5.out ?_ ?_ ?_); (simp [Region.wanted, yielded]); rfl))
  refine (mayM HG.out _).mono ?_
  rintro e w6 ⟨rfl, b6⟩
  have F6 := Lib.hid (back_call F5.out b6)
  clear b6 F5 K5 P5
  go_wp2_with fail
  refine (lives _).mono ?_
  rintro e w7 ⟨rfl, b7⟩
  have B7 := Lib.hid (bthen F6.out.below b7)
  clear b7
  go_wp2
  go_ret
  exact ⟨rfl, B7.out⟩

set_option maxRecDepth 100000 in
set_option maxHeartbeats 4000000 in
theorem back_true_no (m : Ms) (hw : Wf m) (A : Option Addr) (n c : Nat) (L : Nat → Int) (w : World) (hL : Byte L) (hc : n ≤ c) (hnil : A = none → n = 0 ∧ c = 0) (hP : Bys w w.heap.size A n L) (hm : may m = true) (hE : gE n L ≠ 0) :
    Calls Try.prog 4 #[.agg (mA m), .slice A n c] w fun e w' => e = .returned (.bool true) ∧ Below w.heap.size w w' := by
  have F0 := Lib.hid (back_new (m := m) hP)
  have HM := Lib.hid hm
  have HW := Lib.hid hw
  have HL := Lib.hid hL
  have HC := Lib.hid hc
  have HN := Lib.hid hnil
  have HE := Lib.hid hE
  clear hP hm hw hL hc hnil hE
  go_enter Try.func4, Try.ntmps4
  go_wp2_with ((with_reducible refine load_m rfl (.tmp 2) rfl w.heap.size m F0.out.box ?_ ?_); rfl)
  refine (putYes m HW.out HM.out _).mono ?_
  rintro e w1 ⟨v1, rfl, o1, b1⟩
  obtain ⟨g, cx, rfl, O⟩ := own_at o1 (by omega)
  have F1 := Lib.hid (back_call F0.out b1)
  have HO := Lib.hid O
  clear b1 F0 o1 O
  go_wp2_with ((with_reducible refine load_m rfl (.tmp 2) rfl w.heap.size m F1.out.box ?_ ?_); rfl)
  refine (mayM HM.out _).mono ?_
  rintro e w2 ⟨rfl, b2⟩
  have F3 := Lib.hid (back_call F1.out b2)
  have HR := Lib.hid (show RowAt w g cx (full m) w2 from ⟨own_less (HO.out.kept b2) (by simp), F3.out.below⟩)
  clear b2 F1 HO
  go_wp2_with fail
  refine (getFull HR.out HW.out HM.out).mono ?_
  rintro e w3 ⟨rfl, b3⟩
  have F2 := Lib.hid (back_lay (back_call F3.out b3) (.cells (mA m) 27))
  have KX := Lib.hid (blk_alloc w3 (mA m) 27)
  have qn := ne_m m
  clear b3 F3 HR
  go_wp2_with (first | ((with_reducible refine load_mg (.tmp 7) rfl w3.heap.size m KX.out ?_ ?_ ?_); (simp [Region.wanted, yielded]); rfl) | ((with_reducible refine load_mg (.tmp 2) rfl w.heap.size m F2.out.box ?_ ?_ ?_); (simp [Region.wanted, yielded]); rfl))
  clear qn KX
  refine (getC A n c L _ HC.out HL.out F2.out.bys).mono ?_
  rw [gR_no HE.out]
  rintro e w4 ⟨rfl, b4⟩
  have F4 := Lib.hid (back_lay (back_call F2.out b4) (.cells (mA m0) 27))
  have K4 := Lib.hid (blk_alloc w4 (mA m0) 27)
  have t0 : (gE n L != 0) = true := by simpa using HE.out
  have qe := eq_m m0
  clear b4 F2
  generalize gE n L = E at *
  go_wp2_with (first | ((with_reducible refine load_m rfl (.tmp 9) rfl w4.heap.size m0 K4.out ?_ ?_); rfl))
  refine (lives _).mono ?_
  rintro e w5 ⟨rfl, b5⟩
  have B5 := Lib.hid (bthen F4.out.below b5)
  clear b5
  go_wp2
  go_ret
  exact ⟨rfl, B5.out⟩

set_option maxRecDepth 100000 in
set_option maxHeartbeats 4000000 in
theorem back_true_yes (m : Ms) (hw : Wf m) (A : Option Addr) (n c : Nat) (L : Nat → Int) (w : World) (hL : Byte L) (hc : n ≤ c) (hnil : A = none → n = 0 ∧ c = 0) (hP : Bys w w.heap.size A n L) (hm : may m = true) (hE : gE n L = 0) :
    Calls Try.prog 4 #[.agg (mA m), .slice A n c] w fun e w' => e = .returned (.bool true) ∧ Below w.heap.size w w' := by
  have F0 := Lib.hid (back_new (m := m) hP)
  have HM := Lib.hid hm
  have HW := Lib.hid hw
  have HL := Lib.hid hL
  have HC := Lib.hid hc
  have HN := Lib.hid hnil
  have HE := Lib.hid hE
  clear hP hm hw hL hc hnil hE
  go_enter Try.func4, Try.ntmps4
  go_wp2_with ((with_reducible refine load_m rfl (.tmp 2) rfl w.heap.size m F0.out.box ?_ ?_); rfl)
  refine (putYes m HW.out HM.out _).mono ?_
  rintro e w1 ⟨v1, rfl, o1, b1⟩
  obtain ⟨g, cx, rfl, O⟩ := own_at o1 (by omega)
  have F1 := Lib.hid (back_call F0.out b1)
  have HO := Lib.hid O
  clear b1 F0 o1 O
  go_wp2_with ((with_reducible refine load_m rfl (.tmp 2) rfl w.heap.size m F1.out.box ?_ ?_); rfl)
  refine (mayM HM.out _).mono ?_
  rintro e w2 ⟨rfl, b2⟩
  have F3 := Lib.hid (back_call F1.out b2)
  have HR := Lib.hid (show RowAt w g cx (full m) w2 from ⟨own_less (HO.out.kept b2) (by simp), F3.out.below⟩)
  clear b2 F1 HO
  go_wp2_with fail
  refine (getFull HR.out HW.out HM.out).mono ?_
  rintro e w3 ⟨rfl, b3⟩
  have F2 := Lib.hid (back_lay (back_call F3.out b3) (.cells (mA m) 27))
  have KX := Lib.hid (blk_alloc w3 (mA m) 27)
  have qn := ne_m m
  clear b3 F3 HR
  go_wp2_with (first | ((with_reducible refine load_mg (.tmp 7) rfl w3.heap.size m KX.out ?_ ?_ ?_); (simp [Region.wanted, yielded]); rfl) | ((with_reducible refine load_mg (.tmp 2) rfl w.heap.size m F2.out.box ?_ ?_ ?_); (simp [Region.wanted, yielded]); rfl))
  clear qn KX
  refine (getC A n c L _ HC.out HL.out F2.out.bys).mono ?_
  rw [gR_yes HE.out, HE.out]
  rintro e w4 ⟨rfl, b4⟩
  obtain rfl : n = 40 := gE_size HE.out
  have HG : Hid (may (gm L) = true) := (gE_yes.1 HE.out).2.2.2
  have HP := Lib.hid (got_put HL.out HE.out)
  have HF := Lib.hid (gm_wf HL.out)
  have F4 := Lib.hid (back_lay (back_call F2.out b4) (.cells (mA (gm L)) 27))
  have K4 := Lib.hid (blk_alloc w4 (mA (gm L)) 27)
  clear b4 F2
  generalize gm L = G at *
  go_wp2_with (first | ((with_reducible refine load_m rfl (.tmp 9) rfl w4.heap.size G K4.out ?_ ?_); rfl))
  refine (putYes G HF.out HG.out _).mono ?_
  rintro e w5 ⟨v5, rfl, o5, b5⟩
  obtain ⟨g5, c5, rfl, O5⟩ := own_at o5 (by omega)
  have F5 := Lib.hid (back_call F4.out b5)
  have K5 := Lib.hid (blk_kept K4.out b5)
  have P5 := Lib.hid (O5.bys.as HP.out)
  clear o5 b5 O5 F4 K4
  go_wp2_with fail
  refine (sameC (some ⟨g5, 0, none⟩) A 40 c5 c L _ P5.out (by simp) F5.out.bys HN.out).mono ?_
  rintro e w' ⟨rfl, rfl⟩
  go_wp2_with (first | ((with_reducible refine load_mg (.tmp 9) rfl w4.heap.size G K5.out ?_ ?_ ?_); (simp [Region.wanted, yielded]); rfl))
  refine (mayM HG.out _).mono ?_
  rintro e w6 ⟨rfl, b6⟩
  have F6 := Lib.hid (back_call F5.out b6)
  clear b6 F5 K5 P5
  go_wp2_with fail
  refine (lives _).mono ?_
  rintro e w7 ⟨rfl, b7⟩
  have B7 := Lib.hid (bthen F6.out.below b7)
  clear b7
  go_wp2
  go_ret
  exact ⟨rfl, B7.out⟩

theorem backLaw (m : Ms) (A : Option Addr) (n c : Nat) (L : Nat → Int) (w : World) (hw : Wf m) (hL : Byte L) (hc : n ≤ c) (hnil : A = none → n = 0 ∧ c = 0) (hP : Bys w w.heap.size A n L) :
    Calls Try.prog 4 #[.agg (mA m), .slice A n c] w fun e w' => e = .returned (.bool true) ∧ Below w.heap.size w w' := by
  cases hm : may m
  · by_cases hE : gE n L = 0
    · exact back_false_yes m hw A n c L w hL hc hnil hP hm hE
    · exact back_false_no m hw A n c L w hL hc hnil hP hm hE
  · by_cases hE : gE n L = 0
    · exact back_true_yes m hw A n c L w hL hc hnil hP hm hE
    · exact back_true_no m hw A n c L w hL hc hnil hP hm hE

end Go.Proofs.Ytohkgfmimpockaa.Msg
