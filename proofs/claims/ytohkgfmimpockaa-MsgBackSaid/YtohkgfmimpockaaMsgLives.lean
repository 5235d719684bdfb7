/- The walk of the law's 'lives': the messages that the document tells of. Conditions: none. -/
import Derived.Test.YtohkgfmimpockaaMsgAll
namespace Go.Proofs.Ytohkgfmimpockaa.Msg
open Go.ChangeShapes Go.WideShapes Go.ChangeAt Go.RowKit Num By

theorem wf0 : Wf m0 := ⟨⟨by decide, by decide⟩, ⟨by decide, by decide⟩, ⟨by decide, by decide⟩, ⟨by decide, by decide⟩, ⟨by decide, by decide⟩, ⟨by decide, by decide⟩, ⟨by decide, by decide⟩, ⟨by decide, by decide⟩, ⟨by decide, by decide⟩, ⟨by decide, by decide⟩⟩
theorem may0 : may m0 = true := by decide
abbrev m3 : Ms := ⟨3, 0, 0, 0, 0, 0, 0, false, 0, 0, 0⟩
theorem may3 : may m3 = false := by decide
theorem full0_0 : full m0 0 = 165 := rfl
theorem full0_36 : full m0 36 = 165 := by decide +kernel
theorem live_e : gE 40 (upd (full m0) 39 1) = 11 := by decide +kernel

/-- A row of forty bytes of the law's own, and what is below. -/
structure RowAt (w0 : World) (g c : Nat) (L : Nat → Int) (w : World) : Prop where
  own : OwnAt w w0.heap.size g 40 c L
  below : Below w0.heap.size w0 w
theorem row_call {w0 w w1 : World} {g c : Nat} {L : Nat → Int} (h : RowAt w0 g c L w) (b : Below w.heap.size w w1) : RowAt w0 g c L w1 := ⟨h.own.kept b, bthen h.below b⟩
theorem row_lay {w0 w : World} {g c : Nat} {L : Nat → Int} (h : RowAt w0 g c L w) (o : Obj) : RowAt w0 g c L (w.alloc o) := row_call h ((Below.refl _ w).alloc (Nat.le_refl _) o)
theorem row_set {w0 w : World} {g c : Nat} {L : Nat → Int} (h : RowAt w0 g c L w) (k : Nat) (hk : k < 40) (x : Int) : RowAt w0 g c (upd L k x) (w.setCell ⟨g, k, none⟩ (.int .u8 x)) := ⟨h.own.set k hk x, below_set1 h.below h.own.base k _⟩
theorem row_drew {w0 w : World} {g c : Nat} {L : Nat → Int} (h : RowAt w0 g c L w) : RowAt w0 g c L w.drew := ⟨h.own.drew, below_drewN h.below 1⟩

/-- Get of a row. -/
theorem getRow {w0 w : World} {g c : Nat} {L : Nat → Int} (h : RowAt w0 g c L w) (hL : Byte L) :
    Calls Try.prog 9 #[.slice (some ⟨g, 0, none⟩) 40 c] w fun e w' => e = .returned (.tuple #[.agg (mA (gR 40 L)), .int .i64 (gE 40 L)]) ∧ Below w.heap.size w w' :=
  getC (some ⟨g, 0, none⟩) 40 c L w h.own.fits hL h.own.bys
theorem getFull {w0 w : World} {g c : Nat} {m : Ms} (h : RowAt w0 g c (full m) w) (hm : Wf m) (hq : may m = true) :
    Calls Try.prog 9 #[.slice (some ⟨g, 0, none⟩) 40 c] w fun e w' => e = .returned (.tuple #[.agg (mA m), .int .i64 0]) ∧ Below w.heap.size w w' := by
  have k := getRow h (full_byte hm)
  rwa [gR_yes (put_got hm hq), put_got hm hq, gm_full hm] at k

set_option maxRecDepth 100000 in
set_option maxHeartbeats 4000000 in
theorem lives (w : World) :
    Calls Try.prog 17 #[] w fun e w' => e = .returned (.bool true) ∧ Below w.heap.size w w' := by
  go_enter Try.func17, Try.ntmps17
  go_wp2_with fail
  refine (putYes m0 wf0 may0 _).mono ?_
  rintro e w1 ⟨v1, rfl, o1, b1⟩
  obtain ⟨g, c, rfl, O⟩ := own_at o1 (by omega)
  have R1 := Lib.hid (show RowAt w g c (full m0) w1 from ⟨O, b1⟩)
  have c0 := O.cell 0 (by omega)
  have c36 := O.cell 36 (by omega)
  rw [full0_0] at c0
  rw [full0_36] at c36
  have n39 : (40 : Int) ≤ (c : Int) := by have := O.fits; omega
  clear o1 b1 O
  go_wp2_with fail
  refine (putNo m3 may3 _).mono ?_
  rintro e w2 ⟨rfl, b2⟩
  have R2 := Lib.hid (row_call R1.out b2)
  clear b2 R1 c0 c36
  go_wp2_with fail
  refine (getShort _ 39 c _ (by omega)).mono ?_
  rintro e w3 ⟨rfl, b3⟩
  have R3 := Lib.hid (row_lay (row_call R2.out b3) (.cells (mA m0) 27))
  clear b3 R2
  go_wp2_with fail
  refine (getFull R3.out wf0 may0).mono ?_
  rintro e w4 ⟨rfl, b4⟩
  have R4 := Lib.hid (row_lay (row_call R3.out b4) (.cells (mA m0) 27))
  have K4 := Lib.hid (blk_alloc w4 (mA m0) 27)
  have ne : Hid (w4.heap.size ≠ g) := by
    have := (row_call R3.out b4).own.lt
    show w4.heap.size ≠ g
    omega
  have c39 := R4.out.own.cell 39 (by omega)
  have f39 := R4.out.own.free 39
  have R5 := Lib.hid (row_set R4.out 39 (by omega) 1)
  have K5 := Lib.hid (blk_far K4.out 39 (.int .u8 1) ne.out)
  clear b4 R3 R4 K4
  go_wp2_with fail
  refine (getRow R5.out (upd_byte (full_byte wf0) (by decide))).mono ?_
  rw [live_e, gR_no (by rw [live_e]; decide)]
  rintro e w6 ⟨rfl, b6⟩
  have R6 := Lib.hid (row_lay (row_call R5.out b6) (.cells (mA m0) 27))
  have K6 := Lib.hid (blk_kept (blk_kept K5.out b6) ((Below.refl _ w6).alloc (Nat.le_refl _) (.cells (mA m0) 27)))
  clear b6 R5 K5 c39 f39
  have qe := eq_m m0
  go_wp2_with (first | ((with_reducible refine load_mg (.tmp 7) rfl w4.heap.size m0 K6.out ?_ ?_ ?_); (simp [Region.wanted, yielded]); rfl))
  go_ret
  exact ⟨rfl, R6.out.below⟩

end Go.Proofs.Ytohkgfmimpockaa.Msg
