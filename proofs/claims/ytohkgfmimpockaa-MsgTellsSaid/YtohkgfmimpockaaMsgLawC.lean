/- The walk of the law MsgTells: it returns true and turns nothing that was there. Conditions: the message's fields are what their types allow, the bytes from 0 to 255. -/
import Derived.Test.YtohkgfmimpockaaMsgLawA
import Derived.Deep.RegionHeld3
namespace Go.Proofs.Ytohkgfmimpockaa.Msg
open Go.ChangeShapes Go.WideShapes Go.ChangeAt Go.RowKit Num By

theorem cells_m {w : World} {g : Nat} {m : Ms} (h : Blk w g (mA m) 27) : w.cell? ⟨g, 0, none⟩ = some (.int .u8 m.lane) ∧ w.cell? ⟨g, 1, none⟩ = some (.int .u32 m.frame) ∧ w.cell? ⟨g, 2, none⟩ = some (.int .u8 m.h0) ∧ w.cell? ⟨g, 3, none⟩ = some (.int .u8 m.h1) ∧ w.cell? ⟨g, 4, none⟩ = some (.int .u8 m.h2) ∧ w.cell? ⟨g, 5, none⟩ = some (.int .u8 m.mode) ∧ w.cell? ⟨g, 6, none⟩ = some (.int .u8 m.level) ∧ w.cell? ⟨g, 7, none⟩ = some (.bool m.eng) ∧ w.cell? ⟨g, 8, none⟩ = some (.int .i64 m.side) ∧ w.cell? ⟨g, 9, none⟩ = some (.int .i64 m.sink) ∧ w.cell? ⟨g, 10, none⟩ = some (.int .i64 m.turn) :=
  ⟨blk_cell h (o := 0) rfl, blk_cell h (o := 1) rfl, blk_cell h (o := 2) rfl, blk_cell h (o := 3) rfl, blk_cell h (o := 4) rfl, blk_cell h (o := 5) rfl, blk_cell h (o := 6) rfl, blk_cell h (o := 7) rfl, blk_cell h (o := 8) rfl, blk_cell h (o := 9) rfl, blk_cell h (o := 10) rfl⟩

/-- What the law's last region needs: three messages, the bytes handed in and what was made of them, the bytes of the message twice. -/
structure TellsAt (w0 : World) (m M : Ms) (gp gq gw d base : Nat) (A X Y : Option Addr) (n nx : Nat) (L F : Nat → Int) (w : World) : Prop where
  box : Blk w w0.heap.size (mA m) 27
  bp : Blk w gp (mA M) 27
  bq : Blk w gq (mA M) 27
  wide : OwnAt w base gw (n + 3) d (catL n L nine)
  bys : Bys w w.heap.size A n L
  bx : Bys w w.heap.size X nx F
  by' : Bys w w.heap.size Y nx F
  below : Below w0.heap.size w0 w
theorem s_of {w0 w' : World} {m M : Ms} {gp gq gw d base : Nat} {A X Y : Option Addr} {n nx : Nat} {L F : Nat → Int} (h : TellsAt w0 m M gp gq gw d base A X Y n nx L F w') :
    w'.cell? ⟨w0.heap.size, 0, none⟩ = some (.int .u8 m.lane) ∧ w'.cell? ⟨w0.heap.size, 1, none⟩ = some (.int .u32 m.frame) ∧ w'.cell? ⟨w0.heap.size, 2, none⟩ = some (.int .u8 m.h0) ∧ w'.cell? ⟨w0.heap.size, 3, none⟩ = some (.int .u8 m.h1) ∧ w'.cell? ⟨w0.heap.size, 4, none⟩ = some (.int .u8 m.h2) ∧ w'.cell? ⟨w0.heap.size, 5, none⟩ = some (.int .u8 m.mode) ∧ w'.cell? ⟨w0.heap.size, 6, none⟩ = some (.int .u8 m.level) ∧ w'.cell? ⟨w0.heap.size, 7, none⟩ = some (.bool m.eng) ∧ w'.cell? ⟨w0.heap.size, 8, none⟩ = some (.int .i64 m.side) ∧ w'.cell? ⟨w0.heap.size, 9, none⟩ = some (.int .i64 m.sink) ∧ w'.cell? ⟨w0.heap.size, 10, none⟩ = some (.int .i64 m.turn) ∧ w'.cell? ⟨gp, 0, none⟩ = some (.int .u8 M.lane) ∧ w'.cell? ⟨gp, 1, none⟩ = some (.int .u32 M.frame) ∧ w'.cell? ⟨gp, 2, none⟩ = some (.int .u8 M.h0) ∧ w'.cell? ⟨gp, 3, none⟩ = some (.int .u8 M.h1) ∧ w'.cell? ⟨gp, 4, none⟩ = some (.int .u8 M.h2) ∧ w'.cell? ⟨gp, 5, none⟩ = some (.int .u8 M.mode) ∧ w'.cell? ⟨gp, 6, none⟩ = some (.int .u8 M.level) ∧ w'.cell? ⟨gp, 7, none⟩ = some (.bool M.eng) ∧ w'.cell? ⟨gp, 8, none⟩ = some (.int .i64 M.side) ∧ w'.cell? ⟨gp, 9, none⟩ = some (.int .i64 M.sink) ∧ w'.cell? ⟨gp, 10, none⟩ = some (.int .i64 M.turn) ∧ w'.cell? ⟨gq, 0, none⟩ = some (.int .u8 M.lane) ∧ w'.cell? ⟨gq, 1, none⟩ = some (.int .u32 M.frame) ∧ w'.cell? ⟨gq, 2, none⟩ = some (.int .u8 M.h0) ∧ w'.cell? ⟨gq, 3, none⟩ = some (.int .u8 M.h1) ∧ w'.cell? ⟨gq, 4, none⟩ = some (.int .u8 M.h2) ∧ w'.cell? ⟨gq, 5, none⟩ = some (.int .u8 M.mode) ∧ w'.cell? ⟨gq, 6, none⟩ = some (.int .u8 M.level) ∧ w'.cell? ⟨gq, 7, none⟩ = some (.bool M.eng) ∧ w'.cell? ⟨gq, 8, none⟩ = some (.int .i64 M.side) ∧ w'.cell? ⟨gq, 9, none⟩ = some (.int .i64 M.sink) ∧ w'.cell? ⟨gq, 10, none⟩ = some (.int .i64 M.turn) :=
  ⟨blk_cell h.box (o := 0) rfl, blk_cell h.box (o := 1) rfl, blk_cell h.box (o := 2) rfl, blk_cell h.box (o := 3) rfl, blk_cell h.box (o := 4) rfl, blk_cell h.box (o := 5) rfl, blk_cell h.box (o := 6) rfl, blk_cell h.box (o := 7) rfl, blk_cell h.box (o := 8) rfl, blk_cell h.box (o := 9) rfl, blk_cell h.box (o := 10) rfl, blk_cell h.bp (o := 0) rfl, blk_cell h.bp (o := 1) rfl, blk_cell h.bp (o := 2) rfl, blk_cell h.bp (o := 3) rfl, blk_cell h.bp (o := 4) rfl, blk_cell h.bp (o := 5) rfl, blk_cell h.bp (o := 6) rfl, blk_cell h.bp (o := 7) rfl, blk_cell h.bp (o := 8) rfl, blk_cell h.bp (o := 9) rfl, blk_cell h.bp (o := 10) rfl, blk_cell h.bq (o := 0) rfl, blk_cell h.bq (o := 1) rfl, blk_cell h.bq (o := 2) rfl, blk_cell h.bq (o := 3) rfl, blk_cell h.bq (o := 4) rfl, blk_cell h.bq (o := 5) rfl, blk_cell h.bq (o := 6) rfl, blk_cell h.bq (o := 7) rfl, blk_cell h.bq (o := 8) rfl, blk_cell h.bq (o := 9) rfl, blk_cell h.bq (o := 10) rfl⟩
theorem ta_call {w0 w v : World} {m M : Ms} {gp gq gw d base : Nat} {A X Y : Option Addr} {n nx : Nat} {L F : Nat → Int} (h : TellsAt w0 m M gp gq gw d base A X Y n nx L F w) (b : Below w.heap.size w v) : TellsAt w0 m M gp gq gw d base A X Y n nx L F v :=
  ⟨blk_kept h.box b, blk_kept h.bp b, blk_kept h.bq b, h.wide.kept b, h.bys.next b, h.bx.next b, h.by'.next b, bthen h.below b⟩
theorem ta_drew {w0 w : World} {m M : Ms} {gp gq gw d base : Nat} {A X Y : Option Addr} {n nx : Nat} {L F : Nat → Int} (h : TellsAt w0 m M gp gq gw d base A X Y n nx L F w) : TellsAt w0 m M gp gq gw d base A X Y n nx L F w.drew :=
  ⟨h.box, h.bp, h.bq, h.wide.drew, h.bys, h.bx, h.by', below_drewN h.below 1⟩
theorem wide_bys {w : World} {base g n d : Nat} {L : Nat → Int} (h : OwnAt w base g (n + 3) d (catL n L nine)) : Bys w w.heap.size (some ⟨g, 0, none⟩) n L := (h.bys.fewer (by omega)).as fun i hi => catL_lo hi
theorem wide_fits {w : World} {base g n d : Nat} {L : Nat → Int} (h : OwnAt w base g (n + 3) d (catL n L nine)) : n ≤ d := by have := h.fits; omega
/-- The same while x and y are being laid. -/
structure TellsA (w0 : World) (m : Ms) (gw d base : Nat) (A : Option Addr) (n : Nat) (L : Nat → Int) (w : World) : Prop where
  box : Blk w w0.heap.size (mA m) 27
  wide : OwnAt w base gw (n + 3) d (catL n L nine)
  bys : Bys w w.heap.size A n L
  below : Below w0.heap.size w0 w
theorem tb_call {w0 w v : World} {m : Ms} {gw d base : Nat} {A : Option Addr} {n : Nat} {L : Nat → Int} (h : TellsA w0 m gw d base A n L w) (b : Below w.heap.size w v) : TellsA w0 m gw d base A n L v :=
  ⟨blk_kept h.box b, h.wide.kept b, h.bys.next b, bthen h.below b⟩

set_option maxRecDepth 100000 in
set_option maxHeartbeats 8000000 in
theorem tells_false (m : Ms) (hw : Wf m) (A : Option Addr) (n c : Nat) (L : Nat → Int) (w : World) (hL : Byte L) (hc : n ≤ c) (hn : n ≤ 140737488351232) (hnil : A = none → n = 0 ∧ c = 0) (hP : Bys w w.heap.size A n L) (hm : may m = false) :
    Calls Try.prog 3 #[.agg (mA m), .slice A n c] w fun e w' => e = .returned (.bool true) ∧ Below w.heap.size w w' := by
  have F0 := Lib.hid (back_new (m := m) hP)
  have HM := Lib.hid hm
  have HW := Lib.hid hw
  have HL := Lib.hid hL
  have HC := Lib.hid hc
  have HB := Lib.hid hn
  have HN := Lib.hid hnil
  clear hP hm hw hL hc hn hnil
  go_enter Try.func3, Try.ntmps3
  go_wp2_with fail
  refine (wideC A n c L _ F0.out.bys HN.out HB.out).mono ?_
  rintro e w1 ⟨gw, d, rfl, o1, b1⟩
  have F1 := Lib.hid (show TellsA w m gw d _ A n L w1 from ⟨blk_kept F0.out.box b1, o1, F0.out.bys.next b1, bthen F0.out.below b1⟩)
  clear o1 b1 F0
  generalize (w.alloc _).heap.size = base at *
  go_wp2_with ((with_reducible refine load_m rfl (.tmp 2) rfl w.heap.size m F1.out.box ?_ ?_); rfl)
  refine (putNo m HM.out _).mono ?_
  rintro e w2 ⟨rfl, b2⟩
  have F2 := Lib.hid (tb_call F1.out b2)
  clear b2 F1
  go_wp2_with ((with_reducible refine load_m rfl (.tmp 2) rfl w.heap.size m F2.out.box ?_ ?_); rfl)
  refine (rPutNo m HM.out _).mono ?_
  rintro e w3 ⟨rfl, b3⟩
  have F3 := Lib.hid (tb_call F2.out b3)
  have X3 : Hid (Bys w3 w3.heap.size none 0 (full m)) := fun h => by omega
  have Y3 : Hid (Bys w3 w3.heap.size none 0 (full m)) := fun h => by omega
  clear b3 F2
  go_wp2_with fail
  refine (getC (some ⟨gw, 0, none⟩) n d L _ (wide_fits F3.out.wide) HL.out (wide_bys F3.out.wide)).mono ?_
  rintro e w4 ⟨rfl, b4⟩
  have b4' := b4.alloc b4.size (.cells (mA (gR n L)) 27)
  have F4 := Lib.hid (tb_call F3.out b4')
  have X4 := Lib.hid (X3.out.next b4')
  have Y4 := Lib.hid (Y3.out.next b4')
  have K4 := Lib.hid (blk_alloc w4 (mA (gR n L)) 27)
  clear b4 b4' F3 X3 Y3
  go_wp2_with fail
  refine (rGetC A n c L _ HC.out HL.out F4.out.bys).mono ?_
  rintro e w5 ⟨rfl, b5⟩
  have b5' := b5.alloc b5.size (.cells (mA (gR n L)) 27)
  have F5 := Lib.hid (tb_call F4.out b5')
  have TA := Lib.hid (ta_drew (show TellsAt w m (gR n L) w4.heap.size w5.heap.size gw d base A none none n 0 L (full m) (w5.alloc (.cells (mA (gR n L)) 27)) from
    ⟨F5.out.box, blk_kept K4.out b5', blk_alloc w5 _ _, F5.out.wide, F5.out.bys, X4.out.next b5', Y4.out.next b5', F5.out.below⟩))
  clear b5 b5' F4 F5 X4 Y4 K4
  go_upto_region 6 with (fail)
  have qe := eq_m (gR n L)
  generalize gR n L = M at *
  generalize gE n L = E at *
  generalize (w5.alloc _) = W at *
  generalize w4.heap.size = gp at *
  generalize w5.heap.size = gq at *
  go_region_held3 (fun w' => w'.cell? ⟨w.heap.size, 0, none⟩ = some (.int .u8 m.lane) ∧ w'.cell? ⟨w.heap.size, 1, none⟩ = some (.int .u32 m.frame) ∧ w'.cell? ⟨w.heap.size, 2, none⟩ = some (.int .u8 m.h0) ∧ w'.cell? ⟨w.heap.size, 3, none⟩ = some (.int .u8 m.h1) ∧ w'.cell? ⟨w.heap.size, 4, none⟩ = some (.int .u8 m.h2) ∧ w'.cell? ⟨w.heap.size, 5, none⟩ = some (.int .u8 m.mode) ∧ w'.cell? ⟨w.heap.size, 6, none⟩ = some (.int .u8 m.level) ∧ w'.cell? ⟨w.heap.size, 7, none⟩ = some (.bool m.eng) ∧ w'.cell? ⟨w.heap.size, 8, none⟩ = some (.int .i64 m.side) ∧ w'.cell? ⟨w.heap.size, 9, none⟩ = some (.int .i64 m.sink) ∧ w'.cell? ⟨w.heap.size, 10, none⟩ = some (.int .i64 m.turn) ∧ w'.cell? ⟨gp, 0, none⟩ = some (.int .u8 M.lane) ∧ w'.cell? ⟨gp, 1, none⟩ = some (.int .u32 M.frame) ∧ w'.cell? ⟨gp, 2, none⟩ = some (.int .u8 M.h0) ∧ w'.cell? ⟨gp, 3, none⟩ = some (.int .u8 M.h1) ∧ w'.cell? ⟨gp, 4, none⟩ = some (.int .u8 M.h2) ∧ w'.cell? ⟨gp, 5, none⟩ = some (.int .u8 M.mode) ∧ w'.cell? ⟨gp, 6, none⟩ = some (.int .u8 M.level) ∧ w'.cell? ⟨gp, 7, none⟩ = some (.bool M.eng) ∧ w'.cell? ⟨gp, 8, none⟩ = some (.int .i64 M.side) ∧ w'.cell? ⟨gp, 9, none⟩ = some (.int .i64 M.sink) ∧ w'.cell? ⟨gp, 10, none⟩ = some (.int .i64 M.turn) ∧ w'.cell? ⟨gq, 0, none⟩ = some (.int .u8 M.lane) ∧ w'.cell? ⟨gq, 1, none⟩ = some (.int .u32 M.frame) ∧ w'.cell? ⟨gq, 2, none⟩ = some (.int .u8 M.h0) ∧ w'.cell? ⟨gq, 3, none⟩ = some (.int .u8 M.h1) ∧ w'.cell? ⟨gq, 4, none⟩ = some (.int .u8 M.h2) ∧ w'.cell? ⟨gq, 5, none⟩ = some (.int .u8 M.mode) ∧ w'.cell? ⟨gq, 6, none⟩ = some (.int .u8 M.level) ∧ w'.cell? ⟨gq, 7, none⟩ = some (.bool M.eng) ∧ w'.cell? ⟨gq, 8, none⟩ = some (.int .i64 M.side) ∧ w'.cell? ⟨gq, 9, none⟩ = some (.int .i64 M.sink) ∧ w'.cell? ⟨gq, 10, none⟩ = some (.int .i64 M.turn))
    (first
      | (with_reducible assumption)
      | exact s_of TA.out)
    (first
    | (go_at_call 11; refine (mayM HM.out _).mono ?_; rintro e v ⟨rfl, bb⟩; replace TA := Lib.hid (ta_call TA.out bb); clear bb)
    | (go_at_call 12; refine (rMayM HM.out _).mono ?_; rintro e v ⟨rfl, bb⟩; replace TA := Lib.hid (ta_call TA.out bb); clear bb)
    | (go_at_call 13; refine (sameC none none 0 0 0 (full m) _ TA.out.bx (by simp) TA.out.by' (by simp)).mono ?_; rintro e w' ⟨rfl, rfl⟩)
    | (go_at_call 14; refine (sumC (some ⟨gw, 0, none⟩) n d L _ (by have := HB.out; omega) HL.out (wide_bys TA.out.wide)).mono ?_; rintro e w' ⟨rfl, rfl⟩)
    | (go_at_call 15; refine (rSumC A n c L _ (by have := HB.out; omega) HL.out TA.out.bys).mono ?_; rintro e w' ⟨rfl, rfl⟩)
    | (go_at_call 16; refine (leftC gw d base A n c L _ TA.out.wide TA.out.bys HN.out HB.out).mono ?_; rintro e w' ⟨rfl, rfl⟩)
    | (go_at_call 17; refine (lives _).mono ?_; rintro e v ⟨rfl, bb⟩; replace TA := Lib.hid (ta_call TA.out bb); clear bb))
  all_goals
    go_wp2
    go_ret
    exact ⟨rfl, TA.out.below⟩

set_option maxRecDepth 100000 in
set_option maxHeartbeats 8000000 in
theorem tells_true (m : Ms) (hw : Wf m) (A : Option Addr) (n c : Nat) (L : Nat → Int) (w : World) (hL : Byte L) (hc : n ≤ c) (hn : n ≤ 140737488351232) (hnil : A = none → n = 0 ∧ c = 0) (hP : Bys w w.heap.size A n L) (hm : may m = true) :
    Calls Try.prog 3 #[.agg (mA m), .slice A n c] w fun e w' => e = .returned (.bool true) ∧ Below w.heap.size w w' := by
  have F0 := Lib.hid (back_new (m := m) hP)
  have HM := Lib.hid hm
  have HW := Lib.hid hw
  have HL := Lib.hid hL
  have HC := Lib.hid hc
  have HB := Lib.hid hn
  have HN := Lib.hid hnil
  clear hP hm hw hL hc hn hnil
  go_enter Try.func3, Try.ntmps3
  go_wp2_with fail
  refine (wideC A n c L _ F0.out.bys HN.out HB.out).mono ?_
  rintro e w1 ⟨gw, d, rfl, o1, b1⟩
  have F1 := Lib.hid (show TellsA w m gw d _ A n L w1 from ⟨blk_kept F0.out.box b1, o1, F0.out.bys.next b1, bthen F0.out.below b1⟩)
  clear o1 b1 F0
  generalize (w.alloc _).heap.size = base at *
  go_wp2_with ((with_reducible refine load_m rfl (.tmp 2) rfl w.heap.size m F1.out.box ?_ ?_); rfl)
  refine (putYes m HW.out HM.out _).mono ?_
  rintro e w2 ⟨v2, rfl, o2, b2⟩
  obtain ⟨gx, cx, rfl, O2⟩ := own_at o2 (by omega)
  have F2 := Lib.hid (tb_call F1.out b2)
  have X2 := Lib.hid O2.bys
  clear o2 b2 O2 F1
  go_wp2_with ((with_reducible refine load_m rfl (.tmp 2) rfl w.heap.size m F2.out.box ?_ ?_); rfl)
  refine (rPutYes m HW.out HM.out _).mono ?_
  rintro e w3 ⟨v3, rfl, o3, b3⟩
  obtain ⟨gy, cy, rfl, O3⟩ := own_at o3 (by omega)
  have F3 := Lib.hid (tb_call F2.out b3)
  have X3 := Lib.hid (X2.out.next b3)
  have Y3 := Lib.hid O3.bys
  clear o3 b3 O3 F2 X2
  go_wp2_with fail
  refine (getC (some ⟨gw, 0, none⟩) n d L _ (wide_fits F3.out.wide) HL.out (wide_bys F3.out.wide)).mono ?_
  rintro e w4 ⟨rfl, b4⟩
  have b4' := b4.alloc b4.size (.cells (mA (gR n L)) 27)
  have F4 := Lib.hid (tb_call F3.out b4')
  have X4 := Lib.hid (X3.out.next b4')
  have Y4 := Lib.hid (Y3.out.next b4')
  have K4 := Lib.hid (blk_alloc w4 (mA (gR n L)) 27)
  clear b4 b4' F3 X3 Y3
  go_wp2_with fail
  refine (rGetC A n c L _ HC.out HL.out F4.out.bys).mono ?_
  rintro e w5 ⟨rfl, b5⟩
  have b5' := b5.alloc b5.size (.cells (mA (gR n L)) 27)
  have F5 := Lib.hid (tb_call F4.out b5')
  have TA := Lib.hid (ta_drew (show TellsAt w m (gR n L) w4.heap.size w5.heap.size gw d base A (some ⟨gx, 0, none⟩) (some ⟨gy, 0, none⟩) n 40 L (full m) (w5.alloc (.cells (mA (gR n L)) 27)) from
    ⟨F5.out.box, blk_kept K4.out b5', blk_alloc w5 _ _, F5.out.wide, F5.out.bys, X4.out.next b5', Y4.out.next b5', F5.out.below⟩))
  clear b5 b5' F4 F5 X4 Y4 K4
  go_upto_region 6 with (fail)
  have qe := eq_m (gR n L)
  generalize gR n L = M at *
  generalize gE n L = E at *
  generalize (w5.alloc _) = W at *
  generalize w4.heap.size = gp at *
  generalize w5.heap.size = gq at *
  go_region_held3 (fun w' => w'.cell? ⟨w.heap.size, 0, none⟩ = some (.int .u8 m.lane) ∧ w'.cell? ⟨w.heap.size, 1, none⟩ = some (.int .u32 m.frame) ∧ w'.cell? ⟨w.heap.size, 2, none⟩ = some (.int .u8 m.h0) ∧ w'.cell? ⟨w.heap.size, 3, none⟩ = some (.int .u8 m.h1) ∧ w'.cell? ⟨w.heap.size, 4, none⟩ = some (.int .u8 m.h2) ∧ w'.cell? ⟨w.heap.size, 5, none⟩ = some (.int .u8 m.mode) ∧ w'.cell? ⟨w.heap.size, 6, none⟩ = some (.int .u8 m.level) ∧ w'.cell? ⟨w.heap.size, 7, none⟩ = some (.bool m.eng) ∧ w'.cell? ⟨w.heap.size, 8, none⟩ = some (.int .i64 m.side) ∧ w'.cell? ⟨w.heap.size, 9, none⟩ = some (.int .i64 m.sink) ∧ w'.cell? ⟨w.heap.size, 10, none⟩ = some (.int .i64 m.turn) ∧ w'.cell? ⟨gp, 0, none⟩ = some (.int .u8 M.lane) ∧ w'.cell? ⟨gp, 1, none⟩ = some (.int .u32 M.frame) ∧ w'.cell? ⟨gp, 2, none⟩ = some (.int .u8 M.h0) ∧ w'.cell? ⟨gp, 3, none⟩ = some (.int .u8 M.h1) ∧ w'.cell? ⟨gp, 4, none⟩ = some (.int .u8 M.h2) ∧ w'.cell? ⟨gp, 5, none⟩ = some (.int .u8 M.mode) ∧ w'.cell? ⟨gp, 6, none⟩ = some (.int .u8 M.level) ∧ w'.cell? ⟨gp, 7, none⟩ = some (.bool M.eng) ∧ w'.cell? ⟨gp, 8, none⟩ = some (.int .i64 M.side) ∧ w'.cell? ⟨gp, 9, none⟩ = some (.int .i64 M.sink) ∧ w'.cell? ⟨gp, 10, none⟩ = some (.int .i64 M.turn) ∧ w'.cell? ⟨gq, 0, none⟩ = some (.int .u8 M.lane) ∧ w'.cell? ⟨gq, 1, none⟩ = some (.int .u32 M.frame) ∧ w'.cell? ⟨gq, 2, none⟩ = some (.int .u8 M.h0) ∧ w'.cell? ⟨gq, 3, none⟩ = some (.int .u8 M.h1) ∧ w'.cell? ⟨gq, 4, none⟩ = some (.int .u8 M.h2) ∧ w'.cell? ⟨gq, 5, none⟩ = some (.int .u8 M.mode) ∧ w'.cell? ⟨gq, 6, none⟩ = some (.int .u8 M.level) ∧ w'.cell? ⟨gq, 7, none⟩ = some (.bool M.eng) ∧ w'.cell? ⟨gq, 8, none⟩ = some (.int .i64 M.side) ∧ w'.cell? ⟨gq, 9, none⟩ = some (.int .i64 M.sink) ∧ w'.cell? ⟨gq, 10, none⟩ = some (.int .i64 M.turn))
    (first
      | (with_reducible assumption)
      | exact s_of TA.out)
    (first
    | (go_at_call 11; refine (mayM HM.out _).mono ?_; rintro e v ⟨rfl, bb⟩; replace TA := Lib.hid (ta_call TA.out bb); clear bb)
    | (go_at_call 12; refine (rMayM HM.out _).mono ?_; rintro e v ⟨rfl, bb⟩; replace TA := Lib.hid (ta_call TA.out bb); clear bb)
    | (go_at_call 13; refine (sameC (some ⟨gx, 0, none⟩) (some ⟨gy, 0, none⟩) 40 cx cy (full m) _ TA.out.bx (by simp) TA.out.by' (by simp)).mono ?_; rintro e w' ⟨rfl, rfl⟩)
    | (go_at_call 14; refine (sumC (some ⟨gw, 0, none⟩) n d L _ (by have := HB.out; omega) HL.out (wide_bys TA.out.wide)).mono ?_; rintro e w' ⟨rfl, rfl⟩)
    | (go_at_call 15; refine (rSumC A n c L _ (by have := HB.out; omega) HL.out TA.out.bys).mono ?_; rintro e w' ⟨rfl, rfl⟩)
    | (go_at_call 16; refine (leftC gw d base A n c L _ TA.out.wide TA.out.bys HN.out HB.out).mono ?_; rintro e w' ⟨rfl, rfl⟩)
    | (go_at_call 17; refine (lives _).mono ?_; rintro e v ⟨rfl, bb⟩; replace TA := Lib.hid (ta_call TA.out bb); clear bb))
  all_goals
    go_wp2
    go_ret
    exact ⟨rfl, TA.out.below⟩

theorem tellsLaw (m : Ms) (A : Option Addr) (n c : Nat) (L : Nat → Int) (w : World) (hw : Wf m) (hL : Byte L) (hc : n ≤ c) (hn : n ≤ 140737488351232) (hnil : A = none → n = 0 ∧ c = 0) (hP : Bys w w.heap.size A n L) :
    Calls Try.prog 3 #[.agg (mA m), .slice A n c] w fun e w' => e = .returned (.bool true) ∧ Below w.heap.size w w' := by
  cases hm : may m
  · exact tells_false m hw A n c L w hL hc hn hnil hP hm
  · exact tells_true m hw A n c L w hL hc hn hnil hP hm

end Go.Proofs.Ytohkgfmimpockaa.Msg
