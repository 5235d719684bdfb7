/- The walk of the law MsgChanged: it returns true and turns nothing that was there. Conditions: the message's fields are what their types allow, the bytes from 0 to 255. -/
import Derived.Test.YtohkgfmimpockaaMsgLawA
import Derived.Laws.BitsAllLaws
namespace Go.Proofs.Ytohkgfmimpockaa.Msg
open Go.ChangeShapes Go.WideShapes Go.ChangeAt Go.RowKit Num By

theorem xor_in {a q : Int} (a0 : 0 ≤ a) (a1 : a < 256) (q0 : 0 ≤ q) (q1 : q < 256) : 0 ≤ bits .xor .u8 a q ∧ bits .xor .u8 a q < 256 := by
  rw [u8_xor a q a0 a1 q0 q1]
  have := Nat.xor_lt_two_pow (n := 8) (x := a.toNat) (y := q.toNat) (by omega) (by omega)
  omega
theorem xor_no {a q : Int} (a0 : 0 ≤ a) (a1 : a < 256) (q0 : 0 ≤ q) (q1 : q < 256) (h : q ≠ 0) : bits .xor .u8 a q ≠ a := by
  rw [u8_xor a q a0 a1 q0 q1]
  intro e
  have e1 : a.toNat ^^^ q.toNat = a.toNat := by omega
  have e2 : a.toNat ^^^ (a.toNat ^^^ q.toNat) = a.toNat ^^^ a.toNat := by rw [e1]
  rw [← Nat.xor_assoc, Nat.xor_self, Nat.zero_xor] at e2
  omega
theorem xor_yes {a : Int} (a0 : 0 ≤ a) (a1 : a < 256) : bits .xor .u8 a 0 = a := by
  rw [u8_xor a 0 a0 a1 (by omega) (by omega)]
  have : (0 : Int).toNat = 0 := rfl
  rw [this, Nat.xor_zero]
  omega
theorem upd_self (L : Nat → Int) (k : Nat) : upd L k (L k) = L := by
  funext i
  unfold upd
  split
  · rename_i h; rw [h]
  · rfl
theorem swap_self {L : Nat → Int} {k : Nat} (h : L k = L (k + 1)) : upd (upd L k (L (k + 1))) (k + 1) (L k) = L := by
  rw [← h, upd_self, h, upd_self]

/-- Whether a message with one byte changed is well. -/
theorem one_test {m : Ms} (hw : Wf m) (hm : may m = true) (k : Nat) (hk : k < 40) (q : Int) (q0 : 0 ≤ q) (q1 : q < 256) : (gE 40 (upd (full m) k (bits .xor .u8 (full m k) q)) == 0) = (q == 0) := by
  have b := full_byte hw k
  by_cases h : q = 0
  · subst h
    rw [xor_yes b.1 b.2, upd_self, put_got hw hm]
  · have := changed_no (full_byte hw) (put_got hw hm) hk (xor_in b.1 b.2 q0 q1) (xor_no b.1 b.2 q0 q1 h)
    rw [beq_eq_false_iff_ne.2 this, beq_eq_false_iff_ne.2 h]
theorem two_test {m : Ms} (hw : Wf m) (hm : may m = true) (k : Nat) (hk : k < 39) : (gE 40 (upd (upd (full m) k (full m (k + 1))) (k + 1) (full m k)) == 0) = (full m k == full m (k + 1)) := by
  by_cases h : full m k = full m (k + 1)
  · rw [swap_self h, put_got hw hm, h]; simp
  · have := swapped_no (full_byte hw) (put_got hw hm) hk h
    rw [beq_eq_false_iff_ne.2 this, beq_eq_false_iff_ne.2 h]
theorem more_test {m : Ms} (hw : Wf m) (hm : may m = true) (n : Nat) (M : Nat → Int) : gE (40 + n) (catL 40 (full m) M) = if n = 0 then 0 else 5 := by
  by_cases h : n = 0
  · subst h
    rw [if_pos rfl, (gE_as (L := catL 40 (full m) M) (M := full m) fun i hi => catL_lo hi).1, put_got hw hm]
  · rw [if_neg h, gE_long _ (by omega)]

theorem row_far {w0 w : World} {g c d : Nat} {L : Nat → Int} (h : RowAt w0 g c L w) (ne : g ≠ d) (hd : w0.heap.size ≤ d) (o : Nat) (v : Value) : RowAt w0 g c L (w.setCell ⟨d, o, none⟩ v) := by
  obtain ⟨us, hu⟩ := h.own.cur
  refine ⟨⟨h.own.base, h.own.fits, fun _ => ⟨g, 0, rfl, by simpa using h.own.lt, fun i hi => ?_⟩, us, (Below.heap_setCell w ⟨d, o, none⟩ v g ne).trans hu⟩, below_set1 h.below hd o v⟩
  rw [World.cell?_setCell_far _ _ _ _ (by simp; omega), Nat.zero_add]
  exact h.own.cell i hi
theorem bys_far {w0 w : World} {A : Option Addr} {n d : Nat} {L : Nat → Int} (h : Bys w w0.heap.size A n L) (hd : w0.heap.size ≤ d) (o : Nat) (v : Value) : Bys (w.setCell ⟨d, o, none⟩ v) w0.heap.size A n L := by
  intro hn
  obtain ⟨b, off, rfl, hlt, hc⟩ := h hn
  exact ⟨b, off, rfl, hlt, fun i hi => by rw [World.cell?_setCell_far _ _ _ _ (by simp; omega)]; exact hc i hi⟩
/-- A copy of a row. -/
theorem copyRow {w0 w : World} {g c : Nat} {L : Nat → Int} (h : RowAt w0 g c L w) :
    Calls Try.prog 18 #[.slice (some ⟨g, 0, none⟩) 40 c] w fun e w' => ∃ d e2, e = .returned (.slice (some ⟨d, 0, none⟩) 40 e2) ∧ RowAt w0 d e2 L w' ∧ Hid (g ≠ d) ∧ Below w.heap.size w w' :=
  (copyC (some ⟨g, 0, none⟩) 40 c L w h.own.bys (by simp) (by omega)).mono fun e w' ⟨v, he, ho, hb⟩ => by
    obtain ⟨d, e2, rfl, O⟩ := own_at ho (by omega)
    refine ⟨d, e2, he, ⟨own_less O h.below.size, bthen h.below hb⟩, ?_, hb⟩
    have := h.own.lt
    have := O.base
    show g ≠ d
    omega

set_option maxRecDepth 100000 in
set_option maxHeartbeats 4000000 in
theorem changed_no_put (m : Ms) (p q : Int) (A : Option Addr) (n c : Nat) (w : World) (hm : may m = false) :
    Calls Try.prog 5 #[.agg (mA m), .int .u8 p, .int .u8 q, .slice A n c] w fun e w' => e = .returned (.bool true) ∧ Below w.heap.size w w' := by
  have K0 := Lib.hid (blk_alloc w (mA m) 27)
  have HM := Lib.hid hm
  clear hm
  go_enter Try.func5, Try.ntmps5
  go_wp2_with ((with_reducible refine load_m rfl (.tmp 4) rfl w.heap.size m K0.out ?_ ?_); rfl)
  refine (putNo m HM.out _).mono ?_
  rintro e w1 ⟨rfl, b1⟩
  have B1 := Lib.hid (below_box b1).2
  clear b1
  go_wp2_with fail
  refine (lives _).mono ?_
  rintro e w2 ⟨rfl, b2⟩
  have B2 := Lib.hid (bthen B1.out b2)
  clear b2
  go_wp2
  go_ret
  exact ⟨rfl, B2.out⟩

set_option maxRecDepth 100000 in
set_option maxHeartbeats 8000000 in
theorem changed_put (m : Ms) (hw : Wf m) (p q : Int) (A : Option Addr) (n c : Nat) (L : Nat → Int) (w : World) (p0 : 0 ≤ p) (p1 : p < 256) (q0 : 0 ≤ q) (q1 : q < 256) (hL : Byte L) (hn : n ≤ 140737488351232) (hnil : A = none → n = 0 ∧ c = 0) (hP : Bys w w.heap.size A n L) (hm : may m = true) :
    Calls Try.prog 5 #[.agg (mA m), .int .u8 p, .int .u8 q, .slice A n c] w fun e w' => e = .returned (.bool true) ∧ Below w.heap.size w w' := by
  have K0 := Lib.hid (blk_alloc w (mA m) 27)
  have HM := Lib.hid hm
  have HW := Lib.hid hw
  have HL := Lib.hid hL
  have HN := Lib.hid hnil
  have HP := Lib.hid hP
  have HB := Lib.hid hn
  obtain ⟨k, ek, hk⟩ : ∃ k : Nat, p % 40 = (k : Int) ∧ k < 40 := ⟨(p % 40).toNat, by omega, by omega⟩
  obtain ⟨j, ej, hj⟩ : ∃ j : Nat, p % 39 = (j : Int) ∧ j < 39 := ⟨(p % 39).toNat, by omega, by omega⟩
  have k0 : (0 : Int) ≤ (k : Int) := Int.natCast_nonneg _
  have k1 : (k : Int) < 40 := by omega
  have j0 : (0 : Int) ≤ (j : Int) := Int.natCast_nonneg _
  have j1 : (j : Int) + 1 < 40 := by omega
  have HJ := Lib.hid hj
  clear hm hw hL hnil hP hn hj
  go_enter Try.func5, Try.ntmps5
  go_wp2_with ((with_reducible refine load_m rfl (.tmp 4) rfl w.heap.size m K0.out ?_ ?_); rfl)
  refine (putYes m HW.out HM.out _).mono ?_
  rintro e w1 ⟨v1, rfl, o1, b1⟩
  obtain ⟨g, cg, rfl, O⟩ := own_at o1 (by omega)
  have B1 := Lib.hid (below_box b1).2
  have R1 := Lib.hid (show RowAt w g cg (full m) w1 from ⟨own_less O (by simp), B1.out⟩)
  clear o1 b1 O K0
  go_wp2_with fail
  refine (copyRow R1.out).mono ?_
  rintro e w2 ⟨g2, c2, rfl, r2, ne2, b2⟩
  have R2 := Lib.hid r2
  have R3 := Lib.hid (row_call R1.out b2)
  clear r2 b2 R1 B1
  have x0 := R2.out.own.cell k hk
  have x1 := R2.out.own.free k
  have S2 := Lib.hid (row_set R2.out k hk (bits .xor .u8 (full m k) q))
  have S3 := Lib.hid (row_far R3.out ne2.out R2.out.own.base k (.int .u8 (bits .xor .u8 (full m k) q)))
  have HX := Lib.hid (upd_byte (full_byte HW.out) (k := k) (xor_in (full_byte HW.out k).1 (full_byte HW.out k).2 q0 q1))
  have T1 := Lib.hid (one_test HW.out HM.out k hk q q0 q1)
  clear R2 R3 ne2
  go_wp2_with fail
  refine (getRow S2.out HX.out).mono ?_
  rintro e w4 ⟨rfl, b4⟩
  have R4 := Lib.hid (row_lay (row_call S3.out b4) (.cells (mA (gR 40 (upd (full m) k (bits .xor .u8 (full m k) q)))) 27))
  clear b4 S2 S3 HX x0 x1
  generalize bits .xor .u8 (full m k) q = X at *
  generalize gR 40 (upd (full m) k X) = M1 at *
  generalize gE 40 (upd (full m) k X) = E1 at *
  obtain ⟨Q1, hQ1⟩ : ∃ Q1 : Bool, (q == 0) = Q1 := ⟨_, rfl⟩
  have T2 : (E1 == 0) = Q1 := T1.out.trans hQ1
  clear T1 ek k0 k1 hk
  go_wp2_with fail
  clear hQ1 T2
  refine (copyRow R4.out).mono ?_
  rintro e w5 ⟨g3, c3, rfl, r5, ne3, b5⟩
  have R5 := Lib.hid r5
  have R6 := Lib.hid (row_call R4.out b5)
  clear r5 b5 R4
  have x0 := R5.out.own.cell j (by have := HJ.out; omega)
  have x1 := R5.out.own.cell (j + 1) (by have := HJ.out; omega)
  have x2 := R5.out.own.free j
  have x3 := R5.out.own.free (j + 1)
  have w1' : IntKind.i64.wrap ((j : Int) + 1) = (j : Int) + 1 := IntWalk.i64_in _ (by omega)
  have w2' : ((j : Int) + 1).toNat = j + 1 := by omega
  have w3' : (0 : Int) ≤ (j : Int) + 1 := by omega
  have w4' : (j : Int) < 40 := by omega
  have S5 := Lib.hid (row_set (row_set (row_drew R5.out) j (by have := HJ.out; omega) (full m (j + 1))) (j + 1) (by have := HJ.out; omega) (full m j))
  have S6 := Lib.hid (row_far (row_far (row_drew R6.out) ne3.out R5.out.own.base j (.int .u8 (full m (j + 1)))) ne3.out R5.out.own.base (j + 1) (.int .u8 (full m j)))
  have HY := Lib.hid (upd_byte (upd_byte (full_byte HW.out) (k := j) (full_byte HW.out (j + 1))) (k := j + 1) (full_byte HW.out j))
  have T3 := Lib.hid (two_test HW.out HM.out j HJ.out)
  go_upto_region 14 with (fail)
  go_region
  clear x0 x1 x2 x3 R5 R6 ne3
  go_wp2_with fail
  refine (getRow S5.out HY.out).mono ?_
  rintro e w6 ⟨rfl, b6⟩
  have R7 := Lib.hid (row_lay (row_call S6.out b6) (.cells (mA (gR 40 (upd (upd (full m) j (full m (j + 1))) (j + 1) (full m j)))) 27))
  clear b6 S5 S6 HY
  generalize gR 40 (upd (upd (full m) j (full m (j + 1))) (j + 1) (full m j)) = M2 at *
  generalize gE 40 (upd (upd (full m) j (full m (j + 1))) (j + 1) (full m j)) = E2 at *
  have x0 := R7.out.own.cell j (by have := HJ.out; omega)
  have x1 := R7.out.own.cell (j + 1) (by have := HJ.out; omega)
  obtain ⟨Q2, hQ2⟩ : ∃ Q2 : Bool, (full m j == full m (j + 1)) = Q2 := ⟨_, rfl⟩
  have T4 : (E2 == 0) = Q2 := T3.out.trans hQ2
  have f40 : (40 : Int) ≤ (cg : Int) := by have := R7.out.own.fits; omega
  have fj : (j : Int) ≤ (cg : Int) := by omega
  clear T3
  go_upto_region 16 with (fail)
  go_quiet (fail)
  have R8 := Lib.hid (show RowAt w g cg (full m) ((w6.alloc (.cells (mA M2) 27)).drewN nq) from ⟨⟨R7.out.own.base, R7.out.own.fits, R7.out.own.bys, R7.out.own.cur⟩, below_drewN R7.out.below nq⟩)
  clear R7 x0 x1
  go_wp2_with fail
  clear hQ2 T4
  refine (getShort (some ⟨g, 0, none⟩) j cg _ (by have := HJ.out; omega)).mono ?_
  rintro e w7 ⟨rfl, b7⟩
  have R9 := Lib.hid (row_lay (row_call R8.out b7) (.cells (mA m0) 27))
  clear b7 R8 w1' w2' w3' w4'
  go_wp2_with fail
  refine (copyC (some ⟨g, 0, none⟩) 40 cg (full m) _ R9.out.own.bys (by simp) (by omega)).mono ?_
  rintro e w8 ⟨v8, rfl, o8, b8⟩
  have O8 := Lib.hid o8
  have B8 := Lib.hid b8
  have R10 := Lib.hid (row_call R9.out b8)
  clear o8 b8
  have P8 := Lib.hid ((HP.out.below R10.out.below).more R10.out.below.size)
  go_wp2_with (at_builtin; refine wpList_append_more rfl (.tmp 105) (.tmp 106) rfl _ 40 (full m) v8 A n c L rfl O8.out B8.out.size rfl P8.out HN.out (by have := HB.out; omega) ?_; intro v9 w9 o9 b9; obtain ⟨A9, c9, rfl, h9, l9, p9⟩ := bys_of_own o9; have F9 := Lib.hid l9; have P9 := Lib.hid p9; have B9 := Lib.hid (bthen R9.out.below ((show Below (w7.alloc (.cells (mA m0) 27)).heap.size (w7.alloc (.cells (mA m0) 27)) w9 from B8.out.trans b9))); clear o9 b9 h9 l9 p9 O8 B8 R10 P8)
  refine (getC A9 (40 + n) c9 (catL 40 (full m) L) _ F9.out (catL_byte (full_byte HW.out) HL.out) P9.out).mono ?_
  rw [more_test HW.out HM.out]
  generalize gR (40 + n) (catL 40 (full m) L) = M3
  rintro e w10 ⟨rfl, b10⟩
  have B10 := Lib.hid ((bthen B9.out b10).alloc (bthen B9.out b10).size (.cells (mA M3) 27))
  clear b10 F9 P9
  by_cases hz : n = 0
  · subst hz
    rw [if_pos rfl]
    go_wp2_with fail
    refine (lives _).mono ?_
    rintro e w11 ⟨rfl, b11⟩
    have B11 := Lib.hid (bthen B10.out b11)
    clear b11
    go_wp2
    go_ret
    exact ⟨rfl, B11.out⟩
  · rw [if_neg hz]
    have z1 : ((n : Int) == 0) = false := by simpa using hz
    go_wp2_with fail
    refine (lives _).mono ?_
    rintro e w11 ⟨rfl, b11⟩
    have B11 := Lib.hid (bthen B10.out b11)
    clear b11
    go_wp2
    go_ret
    exact ⟨rfl, B11.out⟩

theorem changedLaw (m : Ms) (p q : Int) (A : Option Addr) (n c : Nat) (L : Nat → Int) (w : World) (hw : Wf m) (p0 : 0 ≤ p) (p1 : p < 256) (q0 : 0 ≤ q) (q1 : q < 256) (hL : Byte L) (hn : n ≤ 140737488351232) (hnil : A = none → n = 0 ∧ c = 0) (hP : Bys w w.heap.size A n L) :
    Calls Try.prog 5 #[.agg (mA m), .int .u8 p, .int .u8 q, .slice A n c] w fun e w' => e = .returned (.bool true) ∧ Below w.heap.size w w' := by
  cases hm : may m
  · exact changed_no_put m p q A n c w hm
  · exact changed_put m hw p q A n c L w p0 p1 q0 q1 hL hn hnil hP hm

end Go.Proofs.Ytohkgfmimpockaa.Msg
