/- The contracts of Get whatever the bytes; of Wide and Left; '==' of messages; a row of bytes of the law's own. Conditions: bytes are from 0 to 255. -/
import Derived.Test.YtohkgfmimpockaaMsgRGet
import Derived.Test.YtohkgfmimpockaaMsgRPut
import Derived.Test.YtohkgfmimpockaaArrEq
import Derived.Deep.DeepCutAuto
namespace Go.Proofs.Ytohkgfmimpockaa.Msg
open Go.ChangeShapes Go.WideShapes Go.ChangeAt Go.RowKit Num By

theorem getC (A : Option Addr) (n c : Nat) (L : Nat → Int) (w : World) (hn : n ≤ c) (hL : Byte L) (hP : Bys w w.heap.size A n L) :
    Calls Try.prog 9 #[.slice A n c] w fun e w' => e = .returned (.tuple #[.agg (mA (gR n L)), .int .i64 (gE n L)]) ∧ Below w.heap.size w w' := by
  rcases Nat.lt_or_ge n 40 with h | h
  · have e := gE_short L h
    have r : gR n L = m0 := gR_no (by rw [e]; decide)
    rw [e, r]
    exact getShort A n c w h
  rcases Nat.lt_or_ge 40 n with g | g
  · have e := gE_long L g
    have r : gR n L = m0 := gR_no (by rw [e]; decide)
    rw [e, r]
    exact getLong A n c w g
  obtain rfl : n = 40 := by omega
  obtain ⟨b, off, rfl, _, _⟩ := hP (by omega)
  by_cases h0 : L 0 = 165
  · by_cases h1 : sum 36 L = num 4 (fun i => L (36 + i))
    · by_cases h2 : L 11 ≤ 1
      · cases hm : may (gm L)
        · have e : gE 40 L = 5 := by unfold gE; rw [if_neg (by omega), if_neg (by omega), if_neg (by omega), if_pos (.inr hm)]
          have r : gR 40 L = m0 := gR_no (by rw [e]; decide)
          rw [e, r]
          exact getMayNo b off c L w hn hL hP h0 h1 h2 hm
        · have e : gE 40 L = 0 := gE_yes.2 ⟨h0, h1, h2, hm⟩
          rw [e, gR_yes e]
          exact getYes b off c L w hn hL hP h0 h1 h2 hm
      · have e : gE 40 L = 5 := by unfold gE; rw [if_neg (by omega), if_neg (by omega), if_neg (by omega), if_pos (.inl (by omega))]
        have r : gR 40 L = m0 := gR_no (by rw [e]; decide)
        rw [e, r]
        exact getEng b off c L w hn hL hP h0 h1 (by omega)
    · have e : gE 40 L = 11 := by unfold gE; rw [if_neg (by omega), if_neg (by omega), if_pos h1]
      have r : gR 40 L = m0 := gR_no (by rw [e]; decide)
      rw [e, r]
      exact getSum b off c L w hn hL hP h0 h1
  · have e : gE 40 L = 5 := by unfold gE; rw [if_neg (by omega), if_pos (.inr h0)]
    have r : gR 40 L = m0 := gR_no (by rw [e]; decide)
    rw [e, r]
    exact getFirst b off c L w hP h0

theorem rGetC (A : Option Addr) (n c : Nat) (L : Nat → Int) (w : World) (hn : n ≤ c) (hL : Byte L) (hP : Bys w w.heap.size A n L) :
    Calls Try.prog 10 #[.slice A n c] w fun e w' => e = .returned (.tuple #[.agg (mA (gR n L)), .int .i64 (gE n L)]) ∧ Below w.heap.size w w' := by
  rcases Nat.lt_or_ge n 40 with h | h
  · have e := gE_short L h
    have r : gR n L = m0 := gR_no (by rw [e]; decide)
    rw [e, r]
    exact rGetShort A n c w h
  rcases Nat.lt_or_ge 40 n with g | g
  · have e := gE_long L g
    have r : gR n L = m0 := gR_no (by rw [e]; decide)
    rw [e, r]
    exact rGetLong A n c w g
  obtain rfl : n = 40 := by omega
  obtain ⟨b, off, rfl, _, _⟩ := hP (by omega)
  by_cases h0 : L 0 = 165
  · by_cases h1 : sum 36 L = num 4 (fun i => L (36 + i))
    · by_cases h2 : L 11 ≤ 1
      · cases hm : may (gm L)
        · have e : gE 40 L = 5 := by unfold gE; rw [if_neg (by omega), if_neg (by omega), if_neg (by omega), if_pos (.inr hm)]
          have r : gR 40 L = m0 := gR_no (by rw [e]; decide)
          rw [e, r]
          exact rGetMayNo b off c L w hn hL hP h0 h1 h2 hm
        · have e : gE 40 L = 0 := gE_yes.2 ⟨h0, h1, h2, hm⟩
          rw [e, gR_yes e]
          exact rGetYes b off c L w hn hL hP h0 h1 h2 hm
      · have e : gE 40 L = 5 := by unfold gE; rw [if_neg (by omega), if_neg (by omega), if_neg (by omega), if_pos (.inl (by omega))]
        have r : gR 40 L = m0 := gR_no (by rw [e]; decide)
        rw [e, r]
        exact rGetEng b off c L w hn hL hP h0 h1 (by omega)
    · have e : gE 40 L = 11 := by unfold gE; rw [if_neg (by omega), if_neg (by omega), if_pos h1]
      have r : gR 40 L = m0 := gR_no (by rw [e]; decide)
      rw [e, r]
      exact rGetSum b off c L w hn hL hP h0 h1
  · have e : gE 40 L = 5 := by unfold gE; rw [if_neg (by omega), if_pos (.inr h0)]
    have r : gR 40 L = m0 := gR_no (by rw [e]; decide)
    rw [e, r]
    exact rGetFirst b off c L w hP h0

/-- Nines. -/
abbrev nine : Nat → Int := fun _ => 9
theorem nine_new (w : World) (B : Nat) (h : w.heap.size = B) : Bys (w.alloc (.cells #[.int .u8 9, .int .u8 9, .int .u8 9] 5)) (w.alloc (.cells #[.int .u8 9, .int .u8 9, .int .u8 9] 5)).heap.size (some ⟨B, 0, none⟩) 3 nine := by subst h; exact bys_new w 3 _ _ _ rfl
/-- A row of the caller's own that holds something. -/
structure OwnAt (w : World) (base g n c : Nat) (L : Nat → Int) : Prop where
  base : base ≤ g
  fits : n ≤ c
  bys : Bys w w.heap.size (some ⟨g, 0, none⟩) n L
  cur : ∃ us, w.heap[g]? = some (.cells us 5 (0, 0))
theorem own_at {w : World} {base : Nat} {v : Value} {n : Nat} {L : Nat → Int} (h : w.ownsRow base 5 1 v n (cellsOf n L)) (hn : 0 < n) : ∃ g c, v = .slice (some ⟨g, 0, none⟩) n c ∧ OwnAt w base g n c L := by
  rcases h.2 with ⟨_, h0⟩ | ⟨g, cap, us, rfl, hb, hh, hc, _, _, hcur⟩
  · omega
  · exact ⟨g, cap, rfl, hb, hc, bys_of_block hh (by simpa using hcur), us, hh⟩
theorem OwnAt.kept {w w' : World} {base g n c : Nat} {L : Nat → Int} (h : OwnAt w base g n c L) (hb : Below w.heap.size w w') : OwnAt w' base g n c L := by
  obtain ⟨us, hu⟩ := h.cur
  exact ⟨h.base, h.fits, h.bys.next hb, us, (hb.block g (lt_of_at hu)).trans hu⟩
theorem OwnAt.lt {w : World} {base g n c : Nat} {L : Nat → Int} (h : OwnAt w base g n c L) : g < w.heap.size := by
  obtain ⟨us, hu⟩ := h.cur
  exact lt_of_at hu
theorem OwnAt.free {w : World} {base g n c : Nat} {L : Nat → Int} (h : OwnAt w base g n c L) (o : Nat) : w.frozen? ⟨g, o, none⟩ = false := by
  obtain ⟨us, hu⟩ := h.cur
  exact blk_free (T := 5) hu o
theorem OwnAt.cell {w : World} {base g n c : Nat} {L : Nat → Int} (h : OwnAt w base g n c L) (k : Nat) (hk : k < n) : w.cell? ⟨g, k, none⟩ = some (.int .u8 (L k)) := by
  have := h.bys.cell k hk
  rwa [Nat.zero_add] at this
theorem OwnAt.set {w : World} {base g n c : Nat} {L : Nat → Int} (h : OwnAt w base g n c L) (k : Nat) (hk : k < n) (x : Int) : OwnAt (w.setCell ⟨g, k, none⟩ (.int .u8 x)) base g n c (upd L k x) := by
  obtain ⟨us, hu⟩ := h.cur
  have hs := blk_set (T := 5) hu k (.int .u8 x)
  refine ⟨h.base, h.fits, fun _ => ⟨g, 0, rfl, by simpa using h.lt, fun i hi => ?_⟩, _, hs⟩
  rw [Nat.zero_add]
  have hc := h.cell i hi
  unfold upd
  by_cases e : i = k
  · subst e
    rw [if_pos rfl]
    have hlt : i < us.size := by
      rw [cell_of_row w g i us _ (0, 0) hu] at hc
      exact (Array.getElem?_eq_some_iff.1 hc).1
    exact blk_cell hs (by simp [hlt])
  · rw [if_neg e]
    rw [cell_of_row w g i us _ (0, 0) hu] at hc
    exact blk_cell hs (by rw [Array.getElem?_setIfInBounds, if_neg (by omega)]; exact hc)
theorem OwnAt.drew {w : World} {base g n c : Nat} {L : Nat → Int} (h : OwnAt w base g n c L) : OwnAt w.drew base g n c L := ⟨h.base, h.fits, h.bys, h.cur⟩

set_option maxHeartbeats 1000000 in
theorem wideC (A : Option Addr) (n c : Nat) (L : Nat → Int) (w : World) (hP : Bys w w.heap.size A n L) (hnil : A = none → n = 0 ∧ c = 0) (hn : n ≤ 140737488351232) :
    Calls Try.prog 6 #[.slice A n c] w fun e w' => ∃ g d, e = .returned (.slice (some ⟨g, 0, none⟩) n d) ∧ OwnAt w' w.heap.size g (n + 3) d (catL n L nine) ∧ Below w.heap.size w w' := by
  have n0 : (0 : Int) ≤ (n : Int) := Int.natCast_nonneg _
  have HC := Lib.hid (copyC A n c L w hP hnil (by omega))
  clear hP hnil
  go_enter Try.func6, Try.ntmps6
  go_wp2_with fail
  refine HC.out.mono ?_
  rintro e w1 ⟨v1, rfl, o1, b1⟩
  have O1 := Lib.hid o1
  have B1 := Lib.hid b1
  clear o1 b1 HC
  go_wp2_with (at_builtin; refine wpList_append_more rfl (.tmp 6) (.tmp 7) rfl w.heap.size n L v1 (some ⟨w1.heap.size, 0, none⟩) 3 3 nine rfl (O1.out.alloc _) (by have := B1.out.size; simp; omega) rfl (nine_new _ _ rfl) (by simp) (by omega) ?_; intro v2 w2 o2 b2; obtain ⟨g, d, rfl, W2⟩ := own_at o2 (by omega); have F2 := Lib.hid W2; have B2 : Hid (Below w.heap.size w w2) := (B1.out.alloc B1.out.size _).trans b2; have nd : (n : Int) ≤ (d : Int) := (by have := W2.fits; omega); clear o2 b2 W2)
  go_ret
  exact ⟨g, d, rfl, F2.out, B2.out⟩

set_option maxRecDepth 100000 in
set_option maxHeartbeats 2000000 in
theorem leftC (g d base : Nat) (A : Option Addr) (n c : Nat) (L : Nat → Int) (w : World) (hO : OwnAt w base g (n + 3) d (catL n L nine)) (hP : Bys w w.heap.size A n L) (hnil : A = none → n = 0 ∧ c = 0) (hn : n ≤ 140737488351232) :
    Calls Try.prog 16 #[.slice (some ⟨g, 0, none⟩) n d, .slice A n c] w fun e w' => e = .returned (.bool true) ∧ w = w' := by
  have n0 : (0 : Int) ≤ (n : Int) := Int.natCast_nonneg _
  have fd : (n : Int) + 3 ≤ (d : Int) := by have := hO.fits; omega
  have hV : Bys w w.heap.size (some ⟨g, 0, none⟩) n L := (hO.bys.fewer (by omega)).as fun i hi => catL_lo hi
  have HS := Lib.hid (sameC (some ⟨g, 0, none⟩) A n d c L w hV (by simp) hP hnil)
  have k0 : w.cell? ⟨g, n, none⟩ = some (.int .u8 9) := by
    have e : catL n L nine n = 9 := catL_hi n 0 L nine
    rw [← e]; exact hO.cell n (by omega)
  have k1 : w.cell? ⟨g, n + 1, none⟩ = some (.int .u8 9) := by
    have e : catL n L nine (n + 1) = 9 := catL_hi n 1 L nine
    rw [← e]; exact hO.cell (n + 1) (by omega)
  have k2 : w.cell? ⟨g, n + 2, none⟩ = some (.int .u8 9) := by
    have e : catL n L nine (n + 2) = 9 := catL_hi n 2 L nine
    rw [← e]; exact hO.cell (n + 2) (by omega)
  have t1 : ((n : Int) + 1).toNat = n + 1 := by omega
  have t2 : ((n : Int) + 2).toNat = n + 2 := by omega
  clear hO hP hnil hV
  go_enter Try.func16, Try.ntmps16
  go_wp2_with fail
  refine HS.out.mono ?_
  rintro e w' ⟨rfl, rfl⟩
  clear HS
  go_upto_region 4 with (fail)
  clear fd
  have i0 : (n : Int) < ((n + 3 : Nat) : Int) := by omega
  have i1 : (n : Int) + 1 < ((n + 3 : Nat) : Int) := by omega
  have i2 : (n : Int) + 2 < ((n + 3 : Nat) : Int) := by omega
  generalize n + 3 = N at *
  go_wp2
  go_ret
  exact ⟨rfl, rfl⟩

set_option maxRecDepth 100000 in
theorem eq_11 (x0 x1 x2 x3 x4 x5 x6 x8 x9 x10 : Int) (x7 : Bool) (w : World) : (Go.binOp .eql 27 (.agg #[.int .u8 x0, .int .u32 x1, .int .u8 x2, .int .u8 x3, .int .u8 x4, .int .u8 x5, .int .u8 x6, .bool x7, .int .i64 x8, .int .i64 x9, .int .i64 x10]) (.agg #[.int .u8 x0, .int .u32 x1, .int .u8 x2, .int .u8 x3, .int .u8 x4, .int .u8 x5, .int .u8 x6, .bool x7, .int .i64 x8, .int .i64 x9, .int .i64 x10])).run Try.prog w = .ok (.bool true) w := by
  go_simp
set_option maxRecDepth 100000 in
theorem ne_11 (x0 x1 x2 x3 x4 x5 x6 x8 x9 x10 : Int) (x7 : Bool) (w : World) : (Go.binOp .neq 27 (.agg #[.int .u8 x0, .int .u32 x1, .int .u8 x2, .int .u8 x3, .int .u8 x4, .int .u8 x5, .int .u8 x6, .bool x7, .int .i64 x8, .int .i64 x9, .int .i64 x10]) (.agg #[.int .u8 x0, .int .u32 x1, .int .u8 x2, .int .u8 x3, .int .u8 x4, .int .u8 x5, .int .u8 x6, .bool x7, .int .i64 x8, .int .i64 x9, .int .i64 x10])).run Try.prog w = .ok (.bool false) w := by
  go_simp
theorem eq_m (m : Ms) (w : World) : (Go.binOp .eql 27 (.agg (mA m)) (.agg (mA m))).run Try.prog w = .ok (.bool true) w := eq_11 _ _ _ _ _ _ _ _ _ _ _ w
theorem ne_m (m : Ms) (w : World) : (Go.binOp .neq 27 (.agg (mA m)) (.agg (mA m))).run Try.prog w = .ok (.bool false) w := ne_11 _ _ _ _ _ _ _ _ _ _ _ w

end Go.Proofs.Ytohkgfmimpockaa.Msg
