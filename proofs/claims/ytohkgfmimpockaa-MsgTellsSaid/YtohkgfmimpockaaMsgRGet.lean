/- The contracts of msg.Get and of the reference's Get, whatever the bytes: a message, or an error and a zero one. Conditions: bytes are from 0 to 255. -/
import Derived.Test.YtohkgfmimpockaaMsgGet
namespace Go.Proofs.Ytohkgfmimpockaa.Msg
open Go.ChangeShapes Go.WideShapes Go.ChangeAt Go.RowKit Num By

theorem rReadL (A : Option Addr) (n c at_ s : Nat) (a b : Int) (L : Nat → Int) (w : World) (ha : (at_ : Int) = a) (hb : (s : Int) = b) (hs : s = 4 ∨ s = 8) (hn : at_ + s ≤ n) (h : n ≤ 1000) (hL : Byte L) (hP : Bys w w.heap.size A n L) :
    Calls Try.prog 24 #[.slice A n c, .int .i64 a, .int .i64 b] w fun e w' => e = .returned (.int .u64 (num s fun i => L (at_ + i))) ∧ w = w' := by
  subst ha hb; exact rReadC A n c at_ s L w hs hn h hL hP

theorem rGetShort (A : Option Addr) (n c : Nat) (w : World) (hn : n < 40) :
    Calls Try.prog 10 #[.slice A n c] w fun e w' => e = .returned (.tuple #[.agg (mA m0), .int .i64 4]) ∧ Below w.heap.size w w' := by
  have G := Lib.hid (get_new w)
  go_enter Try.func10, Try.ntmps10
  go_wp2_with (first | ((with_reducible refine store_m rfl (.tmp 2) (.tmp 8) rfl w.heap.size m0 m0 G.out.1 ?_ ?_ ?_); rfl; rfl))
  exact bodyPost_ret (v := .tuple #[.agg (mA m0), .int .i64 4]) (ret_me Try.results10 _ _ w.heap.size m0 _ rfl rfl (blk_row G.out.1 _)) rfl ⟨rfl, below_row G.out.2 (Nat.le_refl _) _⟩

theorem rGetLong (A : Option Addr) (n c : Nat) (w : World) (hn : 40 < n) :
    Calls Try.prog 10 #[.slice A n c] w fun e w' => e = .returned (.tuple #[.agg (mA m0), .int .i64 5]) ∧ Below w.heap.size w w' := by
  have G := Lib.hid (get_new w)
  go_enter Try.func10, Try.ntmps10
  go_wp2_with (first | ((with_reducible refine store_m rfl (.tmp 2) (.tmp 18) rfl w.heap.size m0 m0 G.out.1 ?_ ?_ ?_); rfl; rfl))
  exact bodyPost_ret (v := .tuple #[.agg (mA m0), .int .i64 5]) (ret_me Try.results10 _ _ w.heap.size m0 _ rfl rfl (blk_row G.out.1 _)) rfl ⟨rfl, below_row G.out.2 (Nat.le_refl _) _⟩

theorem rGetFirst (b off c : Nat) (L : Nat → Int) (w : World) (hP : Bys w w.heap.size (some ⟨b, off, none⟩) 40 L) (h0 : L 0 ≠ 165) :
    Calls Try.prog 10 #[.slice (some ⟨b, off, none⟩) 40 c] w fun e w' => e = .returned (.tuple #[.agg (mA m0), .int .i64 5]) ∧ Below w.heap.size w w' := by
  have G := Lib.hid (get_new w)
  have c0 := (hP.next G.out.2).cell 0 (by omega)
  rw [Nat.add_zero] at c0
  have d0 : (L 0 != 165) = true := by simpa using h0
  clear hP h0
  go_enter Try.func10, Try.ntmps10
  go_wp2_with (first | ((with_reducible refine store_m rfl (.tmp 2) (.tmp 18) rfl w.heap.size m0 m0 G.out.1 ?_ ?_ ?_); rfl; rfl))
  exact bodyPost_ret (v := .tuple #[.agg (mA m0), .int .i64 5]) (ret_me Try.results10 _ _ w.heap.size m0 _ rfl rfl (blk_row G.out.1 _)) rfl ⟨rfl, below_row G.out.2 (Nat.le_refl _) _⟩

set_option maxRecDepth 100000 in
set_option maxHeartbeats 4000000 in
theorem rGetSum (b off c : Nat) (L : Nat → Int) (w : World) (hc : 40 ≤ c) (hL : Byte L) (hP : Bys w w.heap.size (some ⟨b, off, none⟩) 40 L) (h0 : L 0 = 165) (h1 : sum 36 L ≠ num 4 (fun i => L (36 + i))) :
    Calls Try.prog 10 #[.slice (some ⟨b, off, none⟩) 40 c] w fun e w' => e = .returned (.tuple #[.agg (mA m0), .int .i64 11]) ∧ Below w.heap.size w w' := by
  have G := Lib.hid (get_new w)
  have HP := Lib.hid (hP.next G.out.2)
  have c0 := HP.out.cell 0 (by omega)
  rw [Nat.add_zero] at c0
  have d0 : (L 0 != 165) = false := by rw [h0]; rfl
  have HL := Lib.hid hL
  have d1 : (sum 36 L != num 4 (fun i => L (36 + i))) = true := by simpa using h1
  obtain ⟨s0, s1⟩ := sum_in 36 L
  have n36 : (36 : Int) ≤ (c : Int) := by omega
  have n40 : (40 : Int) ≤ (c : Int) := by omega
  clear hP h0 h1 hL
  go_enter Try.func10, Try.ntmps10
  go_wp2_with fail
  refine (rSumC _ 36 c L _ (by omega) HL.out (HP.out.fewer (by omega))).mono ?_
  rintro e w' ⟨rfl, rfl⟩
  go_wp2_with fail
  refine (rReadL _ 40 c 36 4 _ _ L _ rfl rfl (.inl rfl) (by omega) (by omega) HL.out HP.out).mono ?_
  rintro e w' ⟨rfl, rfl⟩
  go_wp2_with (first | ((with_reducible refine store_m rfl (.tmp 2) (.tmp 26) rfl w.heap.size m0 m0 G.out.1 ?_ ?_ ?_); rfl; rfl))
  exact bodyPost_ret (v := .tuple #[.agg (mA m0), .int .i64 11]) (ret_me Try.results10 _ _ w.heap.size m0 _ rfl rfl (blk_row G.out.1 _)) rfl ⟨rfl, below_row G.out.2 (Nat.le_refl _) _⟩

/-- What the reference's region reads. -/
theorem rt_of {W w' : World} {b off : Nat} {L : Nat → Int} (h : Bys W W.heap.size (some ⟨b, off, none⟩) 40 L) (hb : Below W.heap.size W w') :
    w'.cell? ⟨b, off + 1, none⟩ = some (.int .u8 (L 1)) ∧ w'.cell? ⟨b, off + 6, none⟩ = some (.int .u8 (L 6)) ∧ w'.cell? ⟨b, off + 7, none⟩ = some (.int .u8 (L 7)) ∧ w'.cell? ⟨b, off + 8, none⟩ = some (.int .u8 (L 8)) ∧ w'.cell? ⟨b, off + 9, none⟩ = some (.int .u8 (L 9)) ∧ w'.cell? ⟨b, off + 10, none⟩ = some (.int .u8 (L 10)) ∧ w'.cell? ⟨b, off + 11, none⟩ = some (.int .u8 (L 11)) ∧ Hid (Below W.heap.size W w') := by
  have k := h.below hb
  exact ⟨k.cell 1 (by omega), k.cell 6 (by omega), k.cell 7 (by omega), k.cell 8 (by omega), k.cell 9 (by omega), k.cell 10 (by omega), k.cell 11 (by omega), hb⟩
theorem rt_bys {W w' : World} {b off : Nat} {L : Nat → Int} (h : Bys W W.heap.size (some ⟨b, off, none⟩) 40 L) (hb : Hid (Below W.heap.size W w')) : Bys w' w'.heap.size (some ⟨b, off, none⟩) 40 L := h.next hb.out

/-- A message whose commands are not read yet. -/
abbrev gmC (L : Nat → Int) (x y z : Int) : Ms := ⟨L 1, num 4 fun i => L (2 + i), L 6, L 7, L 8, L 9, L 10, L 11 == 1, x, y, z⟩
structure RgAt (w0 : World) (b off : Nat) (L : Nat → Int) (g : Nat) (w : World) : Prop where
  out : Blk w w0.heap.size (mA m0) 27
  row : Blk w g (mA (gmC L 0 0 0)) 27
  below : Below w0.heap.size w0 w
  bys : Bys w w.heap.size (some ⟨b, off, none⟩) 40 L
  lt : w0.heap.size < g
theorem rg_start {w0 W : World} {b off : Nat} {L : Nat → Int} (h : Blk W w0.heap.size (mA m0) 27 ∧ Below w0.heap.size w0 W) (hP : Bys W W.heap.size (some ⟨b, off, none⟩) 40 L) : RgAt w0 b off L W.heap.size (W.alloc (.cells (mA (gmC L 0 0 0)) 27)).drew := by
  have hb := below_new1 W (.cells (mA (gmC L 0 0 0)) 27)
  exact ⟨blk_kept h.1 hb, blk_drew (blk_alloc W _ _), bthen h.2 hb, hP.next hb, blk_lt h.1⟩
theorem rg_set {w0 w : World} {b off g : Nat} {L : Nat → Int} (h : RgAt w0 b off L g w) (hb : b ≠ g) : GetAt w0 b off L g (((w.setCell ⟨g, 8, none⟩ (.int .i64 (wrap64 (num 8 fun i => L (12 + i))))).setCell ⟨g, 9, none⟩ (.int .i64 (wrap64 (num 8 fun i => L (20 + i))))).setCell ⟨g, 10, none⟩ (.int .i64 (wrap64 (num 8 fun i => L (28 + i))))) := by
  show GetAt w0 b off L g (((w.setCell ⟨g, 8, none⟩ (.int .i64 (gm L).side)).setCell ⟨g, 9, none⟩ (.int .i64 (gm L).sink)).setCell ⟨g, 10, none⟩ (.int .i64 (gm L).turn))
  have ne : w0.heap.size ≠ g := Nat.ne_of_lt h.lt
  have o1 := blk_far h.out 8 (.int .i64 (gm L).side) ne
  have o2 := blk_far o1 9 (.int .i64 (gm L).sink) ne
  have o3 := blk_far o2 10 (.int .i64 (gm L).turn) ne
  have b1 := below_set1 h.below (Nat.le_of_lt h.lt) 8 (.int .i64 (gm L).side)
  have b2 := below_set1 b1 (Nat.le_of_lt h.lt) 9 (.int .i64 (gm L).sink)
  have b3 := below_set1 b2 (Nat.le_of_lt h.lt) 10 (.int .i64 (gm L).turn)
  have r1 := blk_set1 (vs := mA (gmC L (gm L).side 0 0)) h.row 8 (.int .i64 (gm L).side) rfl
  have r2 := blk_set1 (vs := mA (gmC L (gm L).side (gm L).sink 0)) r1 9 (.int .i64 (gm L).sink) rfl
  have r3 := blk_set1 (vs := mA (gm L)) r2 10 (.int .i64 (gm L).turn) rfl
  refine ⟨o3, r3, b3, ?_⟩
  intro hn
  obtain ⟨b', off', he, hlt, hc⟩ := h.bys hn
  replace he := Option.some.inj he
  injection he with e1 e2
  subst e1 e2
  refine ⟨b, off, rfl, by simpa using hlt, fun i hi => ?_⟩
  rw [World.cell?_setCell_far _ _ _ _ (by simp; omega), World.cell?_setCell_far _ _ _ _ (by simp; omega), World.cell?_setCell_far _ _ _ _ (by simp; omega)]
  exact hc i hi

set_option maxRecDepth 100000 in
set_option maxHeartbeats 4000000 in
theorem rGetEng (b off c : Nat) (L : Nat → Int) (w : World) (hc : 40 ≤ c) (hL : Byte L) (hP : Bys w w.heap.size (some ⟨b, off, none⟩) 40 L) (h0 : L 0 = 165) (h1 : sum 36 L = num 4 (fun i => L (36 + i))) (h2 : 1 < L 11) :
    Calls Try.prog 10 #[.slice (some ⟨b, off, none⟩) 40 c] w fun e w' => e = .returned (.tuple #[.agg (mA m0), .int .i64 5]) ∧ Below w.heap.size w w' := by
  have G := Lib.hid (get_new w)
  have HP := Lib.hid (hP.next G.out.2)
  have c0 := HP.out.cell 0 (by omega)
  rw [Nat.add_zero] at c0
  have d0 : (L 0 != 165) = false := by rw [h0]; rfl
  have HL := Lib.hid hL
  have d1 : (sum 36 L != num 4 (fun i => L (36 + i))) = false := by simpa using h1
  obtain ⟨s0, s1⟩ := sum_in 36 L
  have n36 : (36 : Int) ≤ (c : Int) := by omega
  have n40 : (40 : Int) ≤ (c : Int) := by omega
  clear hP h0 h1 hL
  go_enter Try.func10, Try.ntmps10
  go_wp2_with fail
  refine (rSumC _ 36 c L _ (by omega) HL.out (HP.out.fewer (by omega))).mono ?_
  rintro e w' ⟨rfl, rfl⟩
  go_wp2_with fail
  refine (rReadL _ 40 c 36 4 _ _ L _ rfl rfl (.inl rfl) (by omega) (by omega) HL.out HP.out).mono ?_
  rintro e w' ⟨rfl, rfl⟩
  obtain ⟨f0, f1⟩ := num_in (off_byte HL.out 2) 4
  have f2 : (num 4 fun i => L (2 + i)) < 4294967296 := by simpa using f1
  have fw : IntKind.u32.wrap (num 4 fun i => L (2 + i)) = num 4 fun i => L (2 + i) := wraps_u32 _ f0 f2
  have nb : b ≠ (w.alloc (.cells (mA m0) 27)).heap.size := by
    obtain ⟨b', off', he, hlt, _⟩ := HP.out (by omega)
    replace he := Option.some.inj he
    injection he with e1 e2
    omega
  have NB := Lib.hid nb
  clear f1 nb
  go_wp2
  clear c0 d0 d1 s0 s1
  generalize w.alloc (.cells #[.int .u8 0, .int .u32 0, .int .u8 0, .int .u8 0, .int .u8 0, .int .u8 0, .int .u8 0, .bool false, .int .i64 0, .int .i64 0, .int .i64 0] 27) = W at *
  go_region_held3 (fun w' => w'.cell? ⟨b, off + 1, none⟩ = some (.int .u8 (L 1)) ∧ w'.cell? ⟨b, off + 6, none⟩ = some (.int .u8 (L 6)) ∧ w'.cell? ⟨b, off + 7, none⟩ = some (.int .u8 (L 7)) ∧ w'.cell? ⟨b, off + 8, none⟩ = some (.int .u8 (L 8)) ∧ w'.cell? ⟨b, off + 9, none⟩ = some (.int .u8 (L 9)) ∧ w'.cell? ⟨b, off + 10, none⟩ = some (.int .u8 (L 10)) ∧ w'.cell? ⟨b, off + 11, none⟩ = some (.int .u8 (L 11)) ∧ Hid (Below W.heap.size W w'))
    (first
      | (with_reducible assumption)
      | ((try go_split_ands); refine rt_of HP.out ?_; first | (with_reducible exact below_new1 _ _) | (with_reducible exact below_more (by assumption) _) | (with_reducible exact below_start _)))
    (first
      | (go_at_call 24; refine (rReadL _ 40 c 2 4 _ _ L _ rfl rfl (.inl rfl) (by omega) (by omega) HL.out ?_).mono ?_; (go_split_ands; exact rt_bys HP.out (by assumption)); rintro e w' ⟨rfl, rfl⟩))
  all_goals
    have E0 := Lib.hid (rg_start G.out HP.out)
    clear f0 f2 fw
    generalize (W.alloc _).drew = V at *
    generalize W.heap.size = g at *
    have z8 := blk_cell E0.out.row (o := 8) (v := .int .i64 0) rfl
    have z9 := blk_cell E0.out.row (o := 9) (v := .int .i64 0) rfl
    have z10 := blk_cell E0.out.row (o := 10) (v := .int .i64 0) rfl
    have y8 := blk_free E0.out.row 8
    have y9 := blk_free E0.out.row 9
    have y10 := blk_free E0.out.row 10
    have es : Hid (wrap64 (num 8 fun i => L (12 + i)) = (gm L).side) := rfl
    have ek : Hid (wrap64 (num 8 fun i => L (20 + i)) = (gm L).sink) := rfl
    have et : Hid (wrap64 (num 8 fun i => L (28 + i)) = (gm L).turn) := rfl
    go_wp2_with fail
    refine (rReadL _ 40 c 12 8 _ _ L _ rfl rfl (.inr rfl) (by omega) (by omega) HL.out E0.out.bys).mono ?_
    rintro e w' ⟨rfl, rfl⟩
    go_wp2_with fail
    refine (rReadL _ 40 c 20 8 _ _ L _ rfl rfl (.inr rfl) (by omega) (by omega) HL.out E0.out.bys).mono ?_
    rintro e w' ⟨rfl, rfl⟩
    go_wp2_with fail
    refine (rReadL _ 40 c 28 8 _ _ L _ rfl rfl (.inr rfl) (by omega) (by omega) HL.out E0.out.bys).mono ?_
    rintro e w' ⟨rfl, rfl⟩
    have E := Lib.hid (rg_set E0.out NB.out)
    have c1 := E.out.bys.cell 11 (by omega)
    go_wp2_with (first | ((with_reducible refine store_m rfl (.tmp 2) (.tmp 74) rfl w.heap.size m0 m0 E.out.out ?_ ?_ ?_); rfl; rfl))
    exact bodyPost_ret (v := .tuple #[.agg (mA m0), .int .i64 5]) (ret_me Try.results10 _ _ w.heap.size m0 _ rfl rfl (blk_row E.out.out _)) rfl ⟨rfl, below_row E.out.below (Nat.le_refl _) _⟩

set_option maxRecDepth 100000 in
set_option maxHeartbeats 4000000 in
theorem rGetMayNo (b off c : Nat) (L : Nat → Int) (w : World) (hc : 40 ≤ c) (hL : Byte L) (hP : Bys w w.heap.size (some ⟨b, off, none⟩) 40 L) (h0 : L 0 = 165) (h1 : sum 36 L = num 4 (fun i => L (36 + i))) (h2 : L 11 ≤ 1) (hm : may (gm L) = false) :
    Calls Try.prog 10 #[.slice (some ⟨b, off, none⟩) 40 c] w fun e w' => e = .returned (.tuple #[.agg (mA m0), .int .i64 5]) ∧ Below w.heap.size w w' := by
  have G := Lib.hid (get_new w)
  have HP := Lib.hid (hP.next G.out.2)
  have c0 := HP.out.cell 0 (by omega)
  rw [Nat.add_zero] at c0
  have d0 : (L 0 != 165) = false := by rw [h0]; rfl
  have HL := Lib.hid hL
  have d1 : (sum 36 L != num 4 (fun i => L (36 + i))) = false := by simpa using h1
  obtain ⟨s0, s1⟩ := sum_in 36 L
  have n36 : (36 : Int) ≤ (c : Int) := by omega
  have n40 : (40 : Int) ≤ (c : Int) := by omega
  clear hP h0 h1 hL
  have HM := Lib.hid hm
  clear hm
  go_enter Try.func10, Try.ntmps10
  go_wp2_with fail
  refine (rSumC _ 36 c L _ (by omega) HL.out (HP.out.fewer (by omega))).mono ?_
  rintro e w' ⟨rfl, rfl⟩
  go_wp2_with fail
  refine (rReadL _ 40 c 36 4 _ _ L _ rfl rfl (.inl rfl) (by omega) (by omega) HL.out HP.out).mono ?_
  rintro e w' ⟨rfl, rfl⟩
  obtain ⟨f0, f1⟩ := num_in (off_byte HL.out 2) 4
  have f2 : (num 4 fun i => L (2 + i)) < 4294967296 := by simpa using f1
  have fw : IntKind.u32.wrap (num 4 fun i => L (2 + i)) = num 4 fun i => L (2 + i) := wraps_u32 _ f0 f2
  have nb : b ≠ (w.alloc (.cells (mA m0) 27)).heap.size := by
    obtain ⟨b', off', he, hlt, _⟩ := HP.out (by omega)
    replace he := Option.some.inj he
    injection he with e1 e2
    omega
  have NB := Lib.hid nb
  clear f1 nb
  go_wp2
  clear c0 d0 d1 s0 s1
  generalize w.alloc (.cells #[.int .u8 0, .int .u32 0, .int .u8 0, .int .u8 0, .int .u8 0, .int .u8 0, .int .u8 0, .bool false, .int .i64 0, .int .i64 0, .int .i64 0] 27) = W at *
  go_region_held3 (fun w' => w'.cell? ⟨b, off + 1, none⟩ = some (.int .u8 (L 1)) ∧ w'.cell? ⟨b, off + 6, none⟩ = some (.int .u8 (L 6)) ∧ w'.cell? ⟨b, off + 7, none⟩ = some (.int .u8 (L 7)) ∧ w'.cell? ⟨b, off + 8, none⟩ = some (.int .u8 (L 8)) ∧ w'.cell? ⟨b, off + 9, none⟩ = some (.int .u8 (L 9)) ∧ w'.cell? ⟨b, off + 10, none⟩ = some (.int .u8 (L 10)) ∧ w'.cell? ⟨b, off + 11, none⟩ = some (.int .u8 (L 11)) ∧ Hid (Below W.heap.size W w'))
    (first
      | (with_reducible assumption)
      | ((try go_split_ands); refine rt_of HP.out ?_; first | (with_reducible exact below_new1 _ _) | (with_reducible exact below_more (by assumption) _) | (with_reducible exact below_start _)))
    (first
      | (go_at_call 24; refine (rReadL _ 40 c 2 4 _ _ L _ rfl rfl (.inl rfl) (by omega) (by omega) HL.out ?_).mono ?_; (go_split_ands; exact rt_bys HP.out (by assumption)); rintro e w' ⟨rfl, rfl⟩))
  all_goals
    have E0 := Lib.hid (rg_start G.out HP.out)
    clear f0 f2 fw
    generalize (W.alloc _).drew = V at *
    generalize W.heap.size = g at *
    have z8 := blk_cell E0.out.row (o := 8) (v := .int .i64 0) rfl
    have z9 := blk_cell E0.out.row (o := 9) (v := .int .i64 0) rfl
    have z10 := blk_cell E0.out.row (o := 10) (v := .int .i64 0) rfl
    have y8 := blk_free E0.out.row 8
    have y9 := blk_free E0.out.row 9
    have y10 := blk_free E0.out.row 10
    have es : Hid (wrap64 (num 8 fun i => L (12 + i)) = (gm L).side) := rfl
    have ek : Hid (wrap64 (num 8 fun i => L (20 + i)) = (gm L).sink) := rfl
    have et : Hid (wrap64 (num 8 fun i => L (28 + i)) = (gm L).turn) := rfl
    go_wp2_with fail
    refine (rReadL _ 40 c 12 8 _ _ L _ rfl rfl (.inr rfl) (by omega) (by omega) HL.out E0.out.bys).mono ?_
    rintro e w' ⟨rfl, rfl⟩
    go_wp2_with fail
    refine (rReadL _ 40 c 20 8 _ _ L _ rfl rfl (.inr rfl) (by omega) (by omega) HL.out E0.out.bys).mono ?_
    rintro e w' ⟨rfl, rfl⟩
    go_wp2_with fail
    refine (rReadL _ 40 c 28 8 _ _ L _ rfl rfl (.inr rfl) (by omega) (by omega) HL.out E0.out.bys).mono ?_
    rintro e w' ⟨rfl, rfl⟩
    have E := Lib.hid (rg_set E0.out NB.out)
    have c1 := E.out.bys.cell 11 (by omega)
    go_wp2_with (first | ((with_reducible refine load_mg (.tmp 4) rfl g (gm L) E.out.row ?_ ?_ ?_); (simp [Region.wanted, yielded, h2]); rfl))
    refine (rMayM HM.out _).mono ?_
    rintro e v2 ⟨rfl, b2⟩
    have E2 := Lib.hid (get_call E.out b2)
    clear b2 E c1
    go_wp2_with (first | ((with_reducible refine store_m rfl (.tmp 2) (.tmp 74) rfl w.heap.size m0 m0 E2.out.out ?_ ?_ ?_); rfl; rfl))
    exact bodyPost_ret (v := .tuple #[.agg (mA m0), .int .i64 5]) (ret_me Try.results10 _ _ w.heap.size m0 _ rfl rfl (blk_row E2.out.out _)) rfl ⟨rfl, below_row E2.out.below (Nat.le_refl _) _⟩

set_option maxRecDepth 100000 in
set_option maxHeartbeats 4000000 in
theorem rGetYes (b off c : Nat) (L : Nat → Int) (w : World) (hc : 40 ≤ c) (hL : Byte L) (hP : Bys w w.heap.size (some ⟨b, off, none⟩) 40 L) (h0 : L 0 = 165) (h1 : sum 36 L = num 4 (fun i => L (36 + i))) (h2 : L 11 ≤ 1) (hm : may (gm L) = true) :
    Calls Try.prog 10 #[.slice (some ⟨b, off, none⟩) 40 c] w fun e w' => e = .returned (.tuple #[.agg (mA (gm L)), .int .i64 0]) ∧ Below w.heap.size w w' := by
  have G := Lib.hid (get_new w)
  have HP := Lib.hid (hP.next G.out.2)
  have c0 := HP.out.cell 0 (by omega)
  rw [Nat.add_zero] at c0
  have d0 : (L 0 != 165) = false := by rw [h0]; rfl
  have HL := Lib.hid hL
  have d1 : (sum 36 L != num 4 (fun i => L (36 + i))) = false := by simpa using h1
  obtain ⟨s0, s1⟩ := sum_in 36 L
  have n36 : (36 : Int) ≤ (c : Int) := by omega
  have n40 : (40 : Int) ≤ (c : Int) := by omega
  clear hP h0 h1 hL
  have HM := Lib.hid hm
  clear hm
  go_enter Try.func10, Try.ntmps10
  go_wp2_with fail
  refine (rSumC _ 36 c L _ (by omega) HL.out (HP.out.fewer (by omega))).mono ?_
  rintro e w' ⟨rfl, rfl⟩
  go_wp2_with fail
  refine (rReadL _ 40 c 36 4 _ _ L _ rfl rfl (.inl rfl) (by omega) (by omega) HL.out HP.out).mono ?_
  rintro e w' ⟨rfl, rfl⟩
  obtain ⟨f0, f1⟩ := num_in (off_byte HL.out 2) 4
  have f2 : (num 4 fun i => L (2 + i)) < 4294967296 := by simpa using f1
  have fw : IntKind.u32.wrap (num 4 fun i => L (2 + i)) = num 4 fun i => L (2 + i) := wraps_u32 _ f0 f2
  have nb : b ≠ (w.alloc (.cells (mA m0) 27)).heap.size := by
    obtain ⟨b', off', he, hlt, _⟩ := HP.out (by omega)
    replace he := Option.some.inj he
    injection he with e1 e2
    omega
  have NB := Lib.hid nb
  clear f1 nb
  go_wp2
  clear c0 d0 d1 s0 s1
  generalize w.alloc (.cells #[.int .u8 0, .int .u32 0, .int .u8 0, .int .u8 0, .int .u8 0, .int .u8 0, .int .u8 0, .bool false, .int .i64 0, .int .i64 0, .int .i64 0] 27) = W at *
  go_region_held3 (fun w' => w'.cell? ⟨b, off + 1, none⟩ = some (.int .u8 (L 1)) ∧ w'.cell? ⟨b, off + 6, none⟩ = some (.int .u8 (L 6)) ∧ w'.cell? ⟨b, off + 7, none⟩ = some (.int .u8 (L 7)) ∧ w'.cell? ⟨b, off + 8, none⟩ = some (.int .u8 (L 8)) ∧ w'.cell? ⟨b, off + 9, none⟩ = some (.int .u8 (L 9)) ∧ w'.cell? ⟨b, off + 10, none⟩ = some (.int .u8 (L 10)) ∧ w'.cell? ⟨b, off + 11, none⟩ = some (.int .u8 (L 11)) ∧ Hid (Below W.heap.size W w'))
    (first
      | (with_reducible assumption)
      | ((try go_split_ands); refine rt_of HP.out ?_; first | (with_reducible exact below_new1 _ _) | (with_reducible exact below_more (by assumption) _) | (with_reducible exact below_start _)))
    (first
      | (go_at_call 24; refine (rReadL _ 40 c 2 4 _ _ L _ rfl rfl (.inl rfl) (by omega) (by omega) HL.out ?_).mono ?_; (go_split_ands; exact rt_bys HP.out (by assumption)); rintro e w' ⟨rfl, rfl⟩))
  all_goals
    have E0 := Lib.hid (rg_start G.out HP.out)
    clear f0 f2 fw
    generalize (W.alloc _).drew = V at *
    generalize W.heap.size = g at *
    have z8 := blk_cell E0.out.row (o := 8) (v := .int .i64 0) rfl
    have z9 := blk_cell E0.out.row (o := 9) (v := .int .i64 0) rfl
    have z10 := blk_cell E0.out.row (o := 10) (v := .int .i64 0) rfl
    have y8 := blk_free E0.out.row 8
    have y9 := blk_free E0.out.row 9
    have y10 := blk_free E0.out.row 10
    have es : Hid (wrap64 (num 8 fun i => L (12 + i)) = (gm L).side) := rfl
    have ek : Hid (wrap64 (num 8 fun i => L (20 + i)) = (gm L).sink) := rfl
    have et : Hid (wrap64 (num 8 fun i => L (28 + i)) = (gm L).turn) := rfl
    go_wp2_with fail
    refine (rReadL _ 40 c 12 8 _ _ L _ rfl rfl (.inr rfl) (by omega) (by omega) HL.out E0.out.bys).mono ?_
    rintro e w' ⟨rfl, rfl⟩
    go_wp2_with fail
    refine (rReadL _ 40 c 20 8 _ _ L _ rfl rfl (.inr rfl) (by omega) (by omega) HL.out E0.out.bys).mono ?_
    rintro e w' ⟨rfl, rfl⟩
    go_wp2_with fail
    refine (rReadL _ 40 c 28 8 _ _ L _ rfl rfl (.inr rfl) (by omega) (by omega) HL.out E0.out.bys).mono ?_
    rintro e w' ⟨rfl, rfl⟩
    have E := Lib.hid (rg_set E0.out NB.out)
    have c1 := E.out.bys.cell 11 (by omega)
    go_wp2_with (first | ((with_reducible refine load_mg (.tmp 4) rfl g (gm L) E.out.row ?_ ?_ ?_); (simp [Region.wanted, yielded, h2]); rfl))
    refine (rMayM HM.out _).mono ?_
    rintro e v2 ⟨rfl, b2⟩
    have E2 := Lib.hid (get_call E.out b2)
    clear b2 E c1
    go_wp2_with (first | ((with_reducible refine load_m rfl (.tmp 4) rfl g (gm L) E2.out.row ?_ ?_); rfl) | ((with_reducible refine store_m rfl (.tmp 2) (.tmp 75) rfl w.heap.size (gm L) m0 E2.out.out ?_ ?_ ?_); rfl; rfl))
    exact bodyPost_ret (v := .tuple #[.agg (mA (gm L)), .int .i64 0]) (ret_me Try.results10 _ _ w.heap.size (gm L) _ rfl rfl (blk_row E2.out.out _)) rfl ⟨rfl, below_row E2.out.below (Nat.le_refl _) _⟩

end Go.Proofs.Ytohkgfmimpockaa.Msg
