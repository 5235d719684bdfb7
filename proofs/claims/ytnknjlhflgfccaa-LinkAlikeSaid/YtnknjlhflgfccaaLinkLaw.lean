/- The walk of the law LinkAlike: it returns true and turns nothing that was there. Conditions: the arguments are what their types allow. -/
import Derived.Test.YtnknjlhflgfccaaLinkAt
import Derived.Test.YtnknjlhflgfccaaLinkLives
import Derived.Deep.CutRange
import Derived.Deep.RegionHeld3
namespace Go.Proofs.Ytnknjlhflgfccaa.Link
open Go.ChangeShapes Go.WideShapes Go.ChangeAt Go.RowKit Num By Msg

/-- The loop's places. -/
def AtN (w0 : World) (a b c m : Nat) (p q r : Value) (w : World) : Prop :=
  ∃ ab ba n : Nat, ∃ L : Nat → Lk, p = .int .i64 (ab : Int) ∧ q = .int .i64 (ba : Int) ∧ r = .int .i64 (n : Int) ∧ n ≤ m ∧ n ≤ 200 ∧ Inv a b c n ab ba L ∧ A1 w0 L w

theorem a2_z {w0 w : World} {L : Nat → Lk} (_ : A1 w0 L w) : Blk (w.alloc (.cells z22 40)) w.heap.size (btA b0) 40 := blk_alloc w z22 _

theorem a1_drew {w0 w : World} {L : Nat → Lk} (h : A1 w0 L w) : A1 w0 L w.drew := ⟨below_drewN h.below 1, h.hl⟩
theorem inv_fix {a b c n ab ba ab2 ba2 : Nat} {L : Nat → Lk} {M : Nat → Ms} {x : Bt} (T : Abc a b c) (I : Inv a b c n ab ba L) (S : Says a b c n L M) (hn : n ≤ 1000) (F : ab2 = rowP ab (x.lost a b) ∧ (x.lost a b = true → ab + 1 ≤ 3) ∧ ba2 = rowP ba (x.lost b a) ∧ (x.lost b a = true → ba + 1 ≤ 3)) :
    Inv a b c (n + 1) ab2 ba2 (nextL x c M L) := by
  obtain ⟨rfl, h1, rfl, h2⟩ := F
  exact inv_next T I S hn x h1 h2
theorem alives {a b c n ab ba : Nat} {N : Nat → Lk} (T : Abc a b c) (I : Inv a b c n ab ba N) : ∃ V : Nat → Bool,
    (∀ W, Calls Try.prog 9 #[.agg (lkA (N a))] W fun e w' => e = .returned (.agg (b3A V)) ∧ Below W.heap.size W w') ∧
    (∀ W, Calls Try.prog 9 #[.agg (lkA (N b))] W fun e w' => e = .returned (.agg (b3A V)) ∧ Below W.heap.size W w') ∧ V b = true ∧ V a = true := by
  obtain ⟨h1, h2, h3⟩ := inv_alive T I
  refine ⟨aliveL (N a), fun W => aliveC (N a) (by rw [I.own a T.a3]; exact T.a3) W, fun W => ?_, h1, if_pos (I.own a T.a3).symm⟩
  rw [h3]
  exact aliveC (N b) (by rw [I.own b T.b3]; exact T.b3) W
theorem cells_33 {w : World} {g : Nat} {N : Nat → Lk} (K : Blk w g (l33 N) 28) {a : Nat} (ha : a < 3) : w.cell? ⟨g, a * 11, none⟩ = some (.int .i64 ((N a).own : Int)) ∧ w.cell? ⟨g, a * 11 + 1, none⟩ = some (.int .u32 (N a).fr) ∧ w.cell? ⟨g, a * 11 + 2, none⟩ = some (.int .u32 ((N a).h 0 0)) ∧ w.cell? ⟨g, a * 11 + 3, none⟩ = some (.int .u32 ((N a).h 0 1)) ∧ w.cell? ⟨g, a * 11 + 4, none⟩ = some (.int .u32 ((N a).h 0 2)) ∧ w.cell? ⟨g, a * 11 + 5, none⟩ = some (.int .u32 ((N a).h 1 0)) ∧ w.cell? ⟨g, a * 11 + 6, none⟩ = some (.int .u32 ((N a).h 1 1)) ∧ w.cell? ⟨g, a * 11 + 7, none⟩ = some (.int .u32 ((N a).h 1 2)) ∧ w.cell? ⟨g, a * 11 + 8, none⟩ = some (.int .u32 ((N a).h 2 0)) ∧ w.cell? ⟨g, a * 11 + 9, none⟩ = some (.int .u32 ((N a).h 2 1)) ∧ w.cell? ⟨g, a * 11 + 10, none⟩ = some (.int .u32 ((N a).h 2 2)) :=
  ⟨blk_cell K (o := a * 11) (l33_at N a 0 ha (by decide)), blk_cell K (l33_at N a 1 ha (by decide)), blk_cell K (l33_at N a 2 ha (by decide)), blk_cell K (l33_at N a 3 ha (by decide)), blk_cell K (l33_at N a 4 ha (by decide)), blk_cell K (l33_at N a 5 ha (by decide)), blk_cell K (l33_at N a 6 ha (by decide)), blk_cell K (l33_at N a 7 ha (by decide)), blk_cell K (l33_at N a 8 ha (by decide)), blk_cell K (l33_at N a 9 ha (by decide)), blk_cell K (l33_at N a 10 ha (by decide))⟩
theorem s22 {w0 w' : World} {N : Nat → Lk} (h : A1 w0 N w') {a b : Nat} (ha : a < 3) (hb : b < 3) : w'.cell? ⟨w0.heap.size, a * 11, none⟩ = some (.int .i64 ((N a).own : Int)) ∧ w'.cell? ⟨w0.heap.size, a * 11 + 1, none⟩ = some (.int .u32 (N a).fr) ∧ w'.cell? ⟨w0.heap.size, a * 11 + 2, none⟩ = some (.int .u32 ((N a).h 0 0)) ∧ w'.cell? ⟨w0.heap.size, a * 11 + 3, none⟩ = some (.int .u32 ((N a).h 0 1)) ∧ w'.cell? ⟨w0.heap.size, a * 11 + 4, none⟩ = some (.int .u32 ((N a).h 0 2)) ∧ w'.cell? ⟨w0.heap.size, a * 11 + 5, none⟩ = some (.int .u32 ((N a).h 1 0)) ∧ w'.cell? ⟨w0.heap.size, a * 11 + 6, none⟩ = some (.int .u32 ((N a).h 1 1)) ∧ w'.cell? ⟨w0.heap.size, a * 11 + 7, none⟩ = some (.int .u32 ((N a).h 1 2)) ∧ w'.cell? ⟨w0.heap.size, a * 11 + 8, none⟩ = some (.int .u32 ((N a).h 2 0)) ∧ w'.cell? ⟨w0.heap.size, a * 11 + 9, none⟩ = some (.int .u32 ((N a).h 2 1)) ∧ w'.cell? ⟨w0.heap.size, a * 11 + 10, none⟩ = some (.int .u32 ((N a).h 2 2)) ∧ w'.cell? ⟨w0.heap.size, b * 11, none⟩ = some (.int .i64 ((N b).own : Int)) ∧ w'.cell? ⟨w0.heap.size, b * 11 + 1, none⟩ = some (.int .u32 (N b).fr) ∧ w'.cell? ⟨w0.heap.size, b * 11 + 2, none⟩ = some (.int .u32 ((N b).h 0 0)) ∧ w'.cell? ⟨w0.heap.size, b * 11 + 3, none⟩ = some (.int .u32 ((N b).h 0 1)) ∧ w'.cell? ⟨w0.heap.size, b * 11 + 4, none⟩ = some (.int .u32 ((N b).h 0 2)) ∧ w'.cell? ⟨w0.heap.size, b * 11 + 5, none⟩ = some (.int .u32 ((N b).h 1 0)) ∧ w'.cell? ⟨w0.heap.size, b * 11 + 6, none⟩ = some (.int .u32 ((N b).h 1 1)) ∧ w'.cell? ⟨w0.heap.size, b * 11 + 7, none⟩ = some (.int .u32 ((N b).h 1 2)) ∧ w'.cell? ⟨w0.heap.size, b * 11 + 8, none⟩ = some (.int .u32 ((N b).h 2 0)) ∧ w'.cell? ⟨w0.heap.size, b * 11 + 9, none⟩ = some (.int .u32 ((N b).h 2 1)) ∧ w'.cell? ⟨w0.heap.size, b * 11 + 10, none⟩ = some (.int .u32 ((N b).h 2 2)) := by
  obtain ⟨p0, p1, p2, p3, p4, p5, p6, p7, p8, p9, p10⟩ := cells_33 h.hl ha
  exact ⟨p0, p1, p2, p3, p4, p5, p6, p7, p8, p9, p10, cells_33 h.hl hb⟩
theorem k_m {w0 w : World} {gx gs gn : Nat} {L N : Nat → Lk} {x : Bt} {M : Nat → Ms} (_ : A4 w0 gx gs gn L x M N w) (j : Nat) (_ : j < 3) : Blk (w.alloc (.cells (mA (M j)) 38)) w.heap.size (mA (M j)) 38 := blk_alloc w _ _
theorem fixes (x : Bt) {a b ab ba : Nat} (hne : a ≠ b) (ha : ab ≤ 3) (hb : ba ≤ 3) :
    fixN x a b ab = rowP ab ((fixX (fixX x a b ab) b a ba).lost a b) ∧ ((fixX (fixX x a b ab) b a ba).lost a b = true → ab + 1 ≤ 3) ∧ fixN (fixX x a b ab) b a ba = rowP ba ((fixX (fixX x a b ab) b a ba).lost b a) ∧ ((fixX (fixX x a b ab) b a ba).lost b a = true → ba + 1 ≤ 3) := by
  have e : (fixX (fixX x a b ab) b a ba).lost a b = (fixX x a b ab).lost a b := fix_other fun q => hne q.1
  rw [e]
  have h1 := fix_is (x := x) (a := a) (b := b) ha
  have h2 := fix_is (x := fixX x a b ab) (a := b) (b := a) hb
  exact ⟨h1.1, h1.2, h2.1, h2.2⟩
theorem okX_fix {x : Bt} (h : OkX x) (a b n : Nat) : OkX (fixX x a b n) := by
  unfold fixX
  split
  · exact h
  · exact h

set_option maxRecDepth 100000 in
set_option maxHeartbeats 20000000 in
theorem alikeLaw (third : Int) (A : Option Addr) (m cap : Nat) (X : Nat → Bt) (w : World) (t0 : 0 ≤ third) (t1 : third < 256) (hX : ∀ i, i < m → OkX (X i)) (hP : Bts w w.heap.size A m X) :
    Calls Try.prog 3 #[.int .u8 third, .slice A m cap] w fun e w' => e = .returned (.bool true) ∧ Below w.heap.size w w' := by
  obtain ⟨c, ec, c3⟩ : ∃ c : Nat, third % 3 = (c : Int) ∧ c < 3 := ⟨(third % 3).toNat, by omega, by omega⟩
  obtain ⟨a, ea, a3⟩ : ∃ a : Nat, ((c : Int) + 1) % 3 = (a : Int) ∧ a < 3 := ⟨(((c : Int) + 1) % 3).toNat, by omega, by omega⟩
  obtain ⟨b, eb, b3⟩ : ∃ b : Nat, ((c : Int) + 2) % 3 = (b : Int) ∧ b < 3 := ⟨(((c : Int) + 2) % 3).toNat, by omega, by omega⟩
  have HT := Lib.hid (show Abc a b c from ⟨a3, b3, c3, by omega, by omega, by omega⟩)
  have HX := Lib.hid hX
  have HP := Lib.hid hP
  have K0 := Lib.hid (a1_begin w newL)
  have c0 : (0 : Int) ≤ (c : Int) := Int.natCast_nonneg _
  have c1 : (c : Int) < 3 := by omega
  have a0 : (0 : Int) ≤ (a : Int) := Int.natCast_nonneg _
  have a1 : (a : Int) < 3 := by omega
  have b0 : (0 : Int) ≤ (b : Int) := Int.natCast_nonneg _
  have b1 : (b : Int) < 3 := by omega
  have m0 : (0 : Int) ≤ (m : Int) := Int.natCast_nonneg _
  clear hX hP a3 b3 c3
  go_enter Try.func3, Try.ntmps3
  go_wp2
  rw [ea, eb]
  clear ec ea eb t0 t1
  generalize World.alloc w _ = W0 at *
  go_loopw [9] (fun v wr => ∃ i : Nat, v = .int .i64 i ∧ i ≤ 3 ∧ A1 w (mixF zL newL i) wr) (fun v _ => 3 - (intOf v).toNat)
  case atStart => exact ⟨0, rfl, by omega, K0.out⟩
  case round =>
    rename_i wr
    obtain ⟨i, rfl, hi, A⟩ := hrel
    have HA := Lib.hid A
    clear A K0
    by_cases hi3 : i < 3
    · have i0 : (0 : Int) ≤ (i : Int) := Int.natCast_nonneg _
      have i3 : (i : Int) < 3 := by omega
      go_wp2_with fail
      refine (newC i hi3 _).mono ?_
      rintro e w1 ⟨rfl, bb⟩
      have KB := Lib.hid (blk_alloc w1 (lkA (newL i)) 27)
      have HB := Lib.hid (a1_call HA.out (below_new bb (.cells (lkA (newL i)) 27)))
      clear bb HA
      go_wp2_with (first | ((with_reducible refine load_l rfl (.tmp 10) rfl w1.heap.size _ KB.out ?_ ?_); rfl) | ((with_reducible refine store_lp rfl (.tmp 44) (.tmp 43) rfl w.heap.size i _ (newL i) hi3 HB.out.hl ?_ ?_ ?_); rfl; rfl))
      go_roundw
      case rel => exact ⟨i + 1, by go_num, by omega, a1_put HB.out hi3⟩
      case measure => simp [intOf]; omega
    · obtain rfl : i = 3 := by omega
      have e3 : ((3 : Nat) : Int) = 3 := rfl
      rw [e3]
      have HB := Lib.hid (a1_as HA.out (mixF_3 zL newL))
      clear HA
      go_wp2
      clear e3
      go_loopw [12, 13, 14] (fun p q r wn => AtN w a b c m p q r wn) (fun _ _ r _ => 200 - (intOf r).toNat)
      case atStart => exact ⟨0, 0, 0, newL, rfl, rfl, rfl, Nat.zero_le _, Nat.zero_le _, inv_new a b c, HB.out⟩
      case round =>
        obtain ⟨ab, ba, n, L, rfl, rfl, rfl, hm, h2, I, A⟩ := hrel
        have HA := Lib.hid A
        have HI := Lib.hid I
        clear A I HB
        have n0 : (0 : Int) ≤ (n : Int) := Int.natCast_nonneg _
        have p0 : (0 : Int) ≤ (ab : Int) := Int.natCast_nonneg _
        have q0 : (0 : Int) ≤ (ba : Int) := Int.natCast_nonneg _
        have p3 : (ab : Int) ≤ 3 := by have := HI.out.la; omega
        have q3 : (ba : Int) ≤ 3 := by have := HI.out.lb; omega
        by_cases hnm : n < m
        · by_cases hn2 : n < 200
          · have n1 : (n : Int) < (m : Int) := by omega
            have n2 : (n : Int) < 200 := by omega
            have HOX := Lib.hid (HX.out n hnm)
            obtain ⟨bb, off, rfl, hlt, hr⟩ := HP.out (by omega)
            have HR := Lib.hid (range_below (hr n hnm) HA.out.below hlt)
            clear hr
            have HB := Lib.hid (a2_of HA.out (X n))
            have KZ := Lib.hid (a2_z HA.out)
            clear HA
            generalize X n = x at *
            go_wp2_with (first | ((with_reducible refine load_bt rfl (.tmp 57) rfl bb (off + n * 22) x HR.out ?_ ?_); rfl) | ((with_reducible refine store_bt rfl (.tmp 15) (.tmp 58) rfl _ x _ KZ.out ?_ ?_ ?_); rfl; rfl; clear KZ HR; generalize World.setRow _ _ _ = W1 at *; have d0 := blk_cell HB.out.hx (bt_lost x a b HT.out.a3 HT.out.b3)))
            refine (rowC ab (by omega) _ _).mono ?_
            rintro e w' ⟨rfl, rfl⟩
            have d1 := blk_cell HB.out.hx (bt_lost x b a HT.out.b3 HT.out.a3)
            go_wp2_with fail
            refine (rowC ba (by omega) _ _).mono ?_
            rintro e w' ⟨rfl, rfl⟩
            clear d0 d1
            go_upto_if 76 with (fail)
            go_cut [12] from 45 to 184 (fun s12 wx => s12 = .int .i64 (fixN x a b ab : Nat) ∧ Hid (A2 w wr.heap.size L (fixX x a b ab) wx))
            case first =>
              by_cases hr : 3 < rowP ab (x.lost a b)
              · have hr' : (3 : Int) < (rowP ab (x.lost a b) : Int) := by omega
                have d0 := blk_cell HB.out.hx (bt_lost x a b HT.out.a3 HT.out.b3)
                have f0 := blk_free HB.out.hx (1 + a * 3 + b)
                have eN := Lib.hid (show fixN x a b ab = 0 from if_pos hr)
                have eX := Lib.hid (show fixX x a b ab = unl x a b from if_pos hr)
                go_wp2
                go_meet
                exact ⟨by rw [eN.out]; rfl, by rw [eX.out]; exact a2_unl HB.out HT.out.a3 HT.out.b3⟩
              · have hr' : ¬ (3 : Int) < (rowP ab (x.lost a b) : Int) := by omega
                have eN := Lib.hid (show fixN x a b ab = rowP ab (x.lost a b) from if_neg hr)
                have eX := Lib.hid (show fixX x a b ab = x from if_neg hr)
                go_wp2
                go_meet
                exact ⟨by rw [eN.out], by rw [eX.out]; exact HB.out⟩
            case rest =>
              obtain ⟨rfl, HC⟩ := hcut
              clear HB
              go_upto_if 83 with (fail)
              go_cut [13] from 45 to 184 (fun s13 wx => s13 = .int .i64 (fixN (fixX x a b ab) b a ba : Nat) ∧ Hid (A2 w wr.heap.size L (fixX (fixX x a b ab) b a ba) wx))
              case first =>
                have eo := fix_other (x := x) (a := a) (b := b) (n := ab) (i := b) (j := a) (fun q => HT.out.ab q.2)
                by_cases hr : 3 < rowP ba (x.lost b a)
                · have hr' : (3 : Int) < (rowP ba (x.lost b a) : Int) := by omega
                  have d0 := blk_cell HC.out.hx (bt_lost (fixX x a b ab) b a HT.out.b3 HT.out.a3)
                  have f0 := blk_free HC.out.hx (1 + b * 3 + a)
                  have eN := Lib.hid (show fixN (fixX x a b ab) b a ba = 0 from if_pos (by rw [eo]; exact hr))
                  have eX := Lib.hid (show fixX (fixX x a b ab) b a ba = unl (fixX x a b ab) b a from if_pos (by rw [eo]; exact hr))
                  clear eo
                  go_wp2
                  go_meet
                  exact ⟨by rw [eN.out]; rfl, by rw [eX.out]; exact a2_unl HC.out HT.out.b3 HT.out.a3⟩
                · have hr' : ¬ (3 : Int) < (rowP ba (x.lost b a) : Int) := by omega
                  have eN := Lib.hid (show fixN (fixX x a b ab) b a ba = rowP ba (x.lost b a) from (if_neg (by rw [eo]; exact hr)).trans (by rw [eo]))
                  have eX := Lib.hid (show fixX (fixX x a b ab) b a ba = fixX x a b ab from if_neg (by rw [eo]; exact hr))
                  clear eo
                  go_wp2
                  go_meet
                  exact ⟨by rw [eN.out], by rw [eX.out]; exact HC.out⟩
              case rest =>
                obtain ⟨rfl, HD⟩ := hcut
                have HF := Lib.hid (fixes x HT.out.ab HI.out.la HI.out.lb)
                have HO2 := Lib.hid (okX_fix (okX_fix HOX.out a b ab) b a ba)
                clear HC HOX
                generalize fixN (fixX x a b ab) b a ba = ba2 at *
                generalize fixN x a b ab = ab2 at *
                generalize fixX (fixX x a b ab) b a ba = x2 at *
                generalize wr.heap.size = gx at *
                have HE := Lib.hid (a3_of HD.out (fun j => toldL (L j)))
                go_wp2
                clear HD
                generalize World.alloc wc _ = W2 at *
                generalize wc.heap.size = gs at *
                go_loopw [17] (fun v w3 => ∃ i : Nat, v = .int .i64 i ∧ i ≤ 3 ∧ A3 w gx gs L x2 (mixF zMs (fun j => toldL (L j)) i) w3) (fun v _ => 3 - (intOf v).toNat)
                case atStart => exact ⟨0, rfl, by omega, HE.out⟩
                case round =>
                  obtain ⟨i, rfl, hi, A⟩ := hrel
                  have HA := Lib.hid A
                  clear A HE
                  by_cases hi3 : i < 3
                  · have i0 : (0 : Int) ≤ (i : Int) := Int.natCast_nonneg _
                    have i3 : (i : Int) < 3 := by omega
                    go_wp2_with ((with_reducible refine load_lp rfl (.tmp 95) rfl w.heap.size i L hi3 HA.out.hl ?_ ?_); rfl)
                    refine (toldC (L i) (by rw [HI.out.own i hi3]; exact hi3) _).mono ?_
                    rintro e w3 ⟨rfl, bb⟩
                    have HB := Lib.hid (a3_call HA.out bb)
                    clear bb HA
                    go_wp2_with ((with_reducible refine store_mp rfl (.tmp 98) (.tmp 97) rfl gs i _ (toldL (L i)) hi3 HB.out.hs ?_ ?_ ?_); rfl; rfl)
                    go_roundw
                    case rel => exact ⟨i + 1, by go_num, by omega, a3_put HB.out hi3⟩
                    case measure => simp [intOf]; omega
                  · obtain rfl : i = 3 := by omega
                    have e3 : ((3 : Nat) : Int) = 3 := rfl
                    rw [e3]
                    have HB := Lib.hid (a3_as HA.out (mixF_3 zMs (fun j => toldL (L j))))
                    clear HA
                    have dF := blk_cell HB.out.hx (o := 10) (v := .bool x2.fls) rfl
                    go_upto_if 100 with (fail)
                    clear dF e3
                    go_cut [] from 45 to 184 (fun wx => Hid (A3 w gx gs L x2 (saysM x2 c L) wx))
                    case first =>
                      cases hf : x2.fls
                      · have HFL := Lib.hid hf
                        clear hf
                        go_wp2
                        go_meet
                        exact a3_as HB.out (fun j _ => says_no HFL.out j)
                      · have HFL := Lib.hid hf
                        clear hf
                        have s0 := blk_cell HB.out.hx (o := 13) (v := .int .u8 x2.says.h0) rfl
                        have s1 := blk_cell HB.out.hx (o := 14) (v := .int .u8 x2.says.h1) rfl
                        have s2 := blk_cell HB.out.hx (o := 15) (v := .int .u8 x2.says.h2) rfl
                        have r0 := blk_cell HB.out.hs (m33_at _ c 2 HT.out.c3 (by decide))
                        have r1 := blk_cell HB.out.hs (o := c * 11 + 2 + 1) (m33_at _ c 3 HT.out.c3 (by decide))
                        have r2 := blk_cell HB.out.hs (o := c * 11 + 2 + 2) (m33_at _ c 4 HT.out.c3 (by decide))
                        have r3 := blk_free HB.out.hs
                        go_wp2
                        go_meet
                        exact a3_as (a3_heard HB.out HT.out.c3 _ _ _) (fun j _ => says_yes HFL.out j)
                    case rest =>
                      have HM := Lib.hid (says_is HT.out HI.out (by omega) x2 HO2.out.1 HO2.out.2.1 HO2.out.2.2)
                      have HG := hcut
                      clear hcut HB
                      generalize saysM x2 c L = M at *
                      have HH := Lib.hid (a4_of HG.out (nextL x2 c M L))
                      go_wp2
                      clear HG
                      generalize World.alloc wc _ = W4 at *
                      generalize wc.heap.size = gn at *
                      go_loopw [19] (fun v w4 => ∃ i : Nat, v = .int .i64 i ∧ i ≤ 3 ∧ A4 w gx gs gn L x2 M (mixF zL (nextL x2 c M L) i) w4) (fun v _ => 3 - (intOf v).toNat)
                      case atStart => exact ⟨0, rfl, by omega, HH.out⟩
                      case round =>
                        obtain ⟨i, rfl, hi, A⟩ := hrel
                        have HA := Lib.hid A
                        clear A HH
                        by_cases hi3 : i < 3
                        · have i0 : (0 : Int) ≤ (i : Int) := Int.natCast_nonneg _
                          have i3 : (i : Int) < 3 := by omega
                          go_wp2
                          go_loopw [20, 21] (fun p q w5 => ∃ j k : Nat, ∃ F : Nat → Ms, q = .int .i64 j ∧ j ≤ 3 ∧ CameAt (gn + 1) x2 c i j L M p k F w5 ∧ A4 w gx gs gn L x2 M (mixF zL (nextL x2 c M L) i) w5) (fun _ q _ => 3 - (intOf q).toNat)
                          case atStart => exact ⟨0, 0, zMs, rfl, by omega, came_0 _ _ _ _ _ _ _, HA.out⟩
                          case round =>
                            obtain ⟨j, k, F, rfl, hj, C5, A5⟩ := hrel
                            have HC := Lib.hid C5
                            have HA5 := Lib.hid A5
                            clear C5 A5 HA
                            have dd := blk_cell HA5.out.hx (o := 0) (v := .bool x2.dead) rfl
                            by_cases hj3 : j < 3
                            · have j0 : (0 : Int) ≤ (j : Int) := Int.natCast_nonneg _
                              have j3 : (j : Int) < 3 := by omega
                              have dl := blk_cell HA5.out.hx (bt_lost x2 j i hj3 hi3)
                              by_cases e1 : j = i
                              · have RX := Lib.hid (show rx5 x2 c i j = false by unfold rx5; rw [e1]; simp)
                                have ne1 : ((j : Int) != (i : Int)) = false := by simp; omega
                                clear e1
                                go_wp2
                                go_roundw
                                case rel => exact ⟨j + 1, k, F, by go_num, by omega, came_no HC.out RX.out, HA5.out⟩
                                case measure => simp [intOf]; omega
                              · have b1' : (j != i) = true := bne_iff_ne.2 e1
                                have ne1 : ((j : Int) != (i : Int)) = true := by simp; omega
                                clear e1
                                cases hl : x2.lost j i
                                · rw [hl] at dl
                                  by_cases e2 : j = c
                                  · have b2' : (j != c) = false := by rw [e2]; simp
                                    have ne2 : ((j : Int) != (c : Int)) = false := by simp; omega
                                    clear e2
                                    cases hd : x2.dead
                                    · rw [hd] at dd
                                      have RX := Lib.hid (show rx5 x2 c i j = true by unfold rx5; rw [b1', hl, hd]; simp)
                                      clear b1' b2' hl hd
                                      have OM := Lib.hid (HM.out.ok j hj3)
                                      have KM := Lib.hid (k_m HA5.out j hj3)
                                      go_wp2_with (first
                                        | ((with_reducible refine load_mp rfl (.tmp 139) rfl gs j M hj3 HA5.out.hs ?_ ?_); rfl)
                                        | (at_builtin; refine wpList_append_m rfl (.tmp 137) (.tmp 141) rfl (gn + 1) k F _ _ 1 (M j) rfl (HC.out.own.alloc _) (by have := blk_lt HA5.out.hn; simp; omega) rfl KM.out (by have := HC.out.le; omega) ?_; intro v6 w6 o1 b1; have HC6 := Lib.hid (came_yes HC.out RX.out OM.out o1); have HB6 := Lib.hid (a4_under (a4_call HA5.out (allocs _ _)) b1 (Nat.lt_succ_self _)); clear o1 b1 HC HA5 KM OM))
                                      go_roundw
                                      case rel => exact ⟨j + 1, k + 1, _, by go_num, by omega, HC6.out, HB6.out⟩
                                      case measure => simp [intOf]; omega
                                    · rw [hd] at dd
                                      have RX := Lib.hid (show rx5 x2 c i j = false by unfold rx5; rw [b2', hd]; simp)
                                      clear b1' b2' hl hd
                                      go_wp2
                                      go_roundw
                                      case rel => exact ⟨j + 1, k, F, by go_num, by omega, came_no HC.out RX.out, HA5.out⟩
                                      case measure => simp [intOf]; omega
                                  · have b2' : (j != c) = true := bne_iff_ne.2 e2
                                    have ne2 : ((j : Int) != (c : Int)) = true := by simp; omega
                                    have RX := Lib.hid (show rx5 x2 c i j = true by unfold rx5; rw [b1', hl, b2']; simp)
                                    clear e2 b1' b2' hl
                                    have OM := Lib.hid (HM.out.ok j hj3)
                                    have KM := Lib.hid (k_m HA5.out j hj3)
                                    go_wp2_with (first
                                      | ((with_reducible refine load_mp rfl (.tmp 139) rfl gs j M hj3 HA5.out.hs ?_ ?_); rfl)
                                      | (at_builtin; refine wpList_append_m rfl (.tmp 137) (.tmp 141) rfl (gn + 1) k F _ _ 1 (M j) rfl (HC.out.own.alloc _) (by have := blk_lt HA5.out.hn; simp; omega) rfl KM.out (by have := HC.out.le; omega) ?_; intro v6 w6 o1 b1; have HC6 := Lib.hid (came_yes HC.out RX.out OM.out o1); have HB6 := Lib.hid (a4_under (a4_call HA5.out (allocs _ _)) b1 (Nat.lt_succ_self _)); clear o1 b1 HC HA5 KM OM))
                                    go_roundw
                                    case rel => exact ⟨j + 1, k + 1, _, by go_num, by omega, HC6.out, HB6.out⟩
                                    case measure => simp [intOf]; omega
                                · rw [hl] at dl
                                  have RX := Lib.hid (show rx5 x2 c i j = false by unfold rx5; rw [hl]; simp)
                                  clear b1' hl
                                  go_wp2
                                  go_roundw
                                  case rel => exact ⟨j + 1, k, F, by go_num, by omega, came_no HC.out RX.out, HA5.out⟩
                                  case measure => simp [intOf]; omega
                            · obtain rfl : j = 3 := by omega
                              have e3 : ((3 : Nat) : Int) = 3 := rfl
                              by_cases e4 : i = c
                              · have eq4 : ((i : Int) == (c : Int)) = true := by simp; omega
                                cases hd : x2.dead
                                · rw [hd] at dd
                                  have AW := Lib.hid (show ¬ (i = c ∧ x2.dead = true) from fun q => by rw [hd] at q; exact absurd q.2 (by decide))
                                  clear e4 hd
                                  obtain ⟨A5, c5, rfl, MS⟩ := mss_of HC.out.own
                                  have cS := stepC (L i) (by rw [HI.out.own i hi3]; exact hi3) A5 k c5 F HC.out.ok _ MS (by have := HC.out.le; omega)
                                  rw [HC.out.st, next_awake AW.out] at cS
                                  have CS := Lib.hid cS
                                  clear cS MS
                                  go_wp2_with ((with_reducible refine load_lp rfl (.tmp 152) rfl w.heap.size i L hi3 HA5.out.hl ?_ ?_); rfl)
                                  refine CS.out.mono ?_
                                  rintro e w6 ⟨rfl, bb⟩
                                  have HB5 := Lib.hid (a4_call HA5.out bb)
                                  clear bb HA5 HC CS
                                  go_wp2_with ((with_reducible refine store_lp rfl (.tmp 156) (.tmp 155) rfl gn i _ (nextL x2 c M L i) hi3 HB5.out.hn ?_ ?_ ?_); rfl; rfl)
                                  go_roundw
                                  case rel => exact ⟨i + 1, by go_num, by omega, a4_put HB5.out hi3⟩
                                  case measure => simp [intOf]; omega
                                · rw [hd] at dd
                                  have cS := fun W => stepNil (L i) (by rw [HI.out.own i hi3]; exact hi3) W
                                  rw [next_dead (M := M) e4 hd] at cS
                                  have CS := Lib.hid cS
                                  clear cS e4 hd
                                  go_wp2_with ((with_reducible refine load_lp rfl (.tmp 152) rfl w.heap.size i L hi3 HA5.out.hl ?_ ?_); rfl)
                                  refine (CS.out _).mono ?_
                                  rintro e w6 ⟨rfl, bb⟩
                                  have HB5 := Lib.hid (a4_call HA5.out bb)
                                  clear bb HA5 HC CS
                                  go_wp2_with ((with_reducible refine store_lp rfl (.tmp 156) (.tmp 155) rfl gn i _ (nextL x2 c M L i) hi3 HB5.out.hn ?_ ?_ ?_); rfl; rfl)
                                  go_roundw
                                  case rel => exact ⟨i + 1, by go_num, by omega, a4_put HB5.out hi3⟩
                                  case measure => simp [intOf]; omega
                              · have eq4 : ((i : Int) == (c : Int)) = false := by simp; omega
                                have AW := Lib.hid (show ¬ (i = c ∧ x2.dead = true) from fun q => e4 q.1)
                                clear e4 dd
                                obtain ⟨A5, c5, rfl, MS⟩ := mss_of HC.out.own
                                have cS := stepC (L i) (by rw [HI.out.own i hi3]; exact hi3) A5 k c5 F HC.out.ok _ MS (by have := HC.out.le; omega)
                                rw [HC.out.st, next_awake AW.out] at cS
                                have CS := Lib.hid cS
                                clear cS MS
                                go_wp2_with ((with_reducible refine load_lp rfl (.tmp 152) rfl w.heap.size i L hi3 HA5.out.hl ?_ ?_); rfl)
                                refine CS.out.mono ?_
                                rintro e w6 ⟨rfl, bb⟩
                                have HB5 := Lib.hid (a4_call HA5.out bb)
                                clear bb HA5 HC CS
                                go_wp2_with ((with_reducible refine store_lp rfl (.tmp 156) (.tmp 155) rfl gn i _ (nextL x2 c M L i) hi3 HB5.out.hn ?_ ?_ ?_); rfl; rfl)
                                go_roundw
                                case rel => exact ⟨i + 1, by go_num, by omega, a4_put HB5.out hi3⟩
                                case measure => simp [intOf]; omega
                        · obtain rfl : i = 3 := by omega
                          have e3 : ((3 : Nat) : Int) = 3 := rfl
                          go_upto_region 45 with (first | ((with_reducible refine load_l33 rfl (.tmp 18) rfl gn _ HA.out.hn ?_ ?_); rfl) | ((with_reducible refine store_l33 rfl (.tmp 8) (.tmp 157) rfl w.heap.size (mixF zL (nextL x2 c M L) 3) L HA.out.hl ?_ ?_ ?_); rfl; rfl))
                          have HK := Lib.hid (a1_as (a4_end HA.out) (mixF_3 zL (nextL x2 c M L)))
                          have HI2 := Lib.hid (inv_fix HT.out HI.out HM.out (by omega) HF.out)
                          clear HA HM HI HF HO2 e3
                          generalize nextL x2 c M L = N at *
                          generalize World.setRow _ _ _ = W5 at *
                          have TA := Lib.hid (a1_drew HK.out)
                          clear HK
                          obtain ⟨V, CA0, CB0, vb, va⟩ := alives HT.out HI2.out
                          have CA := Lib.hid CA0
                          have CB := Lib.hid CB0
                          have jb := fun W => ix_b V W b HT.out.b3
                          have ja := fun W => ix_b V W a HT.out.a3
                          rw [vb] at jb
                          rw [va] at ja
                          clear CA0 CB0 vb va
                          go_region_held3 (fun w' => w'.cell? ⟨w.heap.size, a * 11, none⟩ = some (.int .i64 ((N a).own : Int)) ∧ w'.cell? ⟨w.heap.size, a * 11 + 1, none⟩ = some (.int .u32 (N a).fr) ∧ w'.cell? ⟨w.heap.size, a * 11 + 2, none⟩ = some (.int .u32 ((N a).h 0 0)) ∧ w'.cell? ⟨w.heap.size, a * 11 + 3, none⟩ = some (.int .u32 ((N a).h 0 1)) ∧ w'.cell? ⟨w.heap.size, a * 11 + 4, none⟩ = some (.int .u32 ((N a).h 0 2)) ∧ w'.cell? ⟨w.heap.size, a * 11 + 5, none⟩ = some (.int .u32 ((N a).h 1 0)) ∧ w'.cell? ⟨w.heap.size, a * 11 + 6, none⟩ = some (.int .u32 ((N a).h 1 1)) ∧ w'.cell? ⟨w.heap.size, a * 11 + 7, none⟩ = some (.int .u32 ((N a).h 1 2)) ∧ w'.cell? ⟨w.heap.size, a * 11 + 8, none⟩ = some (.int .u32 ((N a).h 2 0)) ∧ w'.cell? ⟨w.heap.size, a * 11 + 9, none⟩ = some (.int .u32 ((N a).h 2 1)) ∧ w'.cell? ⟨w.heap.size, a * 11 + 10, none⟩ = some (.int .u32 ((N a).h 2 2)) ∧ w'.cell? ⟨w.heap.size, b * 11, none⟩ = some (.int .i64 ((N b).own : Int)) ∧ w'.cell? ⟨w.heap.size, b * 11 + 1, none⟩ = some (.int .u32 (N b).fr) ∧ w'.cell? ⟨w.heap.size, b * 11 + 2, none⟩ = some (.int .u32 ((N b).h 0 0)) ∧ w'.cell? ⟨w.heap.size, b * 11 + 3, none⟩ = some (.int .u32 ((N b).h 0 1)) ∧ w'.cell? ⟨w.heap.size, b * 11 + 4, none⟩ = some (.int .u32 ((N b).h 0 2)) ∧ w'.cell? ⟨w.heap.size, b * 11 + 5, none⟩ = some (.int .u32 ((N b).h 1 0)) ∧ w'.cell? ⟨w.heap.size, b * 11 + 6, none⟩ = some (.int .u32 ((N b).h 1 1)) ∧ w'.cell? ⟨w.heap.size, b * 11 + 7, none⟩ = some (.int .u32 ((N b).h 1 2)) ∧ w'.cell? ⟨w.heap.size, b * 11 + 8, none⟩ = some (.int .u32 ((N b).h 2 0)) ∧ w'.cell? ⟨w.heap.size, b * 11 + 9, none⟩ = some (.int .u32 ((N b).h 2 1)) ∧ w'.cell? ⟨w.heap.size, b * 11 + 10, none⟩ = some (.int .u32 ((N b).h 2 2)))
                            (first
                              | (with_reducible assumption)
                              | exact s22 TA.out HT.out.a3 HT.out.b3)
                            (first
                              | (go_at_call 9; (with_reducible refine (CA.out _).mono ?_); rintro e v ⟨rfl, bb⟩; replace TA := Lib.hid (a1_call TA.out bb); clear bb)
                              | (go_at_call 9; (with_reducible refine (CB.out _).mono ?_); rintro e v ⟨rfl, bb⟩; replace TA := Lib.hid (a1_call TA.out bb); clear bb))
                          all_goals
                            go_wp2
                            go_roundw
                            case rel => exact ⟨ab2, ba2, n + 1, N, rfl, rfl, by go_num, by omega, by omega, HI2.out, TA.out⟩
                            case measure => simp [intOf]; omega
          · have n2 : (200 : Int) ≤ (n : Int) := by omega
            have n1 : (n : Int) < (m : Int) := by omega
            have n3 : decide ((n : Int) < 200) = false := decide_eq_false (by omega)
            go_wp2_with fail
            refine (lives _).mono ?_
            rintro e w2 ⟨rfl, bb⟩
            have HB := Lib.hid (a1_call HA.out bb)
            clear bb HA
            go_wp2
            go_ret
            exact ⟨rfl, HB.out.below⟩
        · have n1 : (m : Int) ≤ (n : Int) := by omega
          have n3 : decide ((n : Int) < (m : Int)) = false := decide_eq_false (by omega)
          go_wp2_with fail
          refine (lives _).mono ?_
          rintro e w2 ⟨rfl, bb⟩
          have HB := Lib.hid (a1_call HA.out bb)
          clear bb HA
          go_wp2
          go_ret
          exact ⟨rfl, HB.out.below⟩

end Go.Proofs.Ytnknjlhflgfccaa.Link
