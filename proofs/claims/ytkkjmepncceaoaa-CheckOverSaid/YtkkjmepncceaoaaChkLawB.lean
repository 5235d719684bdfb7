/- CheckOver: a test is over in 20 frames, and is passed just if each unit was well in its turn. Conditions: bytes are bytes. -/
import Derived.Test.YtkkjmepncceaoaaChkLaw
namespace Go.Proofs.Ytkkjmepncceaoaa.Chk
open Go.ChangeShapes Go.WideShapes Go.ChangeAt Go.RowKit Num By

/-- The frames, and none well behind them. -/
def un (n : Nat) (L : Nat → Int) (i : Nat) : Int := if i < n then L i else 0
theorem un_byte {n : Nat} {L : Nat → Int} (h : Byte L) (i : Nat) : 0 ≤ un n L i ∧ un n L i < 256 := by
  unfold un
  split
  · exact h i
  · exact ⟨by decide, by decide⟩
/-- Behind j frames: what may be, is over, or has gone on in each frame. -/
structure Inv (t : Pt) (j : Nat) : Prop where
  ok : may t = true
  gone : (t.p = true ∨ t.x = true) ∨ (j : Int) ≤ 5 * t.s + t.f
theorem inv_0 : Inv z0 0 := ⟨by decide, .inr (by decide)⟩
theorem inv_next {t : Pt} {j : Nat} (h : Inv t j) (u : Int) : Inv (next t u false) (j + 1) := by
  refine ⟨next_may t u false, ?_⟩
  rcases may_ways h.ok with rfl | ⟨s, a, b, rfl⟩ | ⟨s, f, a, b, c, d, rfl⟩
  · rw [next_done]; exact .inl (.inl rfl)
  · rw [next_bad a b]; exact .inl (.inr rfl)
  · have g : (j : Int) ≤ 5 * s + f := by
      rcases h.gone with (k | k) | k
      · cases k
      · cases k
      · exact k
    cases hw : wl u s
    · rw [next_not a b c d hw]
      refine .inr ?_
      show ((j + 1 : Nat) : Int) ≤ 5 * s + (f + 1)
      omega
    · rw [next_yes a b c d hw]
      refine .inr ?_
      show ((j + 1 : Nat) : Int) ≤ 5 * (s + 1) + 0
      omega
theorem inv_go {s f : Int} {j : Nat} (h : Inv (go s f) j) : (j : Int) ≤ 5 * s + f := by
  rcases h.gone with (k | k) | k
  · cases k
  · cases k
  · exact k
/-- Does the step still wait? -/
def goes (t : Pt) : Bool := decide (t.s < 4) && decide (t.f < 5)
theorem goes_bad (s : Int) : goes (bad s) = false := by simp [goes]
theorem goes_go {s f : Int} (a : s < 4) (b : f < 5) : goes (go s f) = true := by simp [goes, a, b]
/-- What lies in memory. -/
def OvAt (w0 : World) (t : Pt) (j : Nat) (w : World) : Prop := OneAt w0 t w ∧ Inv t j
/-- Behind j frames: the counters and the memory. -/
def OvK (w0 : World) (a b i : Value) (w : World) : Prop := ∃ (j : Nat) (x : Pt), j ≤ 24 ∧ i = .int .i64 j ∧ a = .int .i64 x.s ∧ b = .int .i64 x.f ∧ OvAt w0 x j w
theorem one_put {w0 w : World} {t : Pt} (h : OneAt w0 t w) (c : Pt) : OneAt w0 c (w.setRow w0.heap.size (ptA c)) := ⟨below_row h.below (Nat.le_refl _) _, blk_row h.ha _⟩

attribute [local go_sem ↓] ldP_eq
set_option maxRecDepth 100000 in
set_option maxHeartbeats 16000000 in
theorem overLaw (A : Option Addr) (n m : Nat) (L : Nat → Int) (w : World) (hL : Byte L) (hn : n ≤ maxLen) (hP : Bys w w.heap.size A n L) :
    Calls Try.prog 4 #[.slice A n m] w fun e w' => e = .returned (.bool true) ∧ Below w.heap.size w w' := by
  have HP := Lib.hid hP
  have HU := Lib.hid (fun i => un_byte (n := n) hL i)
  unfold maxLen at hn
  have K0 := Lib.hid (one_box w z0)
  clear hP hL
  go_enter Try.func4, Try.ntmps4
  go_upto_region 2 with (fail)
  generalize World.alloc w _ = W at *
  go_wp2_with fail
  go_loopw [4, 5, 6] (fun a b i wr => OvK w a b i wr) (fun _ _ i _ => 24 - (intOf i).toNat)
  case atStart => exact ⟨0, z0, Nat.zero_le _, rfl, rfl, rfl, K0.out, inv_0⟩
  case round =>
    rename_i wr
    obtain ⟨j, x, hj, rfl, rfl, rfl, S, I⟩ := hrel
    have HS := Lib.hid S
    have HI := Lib.hid I
    clear S I K0
    by_cases hlt : j < 24
    · have j0 : (0 : Int) ≤ (j : Int) := Int.natCast_nonneg _
      have j24 : (j : Int) < 24 := by omega
      go_upto_if 17 with (fail)
      go_cut [7] from 10 to 71 (fun v wx => v = .int .u8 (un n L j) ∧ wx = wr)
      case first =>
        by_cases hjn : j < n
        · obtain ⟨b, off, rfl, hb, hc0⟩ := HP.out (by omega)
          have hcl := (HS.out.below.cell (p := ⟨b, off + j, none⟩) hb).trans (hc0 j hjn)
          have HE := Lib.hid (show un n L j = L j from if_pos hjn)
          clear hc0
          go_wp2_with fail
          go_meet
          exact ⟨by rw [HE.out], rfl⟩
        · have HE := Lib.hid (show un n L j = 0 from if_neg hjn)
          go_wp2_with fail
          go_meet
          exact ⟨by rw [HE.out], rfl⟩
      case rest =>
        obtain ⟨rfl, rfl⟩ := hcut
        have u0 := (HU.out j).1
        have u1 := (HU.out j).2
        generalize un n L j = u at *
        go_upto_region 9 with (fail)
        go_cut [27] from 10 to 71 (fun q wx => q = .bool (goes x) ∧ wx = wc)
        case first =>
          rcases may_ways HI.out.ok with rfl | ⟨s, a, b, rfl⟩ | ⟨s, f, a, b, c, d, rfl⟩
          · go_wp2_with fail
            go_meet
            exact ⟨rfl, rfl⟩
          · have HE := Lib.hid (goes_bad s)
            go_wp2_with fail
            go_meet
            exact ⟨by rw [HE.out], rfl⟩
          · have HE := Lib.hid (goes_go b d)
            go_wp2_with fail
            go_meet
            exact ⟨by rw [HE.out], rfl⟩
        case rest =>
          obtain ⟨rfl, rfl⟩ := hcut
          generalize hgo : goes x = g
          have HG := Lib.hid hgo
          clear hgo
          go_upto_if 27 with (fail)
          go_cut [4, 5] from 10 to 71 (fun a b wx => a = .int .i64 (next x u false).s ∧ b = .int .i64 (next x u false).f ∧ wx = wc)
          case first =>
            rcases may_ways HI.out.ok with rfl | ⟨s, a, b, rfl⟩ | ⟨s, f, a, b, c, d, rfl⟩
            · have HE := Lib.hid (next_done u)
              obtain rfl : g = false := HG.out.symm
              go_wp2_with fail
              go_meet
              exact ⟨by rw [HE.out], by rw [HE.out], rfl⟩
            · have HE := Lib.hid (next_bad a b u)
              obtain rfl : g = false := HG.out.symm.trans (goes_bad s)
              go_wp2_with fail
              go_meet
              exact ⟨by rw [HE.out], by rw [HE.out], rfl⟩
            · obtain rfl : g = true := HG.out.symm.trans (goes_go b d)
              have hq := wl_eq u s u0 u1
              cases hw : wl u s
              · have HE := Lib.hid (next_not a b c d hw)
                rw [hw] at hq
                clear hw
                go_wp2_with fail
                go_meet
                exact ⟨by rw [HE.out], by rw [HE.out], rfl⟩
              · have HE := Lib.hid (next_yes a b c d hw)
                rw [hw] at hq
                clear hw
                go_wp2_with fail
                go_meet
                exact ⟨by rw [HE.out], by rw [HE.out], rfl⟩
          case rest =>
            obtain ⟨rfl, rfl, rfl⟩ := hcut
            have q := ldP_blk HS.out.ha
            have HI2 := Lib.hid (inv_next HI.out u)
            have CN := Lib.hid (fun W => nextC x u 0 false u0 u1 crew0 W)
            go_wp2_with fail
            clear q
            refine (CN.out _).mono ?_
            rintro e w1 ⟨rfl, bb⟩
            have KS := Lib.hid (one_call HS.out bb)
            clear bb CN HI
            generalize next x u false = y at *
            have KP := Lib.hid (one_put KS.out y)
            go_upto_region 15 with ((with_reducible refine store_p rfl (.tmp 3) (.tmp 40) rfl w.heap.size y x KS.out.ha ?_ ?_ ?_); rfl; rfl)
            clear KS HS
            generalize World.setRow w1 _ _ = W1 at *
            have q := ldP_blk KP.out.ha
            rcases may_ways HI2.out.ok with rfl | ⟨s, a, b, rfl⟩ | ⟨s, f, a, b, c, d, rfl⟩
            · have h19 : (j : Int) < 19 ∨ (19 : Int) ≤ (j : Int) := by omega
              rcases h19 with h19 | h19
              all_goals
                have c2 := blk_cell KP.out.ha (o := 2) (v := .bool true) rfl
                have c3 := blk_cell KP.out.ha (o := 3) (v := .bool false) rfl
                go_wp2_with fail
                clear q c2 c3
                refine (mayIs done true HI2.out.ok _).mono ?_
                rintro e w2 ⟨rfl, bb⟩
                have KQ := Lib.hid (one_call KP.out bb)
                clear bb KP
                have c2 := blk_cell KQ.out.ha (o := 2) (v := .bool true) rfl
                have c3 := blk_cell KQ.out.ha (o := 3) (v := .bool false) rfl
                go_wp2_with fail
                all_goals
                  go_roundw
                  case rel => exact ⟨j + 1, done, by omega, by go_num, rfl, rfl, KQ.out, HI2.out⟩
                  case measure => simp [intOf]; omega
            · have h4 : (s == 4) = false := by simp; omega
              have h19 : (j : Int) < 19 ∨ (19 : Int) ≤ (j : Int) := by omega
              rcases h19 with h19 | h19
              all_goals
                have c2 := blk_cell KP.out.ha (o := 2) (v := .bool false) rfl
                have c3 := blk_cell KP.out.ha (o := 3) (v := .bool true) rfl
                go_wp2_with fail
                clear q c2 c3
                refine (mayIs (bad s) true HI2.out.ok _).mono ?_
                rintro e w2 ⟨rfl, bb⟩
                have KQ := Lib.hid (one_call KP.out bb)
                clear bb KP
                have c2 := blk_cell KQ.out.ha (o := 2) (v := .bool false) rfl
                have c3 := blk_cell KQ.out.ha (o := 3) (v := .bool true) rfl
                go_wp2_with fail
                all_goals
                  go_roundw
                  case rel => exact ⟨j + 1, (bad s), by omega, by go_num, rfl, rfl, KQ.out, HI2.out⟩
                  case measure => simp [intOf]; omega
            · have h4 : (s == 4) = false := by simp; omega
              have h5 : (f == 5) = false := by simp; omega
              have h19 : (j : Int) < 19 := by have := inv_go HI2.out; omega
              have c2 := blk_cell KP.out.ha (o := 2) (v := .bool false) rfl
              have c3 := blk_cell KP.out.ha (o := 3) (v := .bool false) rfl
              go_wp2_with fail
              clear q c2 c3
              refine (mayIs (go s f) true HI2.out.ok _).mono ?_
              rintro e w2 ⟨rfl, bb⟩
              have KQ := Lib.hid (one_call KP.out bb)
              clear bb KP
              have c2 := blk_cell KQ.out.ha (o := 2) (v := .bool false) rfl
              have c3 := blk_cell KQ.out.ha (o := 3) (v := .bool false) rfl
              go_wp2_with fail
              all_goals
                go_roundw
                case rel => exact ⟨j + 1, (go s f), by omega, by go_num, rfl, rfl, KQ.out, HI2.out⟩
                case measure => simp [intOf]; omega
    · obtain rfl : j = 24 := by omega
      have e24 : ((24 : Nat) : Int) = 24 := rfl
      go_wp2_with fail
      refine (live4 _ wr.heap.size (heap_alloc_new wr _)).mono ?_
      rintro e w1 ⟨rfl, bb⟩
      have K1 := Lib.hid (lv1_new (bthen HS.out.below (below_alloc bb)))
      clear bb HS
      go_upto_region 18 with (fail)
      generalize hW : World.alloc w1 _ = W1
      have K2 : Hid (Lv1At w w1.heap.size W1) := by rw [← hW]; exact K1.out
      clear hW K1
      generalize w1.heap.size = a at *
      have a2 := blk_cell K2.out.ha (o := 2) (v := .bool true) rfl
      have a3 := blk_cell K2.out.ha (o := 3) (v := .bool false) rfl
      go_wp2_with fail
      clear a2 a3
      refine (lives _).mono ?_
      rintro e w2 ⟨rfl, bb⟩
      have K3 := Lib.hid (lv1_call K2.out bb)
      clear bb K2
      go_wp2
      go_ret
      exact ⟨rfl, K3.out.below⟩

end Go.Proofs.Ytkkjmepncceaoaa.Chk
