/- SideStays: steered by a number that is read wrong by up to 30, pushed aside by up to 2, what is no further than 100 from the middle stays so, for the first 300 frames. Conditions: the numbers are of their types; slices lie as they were handed in. -/
import Derived.Test.YtcoogkhhicbkeaaSideLives
import Derived.Test.YtcoogkhhicbkeaaMidOf
import Derived.Test.YtcoogkhhicbkeaaSby
namespace Go.Proofs.Ytcoogkhhicbkeaa.Sd
open Go.ChangeShapes Go.WideShapes Go.ChangeAt Go.RowKit Num Mem Band
open Mid (Ints)

/-- What a store of a signal does: kept shut. -/
def stV (x v : Value) : Sem Unit := Instr.storeAt 23 x v
theorem stV_eq (x v : Value) : Instr.storeAt 23 x v = stV x v := rfl
theorem stV_blk {W : World} {g : Nat} {r : Vt} (s : Vt) (K : Blk W g (vtA r) 23) : (stV (.pointer (some ⟨g, 0, none⟩)) (.agg (vtA s))).run Try.prog W = .ok () (W.setRow g (vtA s)) := by
  unfold stV
  simp only [Instr.storeAt, Instr.sureAddr, Sem.run_bind, Sem.run_pure, Result.andThen_ok, run_storeVar_row W g 23 23 _ (vtA s) K infoV rfl (by kernel_rfl)]
abbrev zVt : Vt := ⟨false, 0, 0⟩

theorem tmod_bd (x m : Int) (h : 0 < m) : -m < x.tmod m ∧ x.tmod m < m := by
  rcases Int.le_total 0 x with g | g
  · have h1 := Int.tmod_nonneg m g
    have h2 := Int.tmod_lt_of_pos x h
    omega
  · obtain ⟨y, rfl⟩ : ∃ y, x = -y := ⟨-x, by omega⟩
    have h1 := Int.tmod_nonneg m (show 0 ≤ y by omega)
    have h2 := Int.tmod_lt_of_pos y h
    rw [Int.neg_tmod]
    omega
/-- The command of a mode that goes by the height. -/
theorem sid_at {m : Int} (n : Int) (H : Vt) (h : m = 2 ∨ m = 3 ∨ m = 4) : sidW m ⟨true, n, 3⟩ H 0 = stp n (gn H) 20 := by
  rw [sid_mid _ _ _ (by omega), ag_yes _ _ _ rfl]

section
attribute [local go_sem ↓] ldV_eq stV_eq
set_option maxRecDepth 100000 in
set_option maxHeartbeats 16000000 in
theorem staysLaw (y : Int) (A : Option Addr) (n c : Nat) (L : Nat → Int) (A' : Option Addr) (n' c' : Nat) (E : Nat → Int) (A'' : Option Addr) (n'' c'' : Nat) (P : Nat → Int) (md : Int) (w : World)
    (hy : -128 ≤ y ∧ y ≤ 127) (hL : ∀ i, i < n → In (L i)) (hP : Ints w w.heap.size A n L) (hE : ∀ i, i < n' → -128 ≤ E i ∧ E i ≤ 127) (hQ : Sby w w.heap.size A' n' E) (hF : ∀ i, i < n'' → -128 ≤ P i ∧ P i ≤ 127) (hR : Sby w w.heap.size A'' n'' P)
    (hn : n ≤ maxLen) (hn' : n' ≤ maxLen) (hn'' : n'' ≤ maxLen) (hm : 0 ≤ md ∧ md ≤ 255) :
    Calls Try.prog 5 #[.int .i8 y, .slice A n c, .slice A' n' c', .slice A'' n'' c'', .int .u8 md] w fun e w' => e = .returned (.bool true) ∧ Below w.heap.size w w' := by
  have HP := Lib.hid hP
  have HQ := Lib.hid hQ
  have HR := Lib.hid hR
  have HL := Lib.hid hL
  have HE := Lib.hid hE
  have HF := Lib.hid hF
  obtain ⟨y0, y1⟩ := hy
  obtain ⟨m0, m1⟩ := hm
  unfold maxLen at hn hn' hn''
  clear hP hQ hR hL hE hF
  go_enter Try.func5, Try.ntmps5
  go_upto_region 3 with (fail)
  have hg := gmin_cases y 100
  have hh := gmax_cases (-100) (gmin y 100)
  have x0 : -100 ≤ gmax (-100) (gmin y 100) := by omega
  have x1 : gmax (-100) (gmin y 100) ≤ 100 := by omega
  have hm3 : 2 + md % 3 = 2 ∨ 2 + md % 3 = 3 ∨ 2 + md % 3 = 4 := by omega
  clear hg hh y0 y1 m0 m1
  generalize gmax (-100) (gmin y 100) = x at *
  generalize 2 + md % 3 = m at *
  have SD : Hid (∀ (z : Int) (H : Vt) (W : World), In z → Calls Try.prog 8 #[.int .u8 m, .agg (vtA ⟨true, z, 3⟩), .agg (vtA H), .int .i64 0] W fun e w' => e = .returned (.int .i64 (stp z (gn H) 20)) ∧ Below W.heap.size W w') := fun z H W hz => by
    rw [← sid_at z H hm3]; exact sideC m ⟨true, z, 3⟩ H 0 hz ⟨by decide, by decide⟩ W
  have HX := Lib.hid (And.intro x0 x1)
  clear hm3 x0 x1
  go_wp2_with fail
  go_loopw [12, 13] (fun a i wr => ∃ (k : Nat) (z : Int), a = .int .i64 z ∧ i = .int .i64 k ∧ k ≤ n' ∧ k ≤ 300 ∧ -100 ≤ z ∧ z ≤ 100 ∧ Below w.heap.size w wr) (fun _ i _ => 300 - (intOf i).toNat)
  case atStart => exact ⟨0, x, rfl, rfl, by omega, by omega, HX.out.1, HX.out.2, Below.refl _ _⟩
  case round =>
    rename_i wr
    obtain ⟨k, z, rfl, rfl, hk, hk3, z0, z1, B⟩ := hrel
    have HB := Lib.hid B
    clear B HX
    have k0 : (0 : Int) ≤ (k : Int) := Int.natCast_nonneg _
    by_cases h : k < n' ∧ k < 300
    · obtain ⟨h1, h2⟩ := h
      have j1 : (k : Int) < (n' : Int) := by omega
      have j2 : (k : Int) < 300 := by omega
      have K1 := Lib.hid (blk_alloc wr (vtA zVt) 23)
      have s1 := stV_blk zVt K1.out
      have K2 : Hid (Blk ((wr.alloc (.cells (vtA zVt) 23)).setRow wr.heap.size (vtA zVt)) wr.heap.size (vtA zVt) 23) := blk_row K1.out _
      have B2 : Hid (Below w.heap.size w ((wr.alloc (.cells (vtA zVt) 23)).setRow wr.heap.size (vtA zVt))) := below_row (HB.out.alloc HB.out.size _) HB.out.size _
      have G := Lib.hid HB.out.size
      clear K1 hk hk3
      go_upto_region 7 with (fail)
      clear s1 HB
      generalize World.setRow _ _ _ = V at *
      generalize wr.heap.size = g at *
      go_upto_if 37 with (fail)
      go_cut [] from 23 to 74 (fun wx => ∃ H : Vt, Hid (Below w.heap.size w wx) ∧ Hid (Blk wx g (vtA H) 23))
      case first =>
        by_cases hh : k < n
        · obtain ⟨b, off, rfl, hb, hc⟩ := (HP.out.below B2.out) (by omega)
          have c0 := hc k hh
          clear hc
          have j3 : (k : Int) < (n : Int) := by omega
          go_wp2_with fail
          refine (atC (L k) _).mono ?_
          rintro e v ⟨rfl, bb⟩
          have K3 := Lib.hid (blk_kept K2.out bb)
          have B3 := Lib.hid (B2.out.trans (bb.mono B2.out.size))
          clear bb c0
          have s3 := stV_blk ⟨true, L k, 3⟩ K3.out
          go_wp2_with fail
          go_meet
          exact ⟨⟨true, L k, 3⟩, below_row B3.out G.out _, blk_row K3.out _⟩
        · have j3 : ¬ (k : Int) < (n : Int) := by omega
          go_wp2_with fail
          go_meet
          exact ⟨zVt, B2, K2⟩
      case rest =>
        obtain ⟨H, B3, K3⟩ := hcut
        clear B2 K2
        go_upto_if 46 with (fail)
        go_cut [15] from 23 to 74 (fun q wx => ∃ r : Int, q = .int .i64 r ∧ -2 ≤ r ∧ r ≤ 2 ∧ wx = wc)
        case first =>
          by_cases hh : k < n''
          · obtain ⟨b, off, rfl, hb, hc⟩ := (HR.out.below B3.out) (by omega)
            have c0 := hc k hh
            obtain ⟨p0, p1⟩ := HF.out k hh
            obtain ⟨q0, q1⟩ := tmod_bd (P k) 3 (by decide)
            clear hc
            have j3 : (k : Int) < (n'' : Int) := by omega
            go_wp2_with fail
            go_meet
            exact ⟨_, rfl, by omega, by omega, rfl⟩
          · have j3 : ¬ (k : Int) < (n'' : Int) := by omega
            go_wp2_with fail
            go_meet
            exact ⟨0, rfl, by decide, by decide, rfl⟩
        case rest =>
          obtain ⟨r, rfl, r0, r1, rfl⟩ := hcut
          obtain ⟨e0, e1⟩ := tmod_bd (E k) 31 (by decide)
          obtain ⟨b, off, rfl, hb, hc⟩ := HQ.out (by omega)
          have HC := Lib.hid (hc k h1)
          have HLT := Lib.hid hb
          obtain ⟨u, hu⟩ : ∃ u, (E k).tmod 31 = u := ⟨_, rfl⟩
          rw [hu] at e0 e1
          obtain ⟨d, hd⟩ : ∃ d, stp (z + u) (gn H) 20 = d := ⟨_, rfl⟩
          have SS := stp_stays (gn_bd H).1 (gn_bd H).2 ⟨z0, z1⟩ (e := u) (p := r) ⟨by omega, by omega⟩ ⟨r0, r1⟩
          have SB := stp_back (n := z + u) (gn_bd H).1 (show (0 : Int) ≤ 20 by decide)
          rw [hd] at SS SB
          obtain ⟨d0, d1, _⟩ := SB
          obtain ⟨t0, t1⟩ := SS
          have SC : Hid (∀ W, Calls Try.prog 8 #[.int .u8 m, .agg (vtA ⟨true, z + u, 3⟩), .agg (vtA H), .int .i64 0] W fun e w' => e = .returned (.int .i64 d) ∧ Below W.heap.size W w') := fun W => by
            rw [← hd]; exact SD.out (z + u) H W ⟨by omega, by omega⟩
          have i0 : IntKind.i8.wrap u = u := IntWalk.i8_in _ (by omega)
          have i1 : IntKind.i64.wrap u = u := IntWalk.i64_in _ (by omega)
          have i2 : IntKind.i64.wrap (z + u) = z + u := IntWalk.i64_in _ (by omega)
          have i3 : IntKind.i64.wrap (z + d) = z + d := IntWalk.i64_in _ (by omega)
          have i4 : IntKind.i64.wrap (z + d + r) = z + d + r := IntWalk.i64_in _ (by omega)
          clear hc hb hd SD
          go_upto_region 12 with (fail)
          have B4 : Hid (Below w.heap.size w wc.drew) := below_drewN B3.out 1
          have K4 : Hid (Blk wc.drew g (vtA H) 23) := K3.out
          clear B3 K3
          go_region_held3 (fun w' => (ldV (.pointer (some ⟨g, 0, none⟩))).run Try.prog w' = .ok (.agg (vtA H)) w' ∧ w'.cell? ⟨b, off + k, none⟩ = some (.int .i8 (E k)))
            (first
              | (with_reducible assumption)
              | exact ⟨ldV_blk K4.out, (B4.out.cell (p := ⟨b, off + k, none⟩) HLT.out).trans HC.out⟩)
            (first
            | ((with_reducible refine (atC (z + u) _).mono ?_); rintro e v ⟨rfl, bb⟩; replace B4 := Lib.hid (B4.out.trans (bb.mono B4.out.size)); replace K4 := Lib.hid (blk_kept K4.out bb); clear bb)
            | ((with_reducible refine (SC.out _).mono ?_); rintro e v ⟨rfl, bb⟩; replace B4 := Lib.hid (B4.out.trans (bb.mono B4.out.size)); replace K4 := Lib.hid (blk_kept K4.out bb); clear bb))
          all_goals
            clear i0 i1 i2 i3 i4 hu
            generalize z + d + r = z' at *
            go_wp2
            go_roundw
            case rel => exact ⟨k + 1, z', rfl, by go_num, by omega, by omega, t0, t1, B4.out⟩
            case measure => simp [intOf]; omega
    · have HK : Hid (k = n' ∨ k < n' ∧ k = 300) := by
        rcases Nat.lt_or_ge k n' with h3 | h3
        · exact .inr ⟨h3, by omega⟩
        · exact .inl (by omega)
      clear h hk3
      have HK' := HK.out
      clear HK
      rcases HK' with rfl | ⟨h3, rfl⟩
      · go_wp2_with fail
        refine (lives _).mono ?_
        rintro e v ⟨rfl, bb⟩
        have B4 := Lib.hid (HB.out.trans (bb.mono HB.out.size))
        clear bb
        go_wp2
        go_ret
        exact ⟨rfl, B4.out⟩
      · have j1 : ((300 : Nat) : Int) < (n' : Int) := by omega
        go_wp2_with fail
        refine (lives _).mono ?_
        rintro e v ⟨rfl, bb⟩
        have B4 := Lib.hid (HB.out.trans (bb.mono HB.out.size))
        clear bb
        go_wp2
        go_ret
        exact ⟨rfl, B4.out⟩
end

end Go.Proofs.Ytcoogkhhicbkeaa.Sd
