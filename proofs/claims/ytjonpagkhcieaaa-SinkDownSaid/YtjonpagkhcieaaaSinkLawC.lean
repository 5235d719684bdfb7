/- SinkDown: flared by a height that is wrong by up to 30, pushed by up to 1, from any height in the flare's band, it is down within 900 frames, and sinks by at most 4 then. Conditions: the numbers are of their types; slices lie as they were handed in. -/
import Derived.Test.YtjonpagkhcieaaaSinkLives
import Derived.Test.YtjonpagkhcieaaaSby
namespace Go.Proofs.Ytjonpagkhcieaaa.Sk
open Go.ChangeShapes Go.WideShapes Go.ChangeAt Go.RowKit Num Mem Band
open Sd (Sby)

/-- A place by a remainder. -/
theorem rem_nat (k n : Nat) (h : 0 < n) : ∃ r : Nat, (k : Int).tmod (n : Int) = (r : Int) ∧ r < n := ⟨k % n, (Int.ofNat_tmod k n).symm, Nat.mod_lt k h⟩

set_option maxRecDepth 100000 in
set_option maxHeartbeats 16000000 in
theorem downLaw (y : Int) (A' : Option Addr) (n' c' : Nat) (E : Nat → Int) (A'' : Option Addr) (n'' c'' : Nat) (P : Nat → Int) (w : World)
    (hy : 0 ≤ y ∧ y ≤ 65535) (hE : ∀ i, i < n' → -128 ≤ E i ∧ E i ≤ 127) (hQ : Sby w w.heap.size A' n' E) (hF : ∀ i, i < n'' → -128 ≤ P i ∧ P i ≤ 127) (hR : Sby w w.heap.size A'' n'' P)
    (hn' : n' ≤ maxLen) (hn'' : n'' ≤ maxLen) :
    Calls Try.prog 5 #[.int .u16 y, .slice A' n' c', .slice A'' n'' c''] w fun e w' => e = .returned (.bool true) ∧ Below w.heap.size w w' := by
  have HQ := Lib.hid hQ
  have HR := Lib.hid hR
  have HE := Lib.hid hE
  have HF := Lib.hid hF
  obtain ⟨y0, y1⟩ := hy
  unfold maxLen at hn' hn''
  clear hQ hR hE hF
  have x0 : 0 ≤ y % 1555 ∧ y % 1555 ≤ 1554 := by omega
  have SD : Hid (∀ (z : Int) (W : World), In z → Calls Try.prog 6 #[.int .u8 3, .agg (vtA ⟨true, 0, 3⟩), .agg (vtA ⟨true, z, 3⟩), .int .i64 0] W fun e w' => e = .returned (.int .i64 (flr z)) ∧ Below W.heap.size W w') := fun z W hz => by
    have := sinkC 3 ⟨true, 0, 3⟩ ⟨true, z, 3⟩ 0 (inI (by decide)) hz (inI (by decide)) W
    rwa [snk_mid _ _ _ (.inl rfl), fol_flr] at this
  go_enter Try.func5, Try.ntmps5
  go_upto_region 2 with (fail)
  generalize y % 1555 = x at *
  obtain ⟨x0, x1⟩ := x0
  have HX := Lib.hid (And.intro x0 x1)
  clear x0 x1 y0 y1
  go_wp2_with fail
  go_loopw [7, 8] (fun a i wr => ∃ (k : Nat) (z : Int), a = .int .i64 z ∧ i = .int .i64 k ∧ 0 ≤ z ∧ z + 2 * (k : Int) ≤ 1554 ∧ Below w.heap.size w wr) (fun _ i _ => 900 - (intOf i).toNat)
  case atStart => exact ⟨0, x, rfl, rfl, HX.out.1, by have := HX.out.2; omega, Below.refl _ _⟩
  case round =>
    rename_i wr
    obtain ⟨k, z, rfl, rfl, z0, zk, B⟩ := hrel
    have HB := Lib.hid B
    clear B HX
    have k0 : (0 : Int) ≤ (k : Int) := Int.natCast_nonneg _
    have j0 : (k : Int) < 900 := by omega
    go_upto_if 21 with (fail)
    go_cut [9] from 15 to 76 (fun q wx => ∃ r : Int, q = .int .i64 r ∧ -30 ≤ r ∧ r ≤ 30 ∧ wx = wr)
    case first =>
      by_cases hh : 0 < n'
      · obtain ⟨r, hr, hr'⟩ := rem_nat k n' hh
        obtain ⟨b, off, rfl, hb, hc⟩ := (HQ.out.below HB.out) hh
        have c0 := hc r hr'
        obtain ⟨p0, p1⟩ := HE.out r hr'
        obtain ⟨q0, q1⟩ := tmod_bd (E r) 31 (by decide)
        clear hc
        have j3 : 0 < (n' : Int) := by omega
        have j4 : (r : Int) < (n' : Int) := by omega
        have j5 : (0 : Int) ≤ (r : Int) := Int.natCast_nonneg _
        go_wp2_with fail
        go_meet
        exact ⟨_, rfl, by omega, by omega, rfl⟩
      · have j3 : ¬ 0 < (n' : Int) := by omega
        go_wp2_with fail
        go_meet
        exact ⟨0, rfl, by decide, by decide, rfl⟩
    case rest =>
      obtain ⟨u, rfl, u0, u1, rfl⟩ := hcut
      go_upto_if 33 with (fail)
      go_cut [10] from 15 to 76 (fun q wx => ∃ r : Int, q = .int .i64 r ∧ -1 ≤ r ∧ r ≤ 1 ∧ wx = wc)
      case first =>
        by_cases hh : 0 < n''
        · obtain ⟨r, hr, hr'⟩ := rem_nat k n'' hh
          obtain ⟨b, off, rfl, hb, hc⟩ := (HR.out.below HB.out) hh
          have c0 := hc r hr'
          obtain ⟨p0, p1⟩ := HF.out r hr'
          obtain ⟨q0, q1⟩ := tmod_bd (P r) 2 (by decide)
          clear hc
          have j3 : 0 < (n'' : Int) := by omega
          have j4 : (r : Int) < (n'' : Int) := by omega
          have j5 : (0 : Int) ≤ (r : Int) := Int.natCast_nonneg _
          go_wp2_with fail
          go_meet
          exact ⟨_, rfl, by omega, by omega, rfl⟩
        · have j3 : ¬ 0 < (n'' : Int) := by omega
          go_wp2_with fail
          go_meet
          exact ⟨0, rfl, by decide, by decide, rfl⟩
      case rest =>
        obtain ⟨r, rfl, r0, r1, rfl⟩ := hcut
        have FD := Lib.hid (fun h => flr_down (z := z) (u := u) (r := r) h u1 r1)
        obtain ⟨f0, f1⟩ := flr_bd (z + u)
        have SC := Lib.hid (fun W => SD.out (z + u) W ⟨by omega, by omega⟩)
        generalize flr (z + u) = f at *
        go_wp2_with fail
        refine (atC 0 _).mono ?_
        rintro e v1 ⟨rfl, bb⟩
        have B1 := Lib.hid (HB.out.trans (bb.mono HB.out.size))
        clear bb HB
        go_wp2_with fail
        refine (atC (z + u) _).mono ?_
        rintro e v2 ⟨rfl, bb⟩
        have B2 := Lib.hid (B1.out.trans (bb.mono B1.out.size))
        clear bb B1
        go_wp2_with fail
        refine (SC.out _).mono ?_
        rintro e v3 ⟨rfl, bb⟩
        have B3 := Lib.hid (B2.out.trans (bb.mono B2.out.size))
        clear bb B2 SC SD
        by_cases hz : z ≤ f + r
        · have d := FD.out hz
          by_cases hp : 0 < z
          · go_wp2_with fail
            refine (lives _).mono ?_
            rintro e v4 ⟨rfl, bb⟩
            have B4 := Lib.hid (B3.out.trans (bb.mono B3.out.size))
            clear bb B3
            go_wp2
            go_ret
            exact ⟨rfl, B4.out⟩
          · go_wp2_with fail
            refine (lives _).mono ?_
            rintro e v4 ⟨rfl, bb⟩
            have B4 := Lib.hid (B3.out.trans (bb.mono B3.out.size))
            clear bb B3
            go_wp2
            go_ret
            exact ⟨rfl, B4.out⟩
        · go_wp2_with fail
          go_roundw
          case rel => exact ⟨k + 1, z - (f + r), rfl, by go_num, by omega, by omega, B3.out⟩
          case measure => simp [intOf]; omega

end Go.Proofs.Ytjonpagkhcieaaa.Sk
