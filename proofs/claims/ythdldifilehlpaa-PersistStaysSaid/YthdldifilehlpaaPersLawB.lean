/- The walk of the law PersistStays: it returns true and turns nothing that was there. Conditions: the frames are a slice of bools. -/
import Derived.Test.YthdldifilehlpaaPersLives
import Derived.Deep.DeepCutAuto
namespace Go.Proofs.Ythdldifilehlpaa.Pers
open Go.ChangeShapes Go.WideShapes Go.ChangeAt Go.RowKit Num Bl

theorem mayQ (b g : Int) (o : Bool) (h : may ⟨b, o, g⟩ = true) (w : World) :
    Calls Try.prog 7 #[.agg #[.int .i64 b, .bool o, .int .i64 g]] w fun e w' => e = .returned (.bool true) ∧ Below w.heap.size w w' := by
  rw [← h]; exact mayC ⟨b, o, g⟩ w

theorem more_small {n : Int} (h : n < 65536) : more n = n + 1 := by unfold more; rw [if_pos h]
/-- The ways that a frame goes, where the counts are small. -/
theorem stay_ways {b g : Int} {o : Bool} (z k : Bool) (hm : may ⟨b, o, g⟩ = true) (hb : b < 65536) (hg : g < 65536) :
    (z = true ∧ o = false ∧ b + 1 < 4 ∧ next ⟨b, o, g⟩ z k = ⟨b + 1, false, 0⟩)
    ∨ (z = true ∧ o = false ∧ 4 ≤ b + 1 ∧ k = true ∧ next ⟨b, o, g⟩ z k = ⟨b + 1, true, 0⟩) ∨ (z = true ∧ o = false ∧ 4 ≤ b + 1 ∧ k = false ∧ next ⟨b, o, g⟩ z k = ⟨b + 1, true, 0⟩)
    ∨ (z = true ∧ o = true ∧ b + 1 < 4 ∧ k = true ∧ next ⟨b, o, g⟩ z k = ⟨b + 1, true, 0⟩) ∨ (z = true ∧ o = true ∧ b + 1 < 4 ∧ k = false ∧ next ⟨b, o, g⟩ z k = ⟨b + 1, true, 0⟩)
    ∨ (z = true ∧ o = true ∧ 4 ≤ b + 1 ∧ k = true ∧ next ⟨b, o, g⟩ z k = ⟨b + 1, true, 0⟩) ∨ (z = true ∧ o = true ∧ 4 ≤ b + 1 ∧ k = false ∧ next ⟨b, o, g⟩ z k = ⟨b + 1, true, 0⟩)
    ∨ (z = false ∧ o = false ∧ next ⟨b, o, g⟩ z k = ⟨0, false, g + 1⟩) ∨ (z = false ∧ o = true ∧ k = false ∧ next ⟨b, o, g⟩ z k = ⟨0, true, g + 1⟩)
    ∨ (z = false ∧ o = true ∧ k = true ∧ g + 1 < 20 ∧ next ⟨b, o, g⟩ z k = ⟨0, true, g + 1⟩) ∨ (z = false ∧ o = true ∧ k = true ∧ 20 ≤ g + 1 ∧ next ⟨b, o, g⟩ z k = h0) := by
  unfold next
  rw [if_neg (by simp [hm])]
  simp only [more_small hb, more_small hg]
  cases z <;> cases o <;> cases k <;> simp <;> omega

theorem next_may (s : Hl) (z k : Bool) : may (next s z k) = true := by
  have more_in : ∀ {n : Int}, 0 ≤ n → 0 ≤ more n ∧ more n ≤ 65536 := fun h => by unfold more; split <;> omega
  cases hm : may s
  · rw [next_no hm]; rfl
  · have h := may_of hm
    have mb := more_in h.1.1
    have mg := more_in h.2.1.1
    cases z
    · unfold next
      rw [if_neg (by simp [hm]), if_neg (by simp)]
      split
      · rfl
      · exact may_mk (by simp) mg (.inl rfl) (.inr (show (0 : Int) < 4 by decide))
    · rw [next_bad hm]
      refine may_mk mb (by simp) (.inr rfl) ?_
      show (s.o || decide (4 ≤ more s.b)) = true ∨ more s.b < 4
      by_cases h4 : 4 ≤ more s.b
      · left; simp [h4]
      · right; omega

/-- Behind j frames, j small: a health that may be, its counts at most j. -/
theorem run_small (L : Nat → Bool) (k : Bool) (j : Nat) (hj : j ≤ 1000) : may (run h0 L k j) = true ∧ 0 ≤ (run h0 L k j).b ∧ (run h0 L k j).b ≤ j ∧ 0 ≤ (run h0 L k j).g ∧ (run h0 L k j).g ≤ j := by
  induction j with
  | zero => exact ⟨rfl, by simp [run], by simp [run], by simp [run], by simp [run]⟩
  | succ j ih =>
    obtain ⟨hm, i0, i1, i2, i3⟩ := ih (by omega)
    refine ⟨next_may _ _ _, ?_⟩
    show 0 ≤ (next (run h0 L k j) (L j) k).b ∧ (next (run h0 L k j) (L j) k).b ≤ _ ∧ 0 ≤ (next (run h0 L k j) (L j) k).g ∧ (next (run h0 L k j) (L j) k).g ≤ _
    generalize run h0 L k j = s at *
    obtain ⟨b, o, g⟩ := s
    simp only at i0 i1 i2 i3
    rcases stay_ways (L j) k hm (by omega) (by omega) with h | h | h | h | h | h | h | h | h | h | h
    all_goals
      have e := h
      simp only [← and_assoc] at e
      rw [e.2]
      simp
      try omega

set_option maxRecDepth 100000 in
set_option maxHeartbeats 20000000 in
theorem staysLaw (A : Option Addr) (n c : Nat) (L : Nat → Bool) (k : Bool) (w : World) (hn : n ≤ maxLen) (hP : Bls w w.heap.size A n L) :
    Calls Try.prog 4 #[.slice A n c, .bool k] w fun e w' => e = .returned (.bool true) ∧ Below w.heap.size w w' := by
  unfold maxLen at hn
  have HP := Lib.hid hP
  clear hP
  go_enter Try.func4, Try.ntmps4
  go_wp2
  go_loopw [6, 7, 8, 9] (fun p q o i wr => ∃ j : Nat, j ≤ n ∧ j ≤ 1000 ∧ i = .int .i64 j ∧ p = .int .i64 (run h0 L k j).b ∧ q = .int .i64 (run h0 L k j).g ∧ o = .bool (run h0 L k j).o ∧ Below w.heap.size w wr ∧ Blk wr w.heap.size (hc (run h0 L k j)) 23)
    (fun _ _ _ i _ => 1000 - (intOf i).toNat)
  case atStart => exact ⟨0, Nat.zero_le _, Nat.zero_le _, rfl, rfl, rfl, rfl, (Below.refl _ w).alloc (Nat.le_refl _) _, blk_alloc w _ _⟩
  case round =>
    obtain ⟨j, hj, hj2, rfl, rfl, rfl, rfl, hB, hX⟩ := hrel
    have HB := Lib.hid hB
    have HX := Lib.hid hX
    by_cases hlt : j < n
    · by_cases hlt2 : j < 1000
      · obtain ⟨b, off, rfl, hb, hc0⟩ := HP.out (by omega)
        have hcl := (hB.cell (p := ⟨b, off + j, none⟩) hb).trans (hc0 j hlt)
        have hcl0 := hc0 j hlt
        have ltx := blk_lt hX
        clear hc0 hB hX
        obtain ⟨hm, i0, i1, i2, i3⟩ := run_small L k j (by omega)
        have HE : Hid (run h0 L k (j + 1) = next (run h0 L k j) (L j) k) := show run h0 L k (j + 1) = _ from rfl
        have HY := Lib.hid (next_may (run h0 L k j) (L j) k)
        have cN : ∀ W, Calls Try.prog 9 #[hv (run h0 L k j), .bool (L j), .bool k] W _ := fun W => nextC (run h0 L k j) (L j) k W
        have ways := stay_ways (b := (run h0 L k j).b) (g := (run h0 L k j).g) (o := (run h0 L k j).o) (L j) k hm (by omega) (by omega)
        have HW := Lib.hid ways
        have HI := Lib.hid (And.intro i0 (And.intro i1 (And.intro i2 i3)))
        clear ways hm i0 i1 i2 i3
        have e3 : (⟨(run h0 L k j).b, (run h0 L k j).o, (run h0 L k j).g⟩ : Hl) = run h0 L k j := rfl
        rw [e3] at HW
        clear e3
        generalize run h0 L k j = x at *
        generalize hy : next x (L j) k = y at *
        clear hy
        generalize L j = z at *
        have x0 := blk_cell HX.out (o := 0) (v := .int .i64 x.b) rfl
        have x1 := blk_cell HX.out (o := 1) (v := .bool x.o) rfl
        have x2 := blk_cell HX.out (o := 2) (v := .int .i64 x.g) rfl
        go_upto_region 7 with fail
        go_cut [] from 11 to 27 (fun wx => Hid (Below w.heap.size w wx ∧ Blk wx w.heap.size (hc y) 23))
        case first =>
          go_region_with (go_at_call 9; refine (cN _).mono ?_; rintro e w1 ⟨rfl, b1⟩; have BN := Lib.hid (below_at (w := wr) b1); have K1 := Lib.hid (blk_kept HX.out (below_at b1)); have n0 := blk_cell K1.out (o := 0) (v := .int .i64 x.b) rfl; have n1 := blk_cell K1.out (o := 1) (v := .bool x.o) rfl; have n2 := blk_cell K1.out (o := 2) (v := .int .i64 x.g) rfl; have f0 := blk_free K1.out 0; have f1 := blk_free K1.out 1; have f2 := blk_free K1.out 2; clear b1)
          all_goals
            go_wp2_with fail
            go_meet
            exact ⟨below_put (HB.out.trans (BN.out.mono HB.out.size)) (Nat.le_refl _) _ _ _, blk_put K1.out _ _ _⟩
        case rest =>
          have KB := Lib.hid hcut.out.1
          have KX := Lib.hid hcut.out.2
          have hclw := (hcut.out.1.cell (p := ⟨b, off + j, none⟩) hb).trans hcl0
          clear hcut x0 x1 x2 hcl hcl0 cN HX HB ltx
          have W := HW.out
          have I := HI.out
          clear HW HI
          obtain ⟨xb, xo, xg⟩ := x
          dsimp only at W I
          obtain ⟨i0, i1, i2, i3⟩ := I
          rcases W with ⟨rfl, rfl, h4, rfl⟩ | ⟨rfl, rfl, h4, rfl, rfl⟩ | ⟨rfl, rfl, h4, rfl, rfl⟩ | ⟨rfl, rfl, h4, rfl, rfl⟩ | ⟨rfl, rfl, h4, rfl, rfl⟩ | ⟨rfl, rfl, h4, rfl, rfl⟩ | ⟨rfl, rfl, h4, rfl, rfl⟩ | ⟨rfl, rfl, rfl⟩ | ⟨rfl, rfl, rfl, rfl⟩ | ⟨rfl, rfl, rfl, h4, rfl⟩ | ⟨rfl, rfl, rfl, h4, rfl⟩
          all_goals
            have y0 := blk_cell KX.out (o := 0) rfl
            have y1 := blk_cell KX.out (o := 1) rfl
            have y2 := blk_cell KX.out (o := 2) rfl
            go_wp2_with fail
            refine (mayQ _ _ _ HY.out _).mono ?_
            rintro e w5 ⟨rfl, b5⟩
            have K5 := Lib.hid (blk_kept KX.out b5)
            have B5 := Lib.hid (KB.out.trans (b5.mono KB.out.size))
            clear b5
            go_wp2
            go_roundw
            case rel => exact ⟨j + 1, by omega, by omega, by go_num, by rw [HE.out], by rw [HE.out], by rw [HE.out], B5.out, by rw [HE.out]; exact K5.out⟩
            case measure => simp [intOf]; omega
      · obtain rfl : j = 1000 := by omega
        clear hB hX
        go_wp2_with fail
        refine (lives _).mono ?_
        rintro e w5 ⟨rfl, b5⟩
        have B5 := Lib.hid (HB.out.trans (b5.mono HB.out.size))
        clear b5
        go_wp2
        go_ret
        exact ⟨rfl, B5.out⟩
    · obtain rfl : j = n := by omega
      clear hB hX
      go_wp2_with fail
      refine (lives _).mono ?_
      rintro e w5 ⟨rfl, b5⟩
      have B5 := Lib.hid (HB.out.trans (b5.mono HB.out.size))
      clear b5
      go_wp2
      go_ret
      exact ⟨rfl, B5.out⟩

end Go.Proofs.Ythdldifilehlpaa.Pers
