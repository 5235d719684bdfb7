/- Contract of the document's own Vote. Conditions: numbers are int64. -/
import Derived.Test.YtdjemiimnpkfnaaLanesVote
import Derived.Deep.DeepCutAuto
namespace Go.Proofs.Ytdjemiimnpkfnaa.Lanes
open Go.ChangeShapes Go.WideShapes Go.ChangeAt Go.RowKit Num Mid

structure RvAt (w0 : World) (own : Nat) (X : Nat → Nat → Int) (H : Nat → Bool) (i : Nat) (w : World) : Prop where
  below : Below w0.heap.size w0 w
  hx : Blk w w0.heap.size (c9 X) 24
  hh : Blk w (w0.heap.size + 1) (b3A H) 25
  hr : Blk w (w0.heap.size + 1 + 1) (cA zC) 23
  ho : Blk w (w0.heap.size + 1 + 1 + 1) (cA (mixT 3 (vtX own X H 3) i)) 41
theorem rv_box (w : World) (own : Nat) (X : Nat → Nat → Int) (H : Nat → Bool) : RvAt w own X H 0 ((((w.alloc (.cells (c9 X) 24)).alloc (.cells (b3A H) 25)).alloc (.cells (cA zC) 23)).alloc (.cells (cA zC) 41)) :=
  ⟨below_new (below_new (below_new (allocs w _) _) _) _, blk_kept (blk_kept (blk_kept (blk_alloc w (c9 X) _) (allocs _ _)) (allocs _ _)) (allocs _ _), blk_kept (blk_kept (blk_alloc2 w _ _ _) (allocs _ _)) (allocs _ _), blk_kept (blk_alloc3 w _ _ _ _) (allocs _ _),
    blk_eq (us := cA zC) (cA_as fun j _ => by simp [mixT]) (by have h := blk_alloc3 (w.alloc (.cells (c9 X) 24)) (.cells (b3A H) 25) (.cells (cA zC) 23) (cA zC) 41; rw [World.size_alloc] at h; exact h)⟩
theorem rv_call {w0 w w1 : World} {own : Nat} {X : Nat → Nat → Int} {H : Nat → Bool} {i : Nat} (h : RvAt w0 own X H i w) (b : Below w.heap.size w w1) : RvAt w0 own X H i w1 :=
  ⟨bthen h.below b, blk_kept h.hx b, blk_kept h.hh b, blk_kept h.hr b, blk_kept h.ho b⟩
structure RnAt (w0 : World) (own : Nat) (X : Nat → Nat → Int) (H : Nat → Bool) (i g : Nat) (c : Nat → Int) (w : World) : Prop where
  rv : RvAt w0 own X H i w
  low : w0.heap.size + 1 + 1 + 1 < g
  hn : Blk w g (cA c) 41
theorem rn_new {w0 w : World} {own : Nat} {X : Nat → Nat → Int} {H : Nat → Bool} {i : Nat} (h : RvAt w0 own X H i w) : RnAt w0 own X H i w.heap.size zC (w.alloc (.cells (cA zC) 41)) :=
  ⟨rv_call h (allocs _ _), blk_lt h.ho, blk_alloc _ _ _⟩
theorem rn_call {w0 w w1 : World} {own : Nat} {X : Nat → Nat → Int} {H : Nat → Bool} {i g : Nat} {c : Nat → Int} (h : RnAt w0 own X H i g c w) (b : Below w.heap.size w w1) : RnAt w0 own X H i g c w1 :=
  ⟨rv_call h.rv b, h.low, blk_kept h.hn b⟩
theorem rn_set {w0 w : World} {own : Nat} {X : Nat → Nat → Int} {H : Nat → Bool} {i g : Nat} {c d : Nat → Int} (h : RnAt w0 own X H i g c w) {k : Nat} {v : Int} (hk : k < 3) (e : ∀ a, a < 3 → (if a = k then v else c a) = d a) : RnAt w0 own X H i g d (w.setCell ⟨g, k, none⟩ (.int .i64 v)) :=
  have l := h.low
  ⟨⟨h.rv.below.setCell (show w0.heap.size ≤ g by omega) _, blk_far h.rv.hx _ _ (by omega), blk_far h.rv.hh _ _ (by omega), blk_far h.rv.hr _ _ (by omega), blk_far h.rv.ho _ _ (by omega)⟩, h.low,
    blk_eq (cA_set _ _ _ k hk e) (blk_set h.hn _ _)⟩
theorem rn_as {w0 w : World} {own : Nat} {X : Nat → Nat → Int} {H : Nat → Bool} {i g : Nat} {c d : Nat → Int} (h : RnAt w0 own X H i g c w) (e : ∀ a, a < 3 → c a = d a) : RnAt w0 own X H i g d w :=
  ⟨h.rv, h.low, blk_eq (cA_as e) h.hn⟩
theorem rv_set {w0 w : World} {own : Nat} {X : Nat → Nat → Int} {H : Nat → Bool} {i : Nat} {v : Int} (h : RvAt w0 own X H i w) (hi : i < 3) (e : v = tg 3 (vtX own X H 3) i) : RvAt w0 own X H (i + 1) (w.setCell ⟨w0.heap.size + 1 + 1 + 1, i, none⟩ (.int .i64 v)) :=
  ⟨h.below.setCell (show w0.heap.size ≤ w0.heap.size + 1 + 1 + 1 by omega) _, blk_far h.hx _ _ (by omega), blk_far h.hh _ _ (by omega), blk_far h.hr _ _ (by omega),
    blk_eq (cA_set _ _ _ i hi fun k hk => by
      subst e
      simp only [mixT]
      by_cases e : k = i
      · subst e; rw [if_pos rfl, if_pos (by omega)]
      · rw [if_neg e]
        by_cases l : k < i
        · rw [if_pos l, if_pos (by omega)]
        · rw [if_neg l, if_neg (by omega)]) (blk_set h.ho _ _)⟩
/-- The first k numbers are laid; the next one is its own. -/
def nX (own : Nat) (X : Nat → Nat → Int) (H : Nat → Bool) (i k q : Nat) : Int := if q < k then vtX own X H 3 q i else 0
def nY (own : Nat) (X : Nat → Nat → Int) (H : Nat → Bool) (i k q : Nat) : Int := if q = k then X own i else nX own X H i k q
theorem vtX_is (own : Nat) (X : Nat → Nat → Int) (H : Nat → Bool) (k : Nat) (hk : k < 3) : vtX own X H 3 k = if H k then X k else X own := by
  unfold vtX
  cases h : H k <;> simp [hk]
theorem nY_own {own : Nat} {X : Nat → Nat → Int} {H : Nat → Bool} {i k : Nat} (hk : k < 3) (h : k = own ∨ H k = false) (q : Nat) : nY own X H i k q = nX own X H i (k + 1) q := by
  unfold nY nX
  by_cases e : q = k
  · subst e
    rw [if_pos rfl, if_pos (by omega), vtX_is own X H q hk]
    rcases h with rfl | h
    · cases H q <;> rfl
    · rw [h]; rfl
  · rw [if_neg e]
    by_cases l : q < k
    · rw [if_pos l, if_pos (by omega)]
    · rw [if_neg l, if_neg (by omega)]
theorem nY_set {own : Nat} {X : Nat → Nat → Int} {H : Nat → Bool} {i k : Nat} (hk : k < 3) (h : H k = true) (q : Nat) : (if q = k then X k i else nY own X H i k q) = nX own X H i (k + 1) q := by
  unfold nY nX
  by_cases e : q = k
  · subst e
    rw [if_pos rfl, if_pos (by omega), vtX_is own X H q hk, h]; rfl
  · rw [if_neg e, if_neg e]
    by_cases l : q < k
    · rw [if_pos l, if_pos (by omega)]
    · rw [if_neg l, if_neg (by omega)]
theorem nX_3 (own : Nat) (X : Nat → Nat → Int) (H : Nat → Bool) (i : Nat) : middle (nX own X H i 3 0) (nX own X H i 3 1) (nX own X H i 3 2) = tg 3 (vtX own X H 3) i := by
  simp [nX, tg, ofN]

set_option maxHeartbeats 4000000 in
theorem rVoteNo (a : Int) (ha : a < 0 ∨ 3 ≤ a) (X : Nat → Nat → Int) (H : Nat → Bool) (w : World) :
    Calls Try.prog 7 #[.int .i64 a, .agg (c9 X), .agg (b3A H)] w fun e w' => e = .returned (.tuple #[.agg (cA zC), .int .i64 2]) ∧ Below w.heap.size w w' := by
  have K0 := Lib.hid (vote_box w 0 X H)
  have HE := Lib.hid (vote_row K0.out zC)
  rcases ha with h1 | h1
  all_goals
    (try have h0 : ¬ a < 0 := by omega)
    go_enter Try.func7, Try.ntmps7
    go_wp2_with ((with_reducible refine store_c rfl (.tmp 6) (.tmp 18) rfl (w.heap.size + 1 + 1) zC zC K0.out.hr ?_ ?_ ?_); rfl; rfl)
    refine bodyPost_ret (v := .tuple #[.agg (cA zC), .int .i64 2]) ?_ rfl ⟨rfl, HE.out.1⟩
    exact ret_ce Try.results7 _ _ (w.heap.size + 1 + 1) zC _ rfl rfl HE.out.2

set_option maxHeartbeats 4000000 in
theorem rVoteC (own : Nat) (ho : own < 3) (X : Nat → Nat → Int) (H : Nat → Bool) (w : World) :
    Calls Try.prog 7 #[.int .i64 (own : Int), .agg (c9 X), .agg (b3A H)] w fun e w' => e = .returned (.tuple #[.agg (cA (vote own X H)), .int .i64 0]) ∧ Below w.heap.size w w' := by
  have K0 := Lib.hid (rv_box w own X H)
  have HO := Lib.hid ho
  have o0 : (0 : Int) ≤ (own : Int) := Int.natCast_nonneg _
  have o3 : (own : Int) < 3 := by omega
  clear ho
  go_enter Try.func7, Try.ntmps7
  go_wp2_with fail
  generalize World.alloc (World.alloc (World.alloc (World.alloc w _) _) _) _ = W at *
  go_loopw [9] (fun v wr => ∃ i : Nat, v = .int .i64 i ∧ i ≤ 3 ∧ RvAt w own X H i wr) (fun v _ => 3 - (intOf v).toNat)
  case atStart => exact ⟨0, rfl, by omega, K0.out⟩
  case round =>
    rename_i wr
    obtain ⟨i, rfl, hi, V⟩ := hrel
    have HA := Lib.hid V
    clear V K0
    by_cases hi3 : i < 3
    · have i0 : (0 : Int) ≤ (i : Int) := Int.natCast_nonneg _
      have i3 : (i : Int) < 3 := by omega
      have N0 := Lib.hid (rn_new HA.out)
      have jx := fun c W => ix_i c W i hi3
      clear HA
      go_wp2
      generalize World.alloc wr _ = V at *
      generalize wr.heap.size = g at *
      go_loopw [11] (fun v wn => ∃ k : Nat, v = .int .i64 k ∧ k ≤ 3 ∧ RnAt w own X H i g (nX own X H i k) wn) (fun v _ => 3 - (intOf v).toNat)
      case atStart => exact ⟨0, rfl, by omega, rn_as N0.out fun a _ => by simp [nX]⟩
      case round =>
        rename_i wn
        obtain ⟨k, rfl, hk, M⟩ := hrel
        have HM := Lib.hid M
        clear M N0
        by_cases hk3 : k < 3
        · have k0 : (0 : Int) ≤ (k : Int) := Int.natCast_nonneg _
          have k3 : (k : Int) < 3 := by omega
          go_wp2_with ((with_reducible refine load_cr rfl (.tmp 29) rfl w.heap.size (own * 3) (X own) (c9_range HM.out.rv.hx HO.out) ?_ ?_); rfl)
          refine (numsC (X own) _).mono ?_
          rintro e w2 ⟨rfl, b2⟩
          have HB := Lib.hid (rn_call HM.out b2)
          clear b2 HM
          have c0 := blk_cell HB.out.hn (cA_at _ k hk3)
          have f0 := blk_free HB.out.hn k
          have HC := Lib.hid (rn_set (d := nY own X H i k) (v := X own i) HB.out hk3 (fun a _ => rfl))
          clear HB
          go_upto_region 12 with (fail)
          change Code.wp _ _ _ _ (w2.setCell _ (.int .i64 (X own i)))
          clear c0 f0
          generalize World.setCell w2 _ _ = U at *
          by_cases ho : k = own
          · have hne : ((k : Int) != (own : Int)) = false := by simp; omega
            have HO2 := Lib.hid ho
            clear ho
            go_wp2
            go_roundw
            case rel => exact ⟨k + 1, by go_num, by omega, rn_as HC.out fun q _ => nY_own hk3 (.inl HO2.out) q⟩
            case measure => simp [intOf]; omega
          · have hne : ((k : Int) != (own : Int)) = true := by simp; omega
            have c1 := blk_cell HC.out.rv.hh (b3_at H k hk3)
            clear ho
            cases hH : H k
            · rw [hH] at c1
              have HH := Lib.hid hH
              clear hH
              go_wp2
              go_roundw
              case rel => exact ⟨k + 1, by go_num, by omega, rn_as HC.out fun q _ => nY_own hk3 (.inr HH.out) q⟩
              case measure => simp [intOf]; omega
            · rw [hH] at c1
              have HH := Lib.hid hH
              clear hH
              go_wp2_with ((with_reducible refine load_cr rfl (.tmp 45) rfl w.heap.size (k * 3) (X k) (c9_range HC.out.rv.hx hk3) ?_ ?_); rfl)
              refine (numsC (X k) _).mono ?_
              rintro e w3 ⟨rfl, b3⟩
              have HD := Lib.hid (rn_call HC.out b3)
              clear b3 HC c1
              have c0 := blk_cell HD.out.hn (cA_at _ k hk3)
              have f0 := blk_free HD.out.hn k
              go_wp2
              go_roundw
              case rel => exact ⟨k + 1, by go_num, by omega, rn_set HD.out hk3 fun q _ => nY_set hk3 HH.out q⟩
              case measure => simp [intOf]; omega
        · obtain rfl : k = 3 := by omega
          have e3 : ((3 : Nat) : Int) = 3 := rfl
          have c0 := blk_cell HM.out.hn (o := 0) (v := .int .i64 (nX own X H i 3 0)) rfl
          have c1 := blk_cell HM.out.hn (o := 1) (v := .int .i64 (nX own X H i 3 1)) rfl
          have c2 := blk_cell HM.out.hn (o := 2) (v := .int .i64 (nX own X H i 3 2)) rfl
          have c3 := blk_cell HM.out.rv.ho (cA_at _ i hi3)
          have f3 := blk_free HM.out.rv.ho i
          go_wp2_with fail
          refine (rMiddle _ _ _ _).mono ?_
          rintro e w2 ⟨rfl, rfl⟩
          go_wp2
          go_roundw
          case rel => exact ⟨i + 1, by go_num, by omega, rv_set HM.out.rv hi3 (nX_3 _ _ _ _)⟩
          case measure => simp [intOf]; omega
    · obtain rfl : i = 3 := by omega
      have e3 : ((3 : Nat) : Int) = 3 := rfl
      have KR : Hid (Blk wr (w.heap.size + 1 + 1 + 1) (cA (vote own X H)) 41) := blk_eq (cA_as fun k hk => by simp [mixT, hk]) HA.out.ho
      go_wp2_with ((with_reducible refine load_i3 rfl (.tmp 8) rfl (w.heap.size + 1 + 1 + 1) (vote own X H) KR.out ?_ ?_); rfl)
      refine (cmdC _ _).mono ?_
      rintro e w2 ⟨rfl, b2⟩
      have HB := Lib.hid (rv_call HA.out b2)
      clear b2 HA KR
      go_wp2_with ((with_reducible refine store_c rfl (.tmp 6) (.tmp 61) rfl (w.heap.size + 1 + 1) (vote own X H) zC HB.out.hr ?_ ?_ ?_); rfl; rfl)
      refine bodyPost_ret (v := .tuple #[.agg (cA (vote own X H)), .int .i64 0]) ?_ rfl ⟨rfl, below_row HB.out.below (by omega) _⟩
      exact ret_ce Try.results7 _ _ (w.heap.size + 1 + 1) (vote own X H) _ rfl rfl (blk_row HB.out.hr _)

end Go.Proofs.Ytdjemiimnpkfnaa.Lanes
