/- Contract of lanes.Vote: what a lane takes, or its error. Conditions: numbers are int64. -/
import Derived.Test.YtdjemiimnpkfnaaLanesTog
namespace Go.Proofs.Ytdjemiimnpkfnaa.Lanes
open Go.ChangeShapes Go.WideShapes Go.ChangeAt Go.RowKit Num Mid

/-- Its own in the place of what it did not hear, of the first n. -/
def vtX (own : Nat) (X : Nat → Nat → Int) (H : Nat → Bool) (n i : Nat) : Nat → Int := if i < n ∧ H i = false then X own else X i
theorem vtX_own (own : Nat) (X : Nat → Nat → Int) (H : Nat → Bool) (n : Nat) : vtX own X H n own = X own := by unfold vtX; split <;> rfl
theorem vtX_0 (own : Nat) (X : Nat → Nat → Int) (H : Nat → Bool) (i : Nat) : vtX own X H 0 i = X i := by unfold vtX; rw [if_neg (by omega)]
theorem vtX_on (own : Nat) (X : Nat → Nat → Int) (H : Nat → Bool) (k : Nat) (h : H k = true) (i : Nat) : vtX own X H (k + 1) i = vtX own X H k i := by
  unfold vtX
  by_cases e : i = k
  · subst e; simp [h]
  · by_cases l : i < k
    · simp [l, show i < k + 1 by omega]
    · simp [l, show ¬ i < k + 1 by omega]
theorem vtX_off (own : Nat) (X : Nat → Nat → Int) (H : Nat → Bool) (k : Nat) (h : H k = false) (i : Nat) : vtX own X H (k + 1) i = updT (vtX own X H k) k (X own) i := by
  unfold updT vtX
  by_cases e : i = k
  · subst e; simp [h]
  · by_cases l : i < k
    · simp [l, e, show i < k + 1 by omega]
    · simp [l, e, show ¬ i < k + 1 by omega]
/-- What a lane takes. -/
abbrev vote (own : Nat) (X : Nat → Nat → Int) (H : Nat → Bool) : Nat → Int := tg 3 (vtX own X H 3)
structure VoteAt (w0 : World) (own : Nat) (X : Nat → Nat → Int) (H : Nat → Bool) (n : Nat) (w : World) : Prop where
  below : Below w0.heap.size w0 w
  hx : Blk w w0.heap.size (c9 (vtX own X H n)) 24
  hh : Blk w (w0.heap.size + 1) (b3A H) 25
  hr : Blk w (w0.heap.size + 1 + 1) (cA zC) 23
theorem vote_box (w : World) (own : Nat) (X : Nat → Nat → Int) (H : Nat → Bool) : VoteAt w own X H 0 (((w.alloc (.cells (c9 X) 24)).alloc (.cells (b3A H) 25)).alloc (.cells (cA zC) 23)) :=
  ⟨below_new (below_new (allocs w _) _) _, blk_eq (c9_as fun i j _ _ => by rw [vtX_0]) (blk_kept (blk_kept (blk_alloc w (c9 X) _) (allocs _ _)) (allocs _ _)), blk_kept (blk_alloc2 w _ _ _) (allocs _ _), blk_alloc3 w _ _ _ _⟩
theorem vote_call {w0 w w1 : World} {own : Nat} {X : Nat → Nat → Int} {H : Nat → Bool} {n : Nat} (h : VoteAt w0 own X H n w) (b : Below w.heap.size w w1) : VoteAt w0 own X H n w1 :=
  ⟨bthen h.below b, blk_kept h.hx b, blk_kept h.hh b, blk_kept h.hr b⟩
theorem vote_on {w0 w : World} {own : Nat} {X : Nat → Nat → Int} {H : Nat → Bool} {k : Nat} (h : VoteAt w0 own X H k w) (e : H k = true) : VoteAt w0 own X H (k + 1) w :=
  ⟨h.below, blk_eq (c9_as fun i j _ _ => by rw [vtX_on own X H k e]) h.hx, h.hh, h.hr⟩
theorem vote_off {w0 w : World} {own : Nat} {X : Nat → Nat → Int} {H : Nat → Bool} {k : Nat} (h : VoteAt w0 own X H k w) (hk : k < 3) (e : H k = false) : VoteAt w0 own X H (k + 1) (w.setCells w0.heap.size (k * 3) (cA (vtX own X H k own)).toList) :=
  ⟨below_sets (Nat.le_refl _) _ _ _ h.below, blk_eq (c9_as fun i j _ _ => by rw [vtX_off own X H k e, vtX_own]) (blk_cp h.hx _ hk), blk_sets_far (by omega) _ _ _ h.hh, blk_sets_far (by omega) _ _ _ h.hr⟩
theorem vote_row {w0 w : World} {own : Nat} {X : Nat → Nat → Int} {H : Nat → Bool} {n : Nat} (h : VoteAt w0 own X H n w) (c : Nat → Int) : Below w0.heap.size w0 (w.setRow (w0.heap.size + 1 + 1) (cA c)) ∧ Blk (w.setRow (w0.heap.size + 1 + 1) (cA c)) (w0.heap.size + 1 + 1) (cA c) 23 :=
  ⟨below_row h.below (by omega) _, blk_row h.hr _⟩
theorem vtX_in {own : Nat} {X : Nat → Nat → Int} (hX : ∀ i j, In (X i j)) (H : Nat → Bool) (n i j : Nat) : In (vtX own X H n i j) := by
  unfold vtX; split <;> exact hX _ _

set_option maxHeartbeats 4000000 in
theorem voteNo (a : Int) (ha : a < 0 ∨ 3 ≤ a) (X : Nat → Nat → Int) (H : Nat → Bool) (w : World) :
    Calls Try.prog 6 #[.int .i64 a, .agg (c9 X), .agg (b3A H)] w fun e w' => e = .returned (.tuple #[.agg (cA zC), .int .i64 2]) ∧ Below w.heap.size w w' := by
  have K0 := Lib.hid (vote_box w 0 X H)
  have HE := Lib.hid (vote_row K0.out zC)
  rcases ha with h1 | h1
  all_goals
    (try have h0 : ¬ a < 0 := by omega)
    go_enter Try.func6, Try.ntmps6
    go_wp2_with ((with_reducible refine store_c rfl (.tmp 6) (.tmp 17) rfl (w.heap.size + 1 + 1) zC zC K0.out.hr ?_ ?_ ?_); rfl; rfl)
    refine bodyPost_ret (v := .tuple #[.agg (cA zC), .int .i64 2]) ?_ rfl ⟨rfl, HE.out.1⟩
    exact ret_ce Try.results6 _ _ (w.heap.size + 1 + 1) zC _ rfl rfl HE.out.2

set_option maxHeartbeats 4000000 in
theorem voteC (own : Nat) (ho : own < 3) (X : Nat → Nat → Int) (hX : ∀ i j, In (X i j)) (H : Nat → Bool) (w : World) :
    Calls Try.prog 6 #[.int .i64 (own : Int), .agg (c9 X), .agg (b3A H)] w fun e w' => e = .returned (.tuple #[.agg (cA (vote own X H)), .int .i64 0]) ∧ Below w.heap.size w w' := by
  have K0 := Lib.hid (vote_box w own X H)
  have HX := Lib.hid hX
  have HO := Lib.hid ho
  have o0 : (0 : Int) ≤ (own : Int) := Int.natCast_nonneg _
  have o3 : (own : Int) < 3 := by omega
  clear hX ho
  go_enter Try.func6, Try.ntmps6
  go_wp2_with fail
  generalize World.alloc (World.alloc (World.alloc w _) _) _ = W at *
  go_loopw [18] (fun v wr => ∃ i : Nat, v = .int .i64 i ∧ i ≤ 3 ∧ VoteAt w own X H i wr) (fun v _ => 3 - (intOf v).toNat)
  case atStart => exact ⟨0, rfl, by omega, K0.out⟩
  case round =>
    rename_i wr
    obtain ⟨i, rfl, hi, V⟩ := hrel
    have HA := Lib.hid V
    clear V K0
    by_cases hi3 : i < 3
    · have i0 : (0 : Int) ≤ (i : Int) := Int.natCast_nonneg _
      have i3 : (i : Int) < 3 := by omega
      have c0 := blk_cell HA.out.hh (b3_at H i hi3)
      cases hH : H i
      · rw [hH] at c0
        have HH := Lib.hid hH
        clear hH
        go_wp2_with (first | ((with_reducible refine load_cr rfl (.tmp 27) rfl w.heap.size (own * 3) _ (c9_range HA.out.hx HO.out) ?_ ?_); rfl) | ((with_reducible refine store_cp rfl (.tmp 29) (.tmp 28) rfl w.heap.size i _ (vtX own X H i own) hi3 HA.out.hx ?_ ?_ ?_); rfl; rfl))
        go_roundw
        case rel => exact ⟨i + 1, by go_num, by omega, vote_off HA.out hi3 HH.out⟩
        case measure => simp [intOf]; omega
      · rw [hH] at c0
        have HH := Lib.hid hH
        clear hH
        go_wp2
        go_roundw
        case rel => exact ⟨i + 1, by go_num, by omega, vote_on HA.out HH.out⟩
        case measure => simp [intOf]; omega
    · obtain rfl : i = 3 := by omega
      have e3 : ((3 : Nat) : Int) = 3 := rfl
      go_wp2_with fail
      refine (togC _ 3 3 _ (by decide) (vtX_in HX.out H 3) _ (cms_of_c9 HA.out.hx)).mono ?_
      rintro e w2 ⟨rfl, b2⟩
      have HB := Lib.hid (vote_call HA.out (below_new b2 (.cells (cA (vote own X H)) 23)))
      have KB := Lib.hid (blk_alloc w2 (cA (vote own X H)) 23)
      have HE := Lib.hid (vote_row HB.out (vote own X H))
      clear b2 HA
      change Hid (Blk (w2.alloc (.cells (cA (tg 3 (vtX own X H 3))) _)) _ _ _) at KB
      go_wp2_with (first | ((with_reducible refine load_c rfl (.tmp 9) rfl w2.heap.size _ KB.out ?_ ?_); rfl) | ((with_reducible refine store_c rfl (.tmp 6) (.tmp 36) rfl (w.heap.size + 1 + 1) (vote own X H) zC HB.out.hr ?_ ?_ ?_); rfl; rfl))
      refine bodyPost_ret (v := .tuple #[.agg (cA (vote own X H)), .int .i64 0]) ?_ rfl ⟨rfl, HE.out.1⟩
      exact ret_ce Try.results6 _ _ (w.heap.size + 1 + 1) (vote own X H) _ rfl rfl HE.out.2

end Go.Proofs.Ytdjemiimnpkfnaa.Lanes
