/- Contracts of beam's Next and Off, and of the document's own one, Next, Off. Conditions: the counts are numbers of their type, where a row says so. -/
import Derived.Test.YtmkdnkgbnnmniaaBeamOf
namespace Go.Proofs.Ytmkdnkgbnnmniaa.Beam
open Go.ChangeShapes Go.WideShapes Go.ChangeAt Go.RowKit Num Mem Band
attribute [local go_sem ↓] ldV_eq ldN_eq stN_eq

theorem offC (N : Nat → Int) (w : World) : Calls Try.prog 7 #[.agg (n2 N)] w fun e w' => e = .returned (.bool (offB N)) ∧ Below w.heap.size w w' := by
  by_cases h : 4 ≤ N 0
  · have H := Lib.hid (off_a h)
    go_enter Try.func7, Try.ntmps7
    go_wp2
    go_ret
    exact ⟨ret_bool H.out, allocs _ _⟩
  · by_cases g : 4 ≤ N 1
    · have H := Lib.hid (off_b g)
      go_enter Try.func7, Try.ntmps7
      go_wp2
      go_ret
      exact ⟨ret_bool H.out, allocs _ _⟩
    · have H := Lib.hid (off_no (N := N) (by omega) (by omega))
      go_enter Try.func7, Try.ntmps7
      go_wp2
      go_ret
      exact ⟨ret_bool H.out, allocs _ _⟩

theorem rOffC (N : Nat → Int) (w : World) : Calls Try.prog 8 #[.agg (n2 N)] w fun e w' => e = .returned (.bool (offB N)) ∧ Below w.heap.size w w' := by
  by_cases h : 4 ≤ N 0
  · have H := Lib.hid (off_a h)
    go_enter Try.func8, Try.ntmps8
    go_wp2
    go_ret
    exact ⟨ret_bool H.out, allocs _ _⟩
  · by_cases g : 4 ≤ N 1
    · have H := Lib.hid (off_b g)
      go_enter Try.func8, Try.ntmps8
      go_wp2
      go_ret
      exact ⟨ret_bool H.out, allocs _ _⟩
    · have H := Lib.hid (off_no (N := N) (by omega) (by omega))
      go_enter Try.func8, Try.ntmps8
      go_wp2
      go_ret
      exact ⟨ret_bool H.out, allocs _ _⟩

/-- What Next lays: the counts, the frame, its result. -/
structure NxAt (w0 : World) (N : Nat → Int) (X : Nat → Vt) (R : Nat → Int) (w : World) : Prop where
  below : Below w0.heap.size w0 w
  hn : Blk w w0.heap.size (n2 N) 22
  hx : Blk w (w0.heap.size + 1) (v12 X) 25
  hr : Blk w (w0.heap.size + 1 + 1) (n2 R) 22
theorem nx_box (w : World) (N : Nat → Int) (X : Nat → Vt) : NxAt w N X (fun _ => 0) (((w.alloc (.cells (n2 N) 22)).alloc (.cells (v12 X) 25)).alloc (.cells (n2 (fun _ => 0)) 22)) :=
  ⟨below_new (below_new (allocs w _) _) _, blk_kept (blk_kept (blk_alloc w _ _) (allocs _ _)) (allocs _ _), blk_kept (blk_alloc2 w _ _ _) (allocs _ _), blk_alloc3 w _ _ _ _⟩
section
variable {w0 w w1 : World} {N M R : Nat → Int} {X : Nat → Vt}
theorem nx_went (h : NxAt w0 N X R w) (g : Went w0.heap.size w M w1) : NxAt w0 M X R w1 :=
  ⟨h.below.trans g.below, g.hn, (g.far _ (blk_lt h.hx) (by omega)).trans h.hx, (g.far _ (blk_lt h.hr) (by omega)).trans h.hr⟩
theorem nx_call (h : NxAt w0 N X R w) (b : Below w.heap.size w w1) : NxAt w0 N X R w1 := ⟨bthen h.below b, blk_kept h.hn b, blk_kept h.hx b, blk_kept h.hr b⟩
theorem nx_drew (h : NxAt w0 N X R w) : NxAt w0 N X R w.drew := ⟨below_drewN h.below 1, h.hn, h.hx, h.hr⟩
theorem nx_set (h : NxAt w0 N X R w) (M : Nat → Int) : NxAt w0 N X M (w.setRow (w0.heap.size + 1 + 1) (n2 M)) :=
  ⟨below_row h.below (by omega) _, blk_row_far h.hn (by omega) _, blk_row_far h.hx (by omega) _, blk_row h.hr _⟩
theorem nx_x (h : NxAt w0 N X R w) : (ldV (.pointer (some ⟨w0.heap.size + 1, 0, none⟩))).run Try.prog w = .ok (.agg (vtA (X 0))) w ∧ (ldV (.pointer (some ⟨w0.heap.size + 1, 3, none⟩))).run Try.prog w = .ok (.agg (vtA (X 1))) w :=
  ⟨ldV_at (k := 0) h.hx (by decide), ldV_at (k := 1) h.hx (by decide)⟩
abbrev pq (p q : Int) : Nat → Int := fun k => if k = 0 then p else q
theorem nx_s (p q : Int) (h : NxAt w0 N X R w) : w.cell? ⟨w0.heap.size, 0, none⟩ = some (.int .i64 (N 0)) ∧ w.cell? ⟨w0.heap.size, 1, none⟩ = some (.int .i64 (N 1)) ∧ (ldV (.pointer (some ⟨w0.heap.size + 1, 0, none⟩))).run Try.prog w = .ok (.agg (vtA (X 0))) w ∧ (ldV (.pointer (some ⟨w0.heap.size + 1, 3, none⟩))).run Try.prog w = .ok (.agg (vtA (X 1))) w ∧ (stN (.pointer (some ⟨w0.heap.size + 1 + 1, 0, none⟩)) (.agg #[.int .i64 p, .int .i64 q])).run Try.prog w = .ok () (w.setRow (w0.heap.size + 1 + 1) #[.int .i64 p, .int .i64 q]) :=
  ⟨blk_cell h.hn (n2_at N 0 (by decide)), blk_cell h.hn (n2_at N 1 (by decide)), (nx_x h).1, (nx_x h).2, stN_blk (pq p q) h.hr⟩
end

set_option maxHeartbeats 2000000 in
theorem nextC (N : Nat → Int) (X : Nat → Vt) (w : World) : Calls Try.prog 5 #[.agg (n2 N), .agg (v12 X)] w fun e w' => e = .returned (.agg (n2 (next N X))) ∧ Below w.heap.size w w' := by
  have K0 := Lib.hid (nx_box w N X)
  go_enter Try.func5, Try.ntmps5
  go_upto_region 1 with (fail)
  generalize World.alloc _ _ = W at *
  obtain ⟨q0, _⟩ := nx_x K0.out
  go_wp2_with fail
  refine (goOnC N (X 0) w.heap.size 0 (by decide) _ K0.out.hn).mono ?_
  rintro e w1 ⟨rfl, g⟩
  have K1 := Lib.hid (nx_went K0.out g)
  clear g K0 q0
  obtain ⟨_, q1⟩ := nx_x K1.out
  go_wp2_with fail
  refine (goOnC _ (X 1) w.heap.size 1 (by decide) _ K1.out.hn).mono ?_
  rintro e w2 ⟨rfl, g⟩
  have K2 := Lib.hid (nx_went K1.out g)
  clear g K1 q1
  have r2 := Lib.hid (n2_as (upd_two N X))
  have q2 := ldN_blk (blk_eq r2.out K2.out.hn)
  have s2 := stN_blk (next N X) K2.out.hr
  go_wp2
  refine bodyPost_ret (v := .agg (n2 (next N X))) ?_ rfl ⟨rfl, below_row K2.out.below (by omega) _⟩
  exact ret_n2 Try.results5 _ _ (w.heap.size + 1 + 1) (next N X) rfl (blk_row K2.out.hr _)

theorem next_eq {N : Nat → Int} {X : Nat → Vt} {p q : Int} (hp : nx (N 0) (wideB (X 0)) = p) (hq : nx (N 1) (wideB (X 1)) = q) : (#[.int .i64 p, .int .i64 q] : Array Value) = n2 (next N X) := by
  subst hp hq; rfl

set_option maxRecDepth 100000 in
set_option maxHeartbeats 4000000 in
theorem rNextC (N : Nat → Int) (X : Nat → Vt) (w : World) : Calls Try.prog 6 #[.agg (n2 N), .agg (v12 X)] w fun e w' => e = .returned (.agg (n2 (next N X))) ∧ Below w.heap.size w w' := by
  have K0 := Lib.hid (nx_box w N X)
  obtain ⟨p, hp⟩ : ∃ p, nx (N 0) (wideB (X 0)) = p := ⟨_, rfl⟩
  obtain ⟨q, hq⟩ : ∃ q, nx (N 1) (wideB (X 1)) = q := ⟨_, rfl⟩
  have C0 := Lib.hid (fun W => oneC (N 0) (X 0) W)
  have C1 := Lib.hid (fun W => oneC (N 1) (X 1) W)
  have E := Lib.hid (next_eq hp hq)
  rw [hp] at C0
  rw [hq] at C1
  clear hp hq
  go_enter Try.func6, Try.ntmps6
  go_upto_region 1 with (fail)
  generalize World.alloc _ _ = W at *
  have TA := Lib.hid (nx_drew K0.out)
  clear K0
  go_region_held3 (fun w' => w'.cell? ⟨w.heap.size, 0, none⟩ = some (.int .i64 (N 0)) ∧ w'.cell? ⟨w.heap.size, 1, none⟩ = some (.int .i64 (N 1)) ∧ (ldV (.pointer (some ⟨w.heap.size + 1, 0, none⟩))).run Try.prog w' = .ok (.agg (vtA (X 0))) w' ∧ (ldV (.pointer (some ⟨w.heap.size + 1, 3, none⟩))).run Try.prog w' = .ok (.agg (vtA (X 1))) w' ∧ (stN (.pointer (some ⟨w.heap.size + 1 + 1, 0, none⟩)) (.agg #[.int .i64 p, .int .i64 q])).run Try.prog w' = .ok () (w'.setRow (w.heap.size + 1 + 1) #[.int .i64 p, .int .i64 q]))
    (first
      | (with_reducible assumption)
      | exact nx_s p q TA.out
      | exact nx_s p q (nx_set TA.out (pq p q)))
    (first
    | (with_reducible refine (C0.out _).mono ?_; rintro e v ⟨rfl, bb⟩; replace TA := Lib.hid (nx_call TA.out bb); clear bb)
    | (with_reducible refine (C1.out _).mono ?_; rintro e v ⟨rfl, bb⟩; replace TA := Lib.hid (nx_call TA.out bb); clear bb))
  all_goals
    go_wp2
    refine bodyPost_ret (v := .agg (n2 (pq p q))) ?_ rfl ⟨by rw [← E.out]; rfl, below_row TA.out.below (by omega) _⟩
    exact ret_n2 Try.results6 _ _ (w.heap.size + 1 + 1) (pq p q) rfl (blk_row TA.out.hr _)

end Go.Proofs.Ytmkdnkgbnnmniaa.Beam
