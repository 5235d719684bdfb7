/- Contracts of side's Gain, against, Side, Turn, and of the document's own. Conditions: a signal's number and the command ahead are int64 numbers; those that each row names. -/
import Derived.Test.YtgmgpefegmlnoaaDoorSideNum
namespace Go.Proofs.YtgmgpefegmlnoaaDoor.Sd
open Go.ChangeShapes Go.WideShapes Go.ChangeAt Go.RowKit Num Mem Band

/-- A signal handed in; two of them. -/
structure BxAt (w0 : World) (V : Vt) (w : World) : Prop where
  below : Below w0.heap.size w0 w
  hb : Blk w w0.heap.size (vtA V) 23
theorem bx_box (w : World) (V : Vt) : BxAt w V (w.alloc (.cells (vtA V) 23)) := ⟨allocs w _, blk_alloc w _ _⟩
theorem bx_call {w0 w w1 : World} {V : Vt} (h : BxAt w0 V w) (b : Below w.heap.size w w1) : BxAt w0 V w1 := ⟨bthen h.below b, blk_kept h.hb b⟩
theorem bx_drew {w0 w : World} {V : Vt} (h : BxAt w0 V w) : BxAt w0 V w.drew := ⟨below_drewN h.below 1, h.hb⟩
structure TwAt (w0 : World) (L H : Vt) (w : World) : Prop where
  below : Below w0.heap.size w0 w
  hl : Blk w w0.heap.size (vtA L) 23
  hh : Blk w (w0.heap.size + 1) (vtA H) 23
theorem tw_box (w : World) (L H : Vt) : TwAt w L H ((w.alloc (.cells (vtA L) 23)).alloc (.cells (vtA H) 23)) :=
  ⟨below_new (allocs w _) _, blk_kept (blk_alloc w _ _) (allocs _ _), blk_alloc2 w _ _ _⟩
theorem tw_call {w0 w w1 : World} {L H : Vt} (h : TwAt w0 L H w) (b : Below w.heap.size w w1) : TwAt w0 L H w1 := ⟨bthen h.below b, blk_kept h.hl b, blk_kept h.hh b⟩
theorem tw_drew {w0 w : World} {L H : Vt} (h : TwAt w0 L H w) : TwAt w0 L H w.drew := ⟨below_drewN h.below 1, h.hl, h.hh⟩
theorem ldV_blk {W : World} {g : Nat} {V : Vt} (K : Blk W g (vtA V) 23) : (ldV (.pointer (some ⟨g, 0, none⟩))).run Tryd.prog W = .ok (.agg (vtA V)) W :=
  ldV_part (range_of K fun j _ => by rw [Nat.zero_add]; simp)

set_option maxRecDepth 100000 in
set_option maxHeartbeats 4000000 in
theorem gainC (V : Vt) (w : World) : Calls Tryd.prog 31 #[.agg (vtA V)] w fun e w' => e = .returned (.int .i64 (gn V)) ∧ Below w.heap.size w w' := by
  obtain ⟨b, v, o⟩ := V
  cases b
  · go_enter Tryd.func31, Tryd.ntmps31
    go_wp2
    go_ret
    exact ⟨rfl, allocs _ _⟩
  · have K0 := Lib.hid (bx_box w ⟨true, v, o⟩)
    go_enter Tryd.func31, Tryd.ntmps31
    go_upto_region 3 with (fail)
    generalize World.alloc w _ = W at *
    have TA := Lib.hid (bx_drew K0.out)
    clear K0
    go_region_held3 (fun w' => w'.cell? ⟨w.heap.size, 1, none⟩ = some (.int .i64 v))
      (first
        | (with_reducible assumption)
        | exact blk_cell TA.out.hb rfl)
      (first
      | ((with_reducible refine (gains _).mono ?_); rintro e u ⟨rfl, bb, pp, _⟩; have PP : Hid (Pts u u.heap.size (some ⟨W.heap.size, 0, none⟩) 4 GX GY) := pp; replace TA := Lib.hid (bx_call TA.out bb); clear bb pp)
      | ((with_reducible refine (at_true _ 4 4 GX GY v (pl v) _ PP.out gmay (pos_pl v)).mono ?_); rintro e u ⟨rfl, bb⟩; replace TA := Lib.hid (bx_call TA.out bb); clear bb))
    all_goals
      go_wp2
      go_ret
      exact ⟨rfl, TA.out.below⟩

set_option maxRecDepth 100000 in
set_option maxHeartbeats 4000000 in
theorem rGainC (V : Vt) (w : World) : Calls Tryd.prog 35 #[.agg (vtA V)] w fun e w' => e = .returned (.int .i64 (gn V)) ∧ Below w.heap.size w w' := by
  obtain ⟨b, v, o⟩ := V
  cases b
  · go_enter Tryd.func35, Tryd.ntmps35
    go_wp2
    go_ret
    exact ⟨rfl, allocs _ _⟩
  · have K0 := Lib.hid (bx_box w ⟨true, v, o⟩)
    have HE := Lib.hid (gv_ok v).1
    go_enter Tryd.func35, Tryd.ntmps35
    go_upto_region 3 with (fail)
    generalize World.alloc w _ = W at *
    have TA := Lib.hid (bx_drew K0.out)
    clear K0
    go_region_held3 (fun w' => w'.cell? ⟨w.heap.size, 1, none⟩ = some (.int .i64 v))
      (first
        | (with_reducible assumption)
        | exact blk_cell TA.out.hb rfl)
      (first
      | ((with_reducible refine (rgains _).mono ?_); rintro e u ⟨rfl, bb, pp, _⟩; have PP : Hid (Pts u u.heap.size (some ⟨W.heap.size, 0, none⟩) 4 GX GY) := pp; replace TA := Lib.hid (bx_call TA.out bb); clear bb pp)
      | ((with_reducible refine (rat_true _ 4 4 GX GY v (pl v) _ PP.out gmay (pos_pl v)).mono ?_); rintro e u ⟨rfl, bb⟩; rw [HE.out]; replace TA := Lib.hid (bx_call TA.out bb); clear bb))
    all_goals
      go_wp2
      go_ret
      exact ⟨rfl, TA.out.below⟩

set_option maxHeartbeats 1000000 in
theorem againstC (V : Vt) (g m h : Int) (hv : Vin V) (g0 : 4 ≤ g) (g1 : g ≤ 16) (m0 : 0 ≤ m) (m1 : m ≤ 500) (w : World) :
    Calls Tryd.prog 30 #[.agg (vtA V), .int .i64 g, .int .i64 m, .int .i64 h] w fun e w' => e = .returned (.int .i64 (ag V g m h)) ∧ Below w.heap.size w w' := by
  obtain ⟨b, v, o⟩ := V
  cases b
  · go_enter Tryd.func30, Tryd.ntmps30
    go_wp2
    go_ret
    exact ⟨rfl, allocs _ _⟩
  · replace hv : In v := hv
    have DV := Lib.hid (fun W => div_in v g W hv (by omega))
    have HS := Lib.hid (stp_clamp (n := v) (g := g) m0)
    have hq : In (-(v.tdiv g)) ∧ In (v.tdiv g) := by
      have := quo_bd (n := v) g0
      obtain ⟨v0, v1⟩ := hv
      unfold In
      rcases Int.le_total 0 v with k | k
      · have := this.1 k; omega
      · have := this.2 k; omega
    obtain ⟨⟨q0, q1⟩, q2, q3⟩ := hq
    generalize v.tdiv g = q at *
    clear hv g0 g1
    go_enter Tryd.func30, Tryd.ntmps30
    go_wp2_with fail
    refine (DV.out _).mono ?_
    rintro e w1 ⟨rfl, rfl⟩
    go_wp2_with fail
    refine (clampC (-q) m _ ⟨q0, q1⟩ ⟨by omega, by omega⟩).mono ?_
    rintro e w1 ⟨rfl, rfl⟩
    go_wp2
    go_ret
    exact ⟨ret_int HS.out, allocs _ _⟩

set_option maxHeartbeats 1000000 in
theorem byC (n g m : Int) (hn : In n) (g0 : 4 ≤ g) (g1 : g ≤ 16) (m0 : 0 ≤ m) (m1 : m ≤ 500) (w : World) :
    Calls Tryd.prog 36 #[.int .i64 n, .int .i64 g, .int .i64 m] w fun e w' => e = .returned (.int .i64 (stp n g m)) ∧ w = w' := by
  have HC := Lib.hid (stp_cases n g m)
  have hq : In (-(n.tdiv g)) ∧ In (n.tdiv g) := by
    have := quo_bd (n := n) g0
    obtain ⟨v0, v1⟩ := hn
    unfold In
    rcases Int.le_total 0 n with k | k
    · have := this.1 k; omega
    · have := this.2 k; omega
  obtain ⟨⟨q0, q1⟩, q2, q3⟩ := hq
  have E3 : ((g : Int) == 0) = false := by simp; omega
  have E4 : ((g : Int) == -1) = false := by simp; omega
  obtain ⟨q, eq⟩ : ∃ q, n.tdiv g = q := ⟨_, rfl⟩
  rw [eq] at q0 q1 q2 q3 HC
  clear hn g1
  go_enter Tryd.func36, Tryd.ntmps36
  go_wp2
  all_goals
    go_ret
    exact ⟨ret_int (by rcases HC.out with ⟨a, e⟩ | ⟨a, b, e⟩ | ⟨a, b, e⟩ <;> omega), rfl⟩

end Go.Proofs.YtgmgpefegmlnoaaDoor.Sd
