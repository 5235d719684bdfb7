/- Contract of lanes.Servo: what goes to the surfaces. Conditions: numbers are int64. -/
import Derived.Test.YtdjemiimnpkfnaaLanesApp
import Derived.StillTailTactics
namespace Go.Proofs.Ytdjemiimnpkfnaa.Lanes
open Go.ChangeShapes Go.WideShapes Go.ChangeAt Go.RowKit Num Mid

/-- Three commands, none laid yet. -/
def room : Obj := .cells (Array.replicate 9 (.int .i64 0)) 23
theorem made_c (w : World) : (Instr.makeSlice 40 (.int .i64 0) (.int .i64 3)).run Try.prog w = .ok (.slice (some ⟨w.heap.size, 0, none⟩) 0 3) (w.alloc room) := by kernel_rfl
theorem made_own (w : World) (base : Nat) (F : Nat → Nat → Int) (h : base ≤ w.heap.size) : OwnC (w.alloc room) base (.slice (some ⟨w.heap.size, 0, none⟩) 0 3) 0 F :=
  World.ownsRow_made w _ 3 h (by unfold maxLen; omega) rfl
structure SvAt (w0 : World) (X : Nat → Nat → Int) (H : Nat → Bool) (k : Nat) (v : Value) (w : World) : Prop where
  below : Below w0.heap.size w0 w
  hx : Blk w w0.heap.size (c9 X) 24
  hh : Blk w (w0.heap.size + 1) (b3A H) 25
  hr : Blk w (w0.heap.size + 1 + 1) (cA zC) 23
  own : OwnC w (w0.heap.size + 1 + 1 + 1) v (sK H k) (sF X H k)
theorem sv_box (w : World) (X : Nat → Nat → Int) (H : Nat → Bool) : SvAt w X H 0 (.slice (some ⟨w.heap.size + 1 + 1 + 1, 0, none⟩) 0 3) ((((w.alloc (.cells (c9 X) 24)).alloc (.cells (b3A H) 25)).alloc (.cells (cA zC) 23)).alloc room) :=
  ⟨below_new (below_new (below_new (allocs w _) _) _) _, blk_kept (blk_kept (blk_kept (blk_alloc w (c9 X) _) (allocs _ _)) (allocs _ _)) (allocs _ _), blk_kept (blk_kept (blk_alloc2 w _ _ _) (allocs _ _)) (allocs _ _), blk_kept (blk_alloc3 w _ _ _ _) (allocs _ _),
    by have h := made_own (((w.alloc (.cells (c9 X) 24)).alloc (.cells (b3A H) 25)).alloc (.cells (cA zC) 23)) (w.heap.size + 1 + 1 + 1) (sF X H 0) (by simp); simp only [World.size_alloc] at h; exact h⟩
theorem sv_lay {w0 w : World} {X : Nat → Nat → Int} {H : Nat → Bool} {k : Nat} {v : Value} (h : SvAt w0 X H k v w) (o : Obj) : SvAt w0 X H k v (w.alloc o) :=
  ⟨below_new h.below o, blk_kept h.hx (allocs _ _), blk_kept h.hh (allocs _ _), blk_kept h.hr (allocs _ _), h.own.alloc o⟩
theorem sv_off {w0 w : World} {X : Nat → Nat → Int} {H : Nat → Bool} {k : Nat} {v : Value} (h : SvAt w0 X H k v w) (e : H k = false) : SvAt w0 X H (k + 1) v w :=
  ⟨h.below, h.hx, h.hh, h.hr, by rw [sK_off e, sF_off X e]; exact h.own⟩
theorem sv_on {w0 w w1 : World} {X : Nat → Nat → Int} {H : Nat → Bool} {k : Nat} {v u : Value} (h : SvAt w0 X H k v w) (e : H k = true) (b : Below (w0.heap.size + 1 + 1 + 1) w w1) (o : OwnC w1 (w0.heap.size + 1 + 1 + 1) u (sK H k + 1) (updT (sF X H k) (sK H k) (X k))) : SvAt w0 X H (k + 1) u w1 :=
  ⟨h.below.trans (b.mono (by omega)), blk_under h.hx b (by omega), blk_under h.hh b (by omega), blk_under h.hr b (by omega), by rw [sK_on e, sF_on X e]; exact o⟩

set_option maxHeartbeats 4000000 in
theorem servoC (X : Nat → Nat → Int) (hX : ∀ i j, In (X i j)) (H : Nat → Bool) (w : World) :
    Calls Try.prog 8 #[.agg (c9 X), .agg (b3A H)] w fun e w' => e = .returned (.tuple #[.agg (cA (servo X H)), .bool (ofB (sK H 3))]) ∧ Below w.heap.size w w' := by
  have K0 := Lib.hid (sv_box w X H)
  have HX := Lib.hid hX
  have hm := made_c
  clear hX
  have KX := Lib.hid (show Blk ((((w.alloc (.cells (c9 X) 24)).alloc (.cells (b3A H) 25)).alloc (.cells (cA zC) 23)).alloc room) w.heap.size (c9 X) 24 from K0.out.hx)
  go_enter Try.func8, Try.ntmps8
  go_wp2_with ((with_reducible refine load_c9 rfl (.tmp 2) rfl w.heap.size X KX.out ?_ ?_); rfl)
  clear KX hm
  generalize World.alloc (World.alloc (World.alloc (World.alloc w _) _) _) _ = W at *
  go_loopw [6, 11] (fun v i wr => ∃ k : Nat, i = .int .i64 k ∧ k ≤ 3 ∧ SvAt w X H k v wr) (fun _ i _ => 3 - (intOf i).toNat)
  case atStart => exact ⟨0, rfl, by omega, K0.out⟩
  case round =>
    rename_i wr
    obtain ⟨k, rfl, hk, S⟩ := hrel
    have HA := Lib.hid S
    clear S K0
    by_cases hk3 : k < 3
    · have k0 : (0 : Int) ≤ (k : Int) := Int.natCast_nonneg _
      have k3 : (k : Int) < 3 := by omega
      have jx := fun W => ix_c X W k hk3
      have HB := Lib.hid (sv_lay HA.out (.cells (cA (X k)) 23))
      have KB := Lib.hid (blk_alloc wr (cA (X k)) 23)
      have c0 := blk_cell HB.out.hh (b3_at H k hk3)
      cases hH : H k
      · rw [hH] at c0
        have HH := Lib.hid hH
        clear hH
        go_wp2
        go_roundw
        case rel => exact ⟨k + 1, by go_num, by omega, sv_off HB.out HH.out⟩
        case measure => simp [intOf]; omega
      · rw [hH] at c0
        have HH := Lib.hid hH
        clear hH
        have HC := Lib.hid (sv_lay HB.out (.cells (cA (X k)) 23))
        have KC := Lib.hid (blk_alloc2 wr (.cells (cA (X k)) 23) (cA (X k)) 23)
        have SZ := Lib.hid (show w.heap.size + 1 + 1 + 1 ≤ ((wr.alloc (.cells (cA (X k)) 23)).alloc (.cells (cA (X k)) 23)).heap.size by have := blk_lt HC.out.hr; omega)
        go_wp2_with (first
          | ((with_reducible refine load_c rfl (.tmp 8) rfl wr.heap.size (X k) KB.out ?_ ?_); rfl)
          | (at_builtin; refine wpList_append_c rfl (.tmp 18) (.tmp 20) rfl (w.heap.size + 1 + 1 + 1) (sK H k) (sF X H k) _ (wr.heap.size + 1) 1 (X k) rfl HC.out.own SZ.out rfl KC.out (by have := sK_le H k; omega) ?_; intro v6 w6 o1 b1; have HD := Lib.hid (sv_on HC.out HH.out b1 o1); clear o1 b1 HB KB HC KC SZ c0))
        go_roundw
        case rel => exact ⟨k + 1, by go_num, by omega, HD.out⟩
        case measure => simp [intOf]; omega
    · obtain rfl : k = 3 := by omega
      have e3 : ((3 : Nat) : Int) = 3 := rfl
      obtain ⟨A, c, ev, hc⟩ := cms_of_own HA.out.own
      have HC := Lib.hid hc
      have HB := Lib.hid (show Below w.heap.size w wr ∧ Blk wr (w.heap.size + 1 + 1) (cA zC) 23 from ⟨HA.out.below, HA.out.hr⟩)
      clear hc HA
      subst ev
      go_wp2_with fail
      refine (togC A (sK H 3) c (sF X H 3) (sK_le H 3) (sF_in HX.out H 3) _ HC.out).mono ?_
      rintro e w2 ⟨rfl, b2⟩
      have HE := Lib.hid (show Below w.heap.size w w2 ∧ Blk w2 (w.heap.size + 1 + 1) (cA zC) 23 from ⟨bthen HB.out.1 b2, blk_kept HB.out.2 b2⟩)
      clear b2 HB HC
      go_wp2_with ((with_reducible refine store_c rfl (.tmp 4) (.tmp 25) rfl (w.heap.size + 1 + 1) (servo X H) zC HE.out.2 ?_ ?_ ?_); rfl; rfl)
      refine bodyPost_ret (v := .tuple #[.agg (cA (servo X H)), .bool (ofB (sK H 3))]) ?_ rfl ⟨rfl, below_row HE.out.1 (by omega) _⟩
      exact ret_ce Try.results8 _ _ (w.heap.size + 1 + 1) (servo X H) _ rfl rfl (blk_row HE.out.2 _)

end Go.Proofs.Ytdjemiimnpkfnaa.Lanes
