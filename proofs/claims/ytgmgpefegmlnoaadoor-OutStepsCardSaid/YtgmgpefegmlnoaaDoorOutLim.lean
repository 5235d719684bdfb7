/- Contract of out's Limit. Conditions: the table of bounds lies there; the commands' numbers are int64 numbers. -/
import Derived.Test.YtgmgpefegmlnoaaDoorOutMay
namespace Go.Proofs.YtgmgpefegmlnoaaDoor.Out
open Go.ChangeShapes Go.WideShapes Go.ChangeAt Go.RowKit Num Mem Band

/-- What Limit lays: both commands, its result, where what is wanted stands. -/
structure LbAt (w0 : World) (A B R : Nat → Int) (w : World) : Prop where
  below : Below w0.heap.size w0 w
  ha : Blk w w0.heap.size (cA A) 26
  hb : Blk w (w0.heap.size + 1) (cA B) 26
  hr : Blk w (w0.heap.size + 1 + 1) (cA R) 26
theorem lb_box (w : World) (A B : Nat → Int) : LbAt w A B zC (((w.alloc (.cells (cA A) 26)).alloc (.cells (cA B) 26)).alloc (.cells (cA zC) 26)) :=
  ⟨below_new (below_new (allocs w _) _) _, blk_kept (blk_kept (blk_alloc w _ _) (allocs _ _)) (allocs _ _), blk_kept (blk_alloc2 w _ _ _) (allocs _ _), blk_alloc3 w _ _ _ _⟩
section
variable {w0 w w1 : World} {A B R : Nat → Int}
theorem lb_call (h : LbAt w0 A B R w) (b : Below w.heap.size w w1) : LbAt w0 A B R w1 := ⟨bthen h.below b, blk_kept h.ha b, blk_kept h.hb b, blk_kept h.hr b⟩
theorem lb_lt (h : LbAt w0 A B R w) : w0.heap.size + 1 + 1 < w.heap.size := blk_lt h.hr
end
structure LmAt (w0 : World) (A B : Nat → Int) (g : Nat) (w : World) : Prop where
  lb : LbAt w0 A B zC w
  hp : Blk w g (pA (w0.heap.size + 1)) 34
  hg : w0.heap.size + 1 + 1 < g
section
variable {w0 w w1 : World} {A B : Nat → Int} {g : Nat}
theorem lm_call (h : LmAt w0 A B g w) (b : Below w.heap.size w w1) : LmAt w0 A B g w1 := ⟨lb_call h.lb b, blk_kept h.hp b, h.hg⟩
theorem lm_drew (h : LmAt w0 A B g w) : LmAt w0 A B g w.drew := ⟨⟨below_drewN h.lb.below 1, h.lb.ha, h.lb.hb, h.lb.hr⟩, h.hp, h.hg⟩
theorem lm_new (h : LbAt w0 A B zC w) : LmAt w0 A B w.heap.size ((w.alloc (.cells zP 34)).setRow w.heap.size (pA (w0.heap.size + 1))) := by
  have hl := lb_lt h
  have k := lb_call h (allocs w (.cells zP 34))
  exact ⟨⟨below_row k.below (by omega) _, blk_row_far k.ha (by omega) _, blk_row_far k.hb (by omega) _, blk_row_far k.hr (by omega) _⟩, blk_row (blk_alloc w _ _) _, hl⟩
theorem lm_set (h : LmAt w0 A B g w) (k : Nat) (hk : k < 3) (v : Int) : LmAt w0 (upC A k v) B g (w.setCell ⟨w0.heap.size, k, none⟩ (.int .i64 v)) :=
  ⟨⟨h.lb.below.setCell (Nat.le_refl _) _, blk_eq (cA_set A v k hk) (blk_set h.lb.ha k _), blk_far h.lb.hb k _ (by omega), blk_far h.lb.hr k _ (by omega)⟩, blk_far h.hp k _ (by have := h.hg; omega), h.hg⟩
theorem lm_as {C : Nat → Int} (h : LmAt w0 A B g w) (e : ∀ j, j < 3 → A j = C j) : LmAt w0 C B g w := ⟨⟨h.lb.below, blk_eq (cA_as e) h.lb.ha, h.lb.hb, h.lb.hr⟩, h.hp, h.hg⟩
theorem lm_s (h : LmAt w0 A B g w) (T : BdAt w0) {k : Nat} (hk : k < 3) : (ldB (.pointer (some ⟨0, k * 3, none⟩))).run Tryd.prog w = .ok (.agg (bdA k)) w ∧ w.cell? ⟨g, k, none⟩ = some (.pointer (some ⟨w0.heap.size + 1, k, none⟩)) ∧ w.cell? ⟨w0.heap.size + 1, k, none⟩ = some (.int .i64 (B k)) :=
  ⟨ldB_tab (bd_kept T h.lb.below) hk, blk_cell h.hp (pA_at _ k hk), blk_cell h.lb.hb (cA_at B k hk)⟩
end
/-- The first k of them anew. -/
def mix (A B : Nat → Int) (k : Nat) (j : Nat) : Int := if j < k then lim A B j else A j
theorem mix_at (A B : Nat → Int) (k : Nat) : mix A B k k = A k := if_neg (by omega)
theorem mix_next (A B : Nat → Int) (k : Nat) (j : Nat) : upC (mix A B k) k (nxt k (A k) (B k)) j = mix A B (k + 1) j := by
  unfold upC mix
  by_cases h : j = k
  · subst h; rw [if_pos rfl, if_pos (by omega)]; rfl
  · rw [if_neg h]
    by_cases g : j < k
    · rw [if_pos g, if_pos (by omega)]
    · rw [if_neg g, if_neg (by omega)]
theorem mix_zero (A B : Nat → Int) (j : Nat) (_ : j < 3) : A j = mix A B 0 j := (if_neg (by omega)).symm
theorem mix_all (A B : Nat → Int) (j : Nat) (h : j < 3) : mix A B 3 j = lim A B j := if_pos h
theorem lm_next {w0 w : World} {A B : Nat → Int} {g k : Nat} (h : LmAt w0 (mix A B k) B g w) (hk : k < 3) : LmAt w0 (mix A B (k + 1)) B g (w.setCell ⟨w0.heap.size, k, none⟩ (.int .i64 (nxt k (A k) (B k)))) :=
  lm_as (lm_set h k hk _) fun j _ => mix_next A B k j

section
attribute [local go_sem ↓] ldB_eq ldC_eq stC_eq stP_eq
set_option maxRecDepth 100000 in
set_option maxHeartbeats 4000000 in
theorem limC (A B : Nat → Int) (hA : InC A) (hB : InC B) (w : World) (T : BdAt w) : Calls Tryd.prog 7 #[.agg (cA A), .agg (cA B)] w fun e w' => e = .returned (.agg (cA (lim A B))) ∧ Below w.heap.size w w' := by
  have HT := Lib.hid T
  have IA := Lib.hid hA
  have IB := Lib.hid hB
  clear T hA hB
  have K0 := Lib.hid (lb_box w A B)
  go_enter Tryd.func7, Tryd.ntmps7
  go_upto_region 1 with (fail)
  generalize World.alloc _ _ = W at *
  go_wp2_with fail
  refine (numbersC (w.heap.size + 1) _).mono ?_
  rintro e w1 ⟨rfl, b1⟩
  have K1 := Lib.hid (lb_call K0.out b1)
  clear b1 K0
  have s1 := stP_blk (ps := zP) rfl (w.heap.size + 1) (blk_alloc w1 zP _)
  have K2 := Lib.hid (lm_as (lm_new K1.out) (mix_zero A B))
  go_upto_region 2 with (fail)
  clear s1
  generalize hg : w1.heap.size = g at *
  clear hg
  generalize World.setRow _ _ _ = W2 at *
  clear K1
  go_wp2_with fail
  refine (numbersC w.heap.size _).mono ?_
  rintro e w3 ⟨rfl, b3⟩
  have K3 := Lib.hid (lm_call K2.out b3)
  clear b3 K2
  go_wp2_with fail
  go_loopw [10] (fun i wr => ∃ k : Nat, i = .int .i64 k ∧ k ≤ 3 ∧ LmAt w (mix A B k) B g wr) (fun i _ => 3 - (intOf i).toNat)
  case atStart => exact ⟨0, rfl, by omega, K3.out⟩
  case round =>
    rename_i wr
    obtain ⟨k, rfl, hk, H⟩ := hrel
    have HA := Lib.hid H
    clear H K3
    by_cases hk3 : k < 3
    · have k0 : (0 : Int) ≤ (k : Int) := Int.natCast_nonneg _
      have k3 : (k : Int) < 3 := by omega
      have HK := Lib.hid hk3
      have ip := fun V => ix_p w.heap.size V k hk3
      have NC := Lib.hid (fun V => nextC k (A k) (B k) (IA.out k hk3) (IB.out k hk3) V)
      have SC := Lib.hid (fun V (h : LmAt w (mix A B k) B g V) => lm_s h HT.out hk3)
      have LC : Hid (∀ V, LmAt w (mix A B k) B g V → V.cell? ⟨w.heap.size, k, none⟩ = some (.int .i64 (A k)) ∧ V.frozen? ⟨w.heap.size, k, none⟩ = false) := Lib.hid fun V h => ⟨by rw [← mix_at A B k]; exact blk_cell h.lb.ha (cA_at _ k hk3), blk_free h.lb.ha k⟩
      have NX := Lib.hid (fun V (h : LmAt w (mix A B k) B g V) => lm_next h hk3)
      have SN := Lib.hid (fun V (h : LmAt w (mix A B (k + 1)) B g V) => lm_s h HT.out hk3)
      generalize nxt k (A k) (B k) = y at *
      generalize A k = x at *
      generalize B k = z at *
      clear hk3
      go_upto_region 5 with (fail)
      clear ip
      have TA := Lib.hid (lm_drew HA.out)
      obtain ⟨l0, f0⟩ := LC.out _ HA.out
      clear HA
      refine wp_region_held_drew (S := fun w' => (ldB (.pointer (some ⟨0, k * 3, none⟩))).run Tryd.prog w' = .ok (.agg (bdA k)) w' ∧ w'.cell? ⟨g, k, none⟩ = some (.pointer (some ⟨w.heap.size + 1, k, none⟩)) ∧ w'.cell? ⟨w.heap.size + 1, k, none⟩ = some (.int .i64 z)) (by kernel_rfl) (SC.out _ TA.out) (fun hHeld => ?_)
      refine wpAnyH_take (i := 0) (oi := { dst := some 14, op := Op.move (Operand.tmp 7), type := 33, pos := "out.go:44", after := #[], guard := none }) (v := .pointer (some ⟨w.heap.size, k, none⟩)) rfl (by kernel_rfl) (by kernel_rfl) (by kernel_rfl) (fun _ _ _ h => h) (Or.inl ⟨by rfl, ?_⟩) (by assumption) ?_
      · intro w hSw
        (try dsimp only at hSw)
        go_simp
      try simp only [Act.put, List.setIfInBounds_toArray, List.set_cons_zero, List.set_cons_succ]
      refine wpAnyH_take (i := 1) (oi := { dst := some 15, op := Op.move (Operand.tmp 6), type := 3, pos := "out.go:44", after := #[], guard := none }) (v := .int .i64 (k : Int)) rfl (by kernel_rfl) (by kernel_rfl) (by kernel_rfl) (fun _ _ _ h => h) (Or.inl ⟨by rfl, ?_⟩) (by assumption) ?_
      · intro w hSw
        (try dsimp only at hSw)
        go_simp
      try simp only [Act.put, List.setIfInBounds_toArray, List.set_cons_zero, List.set_cons_succ]
      refine wpAnyH_take (i := 2) (oi := { dst := some 16, op := Op.indexAddr 39 (Operand.global 0) (Operand.tmp 15), type := 0, pos := "out.go:44", after := #[{ on := 1, ground := Ground.data }], guard := none }) (v := .pointer (some ⟨0, k * 3, none⟩)) rfl (by kernel_rfl) (by kernel_rfl) (by kernel_rfl) (fun _ _ _ h => h) (Or.inl ⟨by rfl, ?_⟩) (by assumption) ?_
      · intro w hSw
        (try dsimp only at hSw)
        go_simp
      try simp only [Act.put, List.setIfInBounds_toArray, List.set_cons_zero, List.set_cons_succ]
      refine wpAnyH_take (i := 3) (oi := { dst := some 17, op := Op.load 38 (Operand.tmp 16), type := 38, pos := "out.go:44", after := #[{ on := 2, ground := Ground.data }], guard := none }) (v := .agg (bdA k)) rfl (by kernel_rfl) (by kernel_rfl) (by kernel_rfl) (fun _ _ _ h => h) (Or.inl ⟨by rfl, ?_⟩) (by assumption) ?_
      · intro w hSw
        (try dsimp only at hSw)
        go_simp
      try simp only [Act.put, List.setIfInBounds_toArray, List.set_cons_zero, List.set_cons_succ]
      refine wpAnyH_take (i := 4) (oi := { dst := some 18, op := Op.move (Operand.tmp 7), type := 33, pos := "out.go:44", after := #[], guard := none }) (v := .pointer (some ⟨w.heap.size, k, none⟩)) rfl (by kernel_rfl) (by kernel_rfl) (by kernel_rfl) (fun _ _ _ h => h) (Or.inl ⟨by rfl, ?_⟩) (by assumption) ?_
      · intro w hSw
        (try dsimp only at hSw)
        go_simp
      try simp only [Act.put, List.setIfInBounds_toArray, List.set_cons_zero, List.set_cons_succ]
      refine wpAnyH_take (i := 5) (oi := { dst := some 19, op := Op.nilCheck (Operand.tmp 18), type := 0, pos := "out.go:44", after := #[{ on := 4, ground := Ground.data }], guard := none }) (v := .pointer (some ⟨w.heap.size, k, none⟩)) rfl (by kernel_rfl) (by kernel_rfl) (by kernel_rfl) (fun _ _ _ h => h) (Or.inl ⟨by rfl, ?_⟩) (by assumption) ?_
      · intro w hSw
        (try dsimp only at hSw)
        go_simp
      try simp only [Act.put, List.setIfInBounds_toArray, List.set_cons_zero, List.set_cons_succ]
      refine wpAnyH_take (i := 7) (oi := { dst := some 21, op := Op.move (Operand.tmp 6), type := 3, pos := "out.go:44", after := #[], guard := none }) (v := .int .i64 (k : Int)) rfl (by kernel_rfl) (by kernel_rfl) (by kernel_rfl) (fun _ _ _ h => h) (Or.inl ⟨by rfl, ?_⟩) (by assumption) ?_
      · intro w hSw
        (try dsimp only at hSw)
        go_simp
      try simp only [Act.put, List.setIfInBounds_toArray, List.set_cons_zero, List.set_cons_succ]
      refine wpAnyH_take (i := 8) (oi := { dst := some 22, op := Op.indexAddr 34 (Operand.tmp 5) (Operand.tmp 21), type := 0, pos := "out.go:44", after := #[{ on := 7, ground := Ground.data }], guard := none }) (v := .pointer (some ⟨g, k, none⟩)) rfl (by kernel_rfl) (by kernel_rfl) (by kernel_rfl) (fun _ _ _ h => h) (Or.inl ⟨by rfl, ?_⟩) (by assumption) ?_
      · intro w hSw
        (try dsimp only at hSw)
        go_simp
      try simp only [Act.put, List.setIfInBounds_toArray, List.set_cons_zero, List.set_cons_succ]
      refine wpAnyH_take (i := 9) (oi := { dst := some 23, op := Op.load 33 (Operand.tmp 22), type := 33, pos := "out.go:44", after := #[{ on := 8, ground := Ground.data }], guard := none }) (v := .pointer (some ⟨w.heap.size + 1, k, none⟩)) rfl (by kernel_rfl) (by kernel_rfl) (by kernel_rfl) (fun _ _ _ h => h) (Or.inl ⟨by rfl, ?_⟩) (by assumption) ?_
      · intro w hSw
        (try dsimp only at hSw)
        go_simp
      try simp only [Act.put, List.setIfInBounds_toArray, List.set_cons_zero, List.set_cons_succ]
      refine wpAnyH_take (i := 10) (oi := { dst := some 24, op := Op.nilCheck (Operand.tmp 23), type := 0, pos := "out.go:44", after := #[{ on := 9, ground := Ground.data }], guard := none }) (v := .pointer (some ⟨w.heap.size + 1, k, none⟩)) rfl (by kernel_rfl) (by kernel_rfl) (by kernel_rfl) (fun _ _ _ h => h) (Or.inl ⟨by rfl, ?_⟩) (by assumption) ?_
      · intro w hSw
        (try dsimp only at hSw)
        go_simp
      try simp only [Act.put, List.setIfInBounds_toArray, List.set_cons_zero, List.set_cons_succ]
      refine wpAnyH_take (i := 11) (oi := { dst := some 25, op := Op.load 2 (Operand.tmp 24), type := 2, pos := "out.go:44", after := #[{ on := 10, ground := Ground.data }], guard := none }) (v := .int .i64 z) rfl (by kernel_rfl) (by kernel_rfl) (by kernel_rfl) (fun _ _ _ h => h) (Or.inl ⟨by rfl, ?_⟩) (by assumption) ?_
      · intro w hSw
        (try dsimp only at hSw)
        go_simp
      try simp only [Act.put, List.setIfInBounds_toArray, List.set_cons_zero, List.set_cons_succ]
      refine wpAnyH_ready (rs := [6]) (by kernel_rfl) (by simp) ?_
      refine AllReadyH.cons (o := { dst := some 20, op := Op.load 2 (Operand.tmp 19), type := 2, pos := "out.go:44", after := #[{ on := 5, ground := Ground.data }], guard := none }) rfl (fun K hK => ?_) AllReadyH.nil
      go_simp
      refine hK.out _ _ (hHeld) (fun hHeld0 => ?_)
      clear hK K
      try simp only [Act.put, List.setIfInBounds_toArray, List.set_cons_zero, List.set_cons_succ]
      refine wpAnyH_ready (rs := [12]) (by kernel_rfl) (by simp) ?_
      refine AllReadyH.cons (o := { dst := some 26, op := Op.call { callee := Callee.value (Operand.func 16), args := #[Operand.tmp 17, Operand.tmp 20, Operand.tmp 25], argTypes := #[38, 2, 2] }, type := 2, pos := "out.go:44", after := #[{ on := 3, ground := Ground.data }, { on := 6, ground := Ground.data }, { on := 11, ground := Ground.data }], guard := none }) rfl (fun K hK => ?_) AllReadyH.nil
      go_simp
      refine (NC.out _).mono ?_
      rintro e u ⟨rfl, bb⟩
      replace TA := Lib.hid (lm_call TA.out bb)
      clear bb l0 f0
      obtain ⟨l0, f0⟩ := LC.out _ TA.out
      refine hK.out _ _ (SC.out _ TA.out) (fun hHeld1 => ?_)
      clear hK K
      try simp only [Act.put, List.setIfInBounds_toArray, List.set_cons_zero, List.set_cons_succ]
      refine wpAnyH_take (i := 13) (oi := { dst := some 27, op := Op.nilCheck (Operand.tmp 14), type := 0, pos := "out.go:44", after := #[{ on := 0, ground := Ground.data }, { on := 0, ground := Ground.phase }, { on := 1, ground := Ground.phase }, { on := 2, ground := Ground.phase }, { on := 3, ground := Ground.phase }, { on := 4, ground := Ground.phase }, { on := 5, ground := Ground.phase }, { on := 6, ground := Ground.phase }, { on := 7, ground := Ground.phase }, { on := 8, ground := Ground.phase }, { on := 9, ground := Ground.phase }, { on := 10, ground := Ground.phase }, { on := 11, ground := Ground.phase }, { on := 12, ground := Ground.phase }], guard := none }) (v := .pointer (some ⟨w.heap.size, k, none⟩)) rfl (by kernel_rfl) (by kernel_rfl) (by kernel_rfl) (fun _ _ _ h => h) (Or.inl ⟨by rfl, ?_⟩) (by assumption) ?_
      · intro w hSw
        (try dsimp only at hSw)
        go_simp
      try simp only [Act.put, List.setIfInBounds_toArray, List.set_cons_zero, List.set_cons_succ]
      refine wpAnyH_ready (rs := [14]) (by kernel_rfl) (by simp) ?_
      refine AllReadyH.cons (o := { dst := none, op := Op.store 2 (Operand.tmp 27) (Operand.tmp 26), type := 0, pos := "out.go:44", after := #[{ on := 13, ground := Ground.data }, { on := 12, ground := Ground.data }, { on := 12, ground := Ground.chain }, { on := 0, ground := Ground.phase }, { on := 1, ground := Ground.phase }, { on := 2, ground := Ground.phase }, { on := 3, ground := Ground.phase }, { on := 4, ground := Ground.phase }, { on := 5, ground := Ground.phase }, { on := 6, ground := Ground.phase }, { on := 7, ground := Ground.phase }, { on := 8, ground := Ground.phase }, { on := 9, ground := Ground.phase }, { on := 10, ground := Ground.phase }, { on := 11, ground := Ground.phase }, { on := 12, ground := Ground.phase }], guard := none }) rfl (fun K hK => ?_) AllReadyH.nil
      go_simp
      refine hK.out _ _ (SN.out _ (NX.out _ TA.out)) (fun hHeld2 => ?_)
      clear hK K
      try simp only [Act.put, List.setIfInBounds_toArray, List.set_cons_zero, List.set_cons_succ]
      refine wpAnyH_done (by kernel_rfl) ?_ _
      all_goals
        have TB := Lib.hid (NX.out _ TA.out)
        clear l0 f0
        go_wp2
        go_roundw
        case rel => exact ⟨k + 1, by go_num, by omega, TB.out⟩
        case measure => simp [intOf]; omega
    · obtain rfl : k = 3 := by omega
      have HB := Lib.hid (lm_as HA.out (mix_all A B))
      clear HA
      have q := ldC_blk HB.out.lb.ha
      have s2 := stC_blk (lim A B) HB.out.lb.hr
      go_wp2
      refine bodyPost_ret (v := .agg (cA (lim A B))) ?_ rfl ⟨rfl, below_row HB.out.lb.below (by omega) _⟩
      exact ret_c Tryd.results7 _ _ (w.heap.size + 1 + 1) (lim A B) rfl (blk_row HB.out.lb.hr _)
end

end Go.Proofs.YtgmgpefegmlnoaaDoor.Out
