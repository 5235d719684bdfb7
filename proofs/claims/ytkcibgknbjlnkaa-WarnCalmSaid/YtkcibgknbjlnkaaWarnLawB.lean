/- WarnCalm: where it lands at the greatest level and on the beam, nothing is warned of; nor where nothing is engaged. Conditions: a level is a byte. -/
import Derived.Test.YtkcibgknbjlnkaaWarnLives
namespace Go.Proofs.Ytkcibgknbjlnkaa.Wr
open Go.ChangeShapes Go.WideShapes Go.ChangeAt Go.RowKit Num Mem Md

/-- What the law boxes; the capability and what is shown behind it. -/
structure CmAt (w0 : World) (s n : St) (w : World) : Prop where
  below : Below w0.heap.size w0 w
  hs : Blk w w0.heap.size (stA s) 23
  hn : Blk w (w0.heap.size + 1) (stA n) 23
theorem cm_box (w : World) (s n : St) : CmAt w s n ((w.alloc (.cells (stA s) 23)).alloc (.cells (stA n) 23)) :=
  ⟨below_new (allocs w _) _, blk_kept (blk_alloc w _ _) (allocs _ _), blk_alloc2 w _ _ _⟩
theorem cm_call {w0 w w1 : World} {s n : St} (h : CmAt w0 s n w) (b : Below w.heap.size w w1) : CmAt w0 s n w1 := ⟨bthen h.below b, blk_kept h.hs b, blk_kept h.hn b⟩
theorem cm_drew {w0 w : World} {s n : St} (h : CmAt w0 s n w) : CmAt w0 s n w.drew := ⟨below_drewN h.below 1, h.hs, h.hn⟩

/-- What is warned of, by what lands and what is engaged. -/
theorem calm_ways (a b L : Int) (wide : Bool) (hL : L ≠ 0) : ∃ v : Int, wnW a b ⟨L, false, L⟩ wide = v ∧ (apprB b = true → v = if wide then 3 else 0) ∧ (apprB b = false → v = if engB a && (b == 0) then 1 else 0) :=
  ⟨_, rfl, fun h => calm_yes false wide h hL, fun h => calm_no false wide h⟩

set_option maxRecDepth 100000 in
set_option maxHeartbeats 16000000 in
theorem calmLaw (s n : St) (x : Int) (wide : Bool) (w : World) (h0 : 0 ≤ x) (h1 : x ≤ 255) :
    Calls Try.prog 4 #[.agg (stA s), .agg (stA n), .int .u8 x, .bool wide] w fun e w' => e = .returned (.bool true) ∧ Below w.heap.size w w' := by
  have K0 := Lib.hid (cm_box w s n)
  have RA := Lib.hid (fun W => rApprC n.m W)
  have RE := Lib.hid (fun W => rEngC s.m W)
  obtain ⟨r, hr⟩ : ∃ r, x % 2 = r := ⟨_, rfl⟩
  have r0 : 0 ≤ r := by omega
  have r1 : r ≤ 1 := by omega
  obtain ⟨v, hv, hy, hn⟩ := calm_ways s.m n.m (1 + r) wide (by omega)
  have OC : Hid (∀ W, Calls Try.prog 7 #[.agg (stA s), .agg (stA n), .agg (cpA ⟨1 + r, false, 1 + r⟩), .bool wide] W fun e w' => e = .returned (.agg (shA ⟨n.m, 1 + r, n.t, v⟩)) ∧ Below W.heap.size W w') := fun W => ofIs s n ⟨1 + r, false, 1 + r⟩ wide v hv W
  have HY := Lib.hid hy
  have HN := Lib.hid hn
  clear hv hy hn
  generalize apprB n.m = q at *
  generalize engB s.m = p at *
  obtain ⟨z, hz⟩ : ∃ z, (n.m == 0) = z := ⟨_, rfl⟩
  cases q
  · have HV := Lib.hid (show v = if p && z then 1 else 0 by rw [← hz]; exact HN.out rfl)
    clear HN HY
    cases p
    · obtain rfl : v = 0 := by rw [HV.out]; rfl
      go_enter Try.func4, Try.ntmps4
      go_upto_region 1 with (fail)
      generalize World.alloc (World.alloc w _) _ = W at *
      have KC := Lib.hid (blk_alloc W (cpA ⟨1 + r, false, 1 + r⟩) 25)
      have K1 := Lib.hid (cm_call K0.out (allocs W (.cells (cpA ⟨1 + r, false, 1 + r⟩) 25)))
      clear K0
      go_upto_region 2 with (fail)
      generalize World.alloc W _ = W1 at *
      generalize W.heap.size = gc at *
      have a0 := blk_cell K1.out.hs (o := 0) (v := .int .u8 s.m) rfl
      have a1 := blk_cell K1.out.hs (o := 1) (v := .bool s.t) rfl
      have b0 := blk_cell K1.out.hn (o := 0) (v := .int .u8 n.m) rfl
      have b1 := blk_cell K1.out.hn (o := 1) (v := .bool n.t) rfl
      have d0 := blk_cell KC.out (o := 0) (v := .int .u8 (1 + r)) rfl
      have d1 := blk_cell KC.out (o := 1) (v := .bool false) rfl
      have d2 := blk_cell KC.out (o := 2) (v := .int .u8 (1 + r)) rfl
      go_wp2_with fail
      refine (OC.out _).mono ?_
      rintro e w2 ⟨rfl, bb⟩
      clear a0 a1 b0 b1 d0 d1 d2
      have K2 := Lib.hid (cm_call K1.out bb)
      have KC2 := Lib.hid (blk_kept KC.out bb)
      clear bb K1 KC
      have KX := Lib.hid (blk_alloc w2 (shA ⟨n.m, 1 + r, n.t, 0⟩) 30)
      have K3 := Lib.hid (cm_call K2.out (allocs w2 (.cells (shA ⟨n.m, 1 + r, n.t, 0⟩) 30)))
      have KC3 := Lib.hid (blk_kept KC2.out (allocs w2 (.cells (shA ⟨n.m, 1 + r, n.t, 0⟩) 30)))
      clear K2 KC2
      go_upto_region 3 with (fail)
      generalize World.alloc w2 _ = W3 at *
      generalize w2.heap.size = gx at *
      have a0 := blk_cell K3.out.hs (o := 0) (v := .int .u8 s.m) rfl
      have b0 := blk_cell K3.out.hn (o := 0) (v := .int .u8 n.m) rfl
      have b1 := blk_cell K3.out.hn (o := 1) (v := .bool n.t) rfl
      have d0 := blk_cell KC3.out (o := 0) (v := .int .u8 (1 + r)) rfl
      have e0 := blk_cell KX.out (o := 0) (v := .int .u8 n.m) rfl
      have e1 := blk_cell KX.out (o := 1) (v := .int .u8 (1 + r)) rfl
      have e2 := blk_cell KX.out (o := 2) (v := .bool n.t) rfl
      have e3 := blk_cell KX.out (o := 3) (v := .int .u8 0) rfl
      go_upto_region 7 with ((with_reducible refine (RA.out _).mono ?_); rintro e w4 ⟨rfl, rfl⟩)
      have TA := Lib.hid (cm_drew K3.out)
      have TX := Lib.hid (show Blk W3.drew gx (shA ⟨n.m, 1 + r, n.t, 0⟩) 30 from KX.out)
      clear a0 b0 b1 d0 e0 e1 e2 e3 K3 KX KC3
      refine wp_region_held_drew (S := fun w' => w'.cell? ⟨gx, 3, none⟩ = some (.int .u8 0) ∧ w'.cell? ⟨w.heap.size, 0, none⟩ = some (.int .u8 s.m) ∧ w'.cell? ⟨w.heap.size + 1, 0, none⟩ = some (.int .u8 n.m)) (by kernel_rfl) (⟨blk_cell TX.out rfl, blk_cell TA.out.hs rfl, blk_cell TA.out.hn rfl⟩) (fun hHeld => ?_)
      refine wpAnyH_take (i := 0) (oi := { dst := some 66, op := Op.fieldAddr 30 (Operand.tmp 10) 3, type := 0, pos := "law.go:40", after := #[], guard := none }) (v := Value.pointer (some ⟨gx, 3, none⟩)) rfl (by kernel_rfl) (by kernel_rfl) (by kernel_rfl) (fun _ _ _ h => h) (Or.inl ⟨by rfl, ?_⟩) (by assumption) ?_
      · intro w hSw
        (try dsimp only at hSw)
        go_simp
      try simp only [Act.put, List.setIfInBounds_toArray, List.set_cons_zero, List.set_cons_succ]
      refine wpAnyH_take (i := 1) (oi := { dst := some 67, op := Op.load 5 (Operand.tmp 66), type := 5, pos := "law.go:40", after := #[{ on := 0, ground := Ground.data }], guard := none }) (v := .int .u8 0) rfl (by kernel_rfl) (by kernel_rfl) (by kernel_rfl) (fun _ _ _ h => h) (Or.inl ⟨by rfl, ?_⟩) (by assumption) ?_
      · intro w hSw
        (try dsimp only at hSw)
        go_simp
      try simp only [Act.put, List.setIfInBounds_toArray, List.set_cons_zero, List.set_cons_succ]
      refine wpAnyH_take (i := 2) (oi := { dst := some 68, op := Op.binOp BinOp.eql 5 (Operand.tmp 67) (Operand.const (Value.int IntKind.u8 1)) 5, type := 4, pos := "law.go:40", after := #[{ on := 1, ground := Ground.data }], guard := none }) (v := .bool false) rfl (by kernel_rfl) (by kernel_rfl) (by kernel_rfl) (fun _ _ _ h => h) (Or.inl ⟨by rfl, ?_⟩) (by assumption) ?_
      · intro w hSw
        (try dsimp only at hSw)
        go_simp
      try simp only [Act.put, List.setIfInBounds_toArray, List.set_cons_zero, List.set_cons_succ]
      refine wpAnyH_take (i := 3) (oi := { dst := some 69, op := Op.fieldAddr 23 (Operand.tmp 4) 0, type := 0, pos := "law.go:40", after := #[], guard := none }) (v := Value.pointer (some ⟨w.heap.size, 0, none⟩)) rfl (by kernel_rfl) (by kernel_rfl) (by kernel_rfl) (fun _ _ _ h => h) (Or.inl ⟨by rfl, ?_⟩) (by assumption) ?_
      · intro w hSw
        (try dsimp only at hSw)
        go_simp
      try simp only [Act.put, List.setIfInBounds_toArray, List.set_cons_zero, List.set_cons_succ]
      refine wpAnyH_take (i := 4) (oi := { dst := some 70, op := Op.load 5 (Operand.tmp 69), type := 5, pos := "law.go:40", after := #[{ on := 3, ground := Ground.data }], guard := none }) (v := .int .u8 s.m) rfl (by kernel_rfl) (by kernel_rfl) (by kernel_rfl) (fun _ _ _ h => h) (Or.inl ⟨by rfl, ?_⟩) (by assumption) ?_
      · intro w hSw
        (try dsimp only at hSw)
        go_simp
      try simp only [Act.put, List.setIfInBounds_toArray, List.set_cons_zero, List.set_cons_succ]
      refine wpAnyH_ready (rs := [5]) (by kernel_rfl) (by simp) ?_
      refine AllReadyH.cons (o := { dst := some 71, op := Op.call { callee := Callee.value (Operand.func 13), args := #[Operand.tmp 70], argTypes := #[5] }, type := 4, pos := "law.go:40", after := #[{ on := 4, ground := Ground.data }], guard := none }) rfl (fun K hK => ?_) AllReadyH.nil
      go_simp
      refine (RE.out _).mono ?_
      rintro e v ⟨rfl, rfl⟩
      refine hK.out _ _ (⟨blk_cell TX.out rfl, blk_cell TA.out.hs rfl, blk_cell TA.out.hn rfl⟩) (fun hHeld0 => ?_)
      clear hK K
      try simp only [Act.put, List.setIfInBounds_toArray, List.set_cons_zero, List.set_cons_succ]
      refine wpAnyH_take (i := 6) (oi := { dst := some 72, op := Op.move (Operand.tmp 71), type := 4, pos := "law.go:40", after := #[{ on := 5, ground := Ground.data }, { on := 5, ground := Ground.chain }], guard := none }) (v := .bool false) rfl (by kernel_rfl) (by kernel_rfl) (by kernel_rfl) (fun _ _ _ h => h) (Or.inl ⟨by rfl, ?_⟩) (by assumption) ?_
      · intro w hSw
        (try dsimp only at hSw)
        go_simp
      try simp only [Act.put, List.setIfInBounds_toArray, List.set_cons_zero, List.set_cons_succ]
      refine wpAnyH_take (i := 7) (oi := { dst := some 73, op := Op.fieldAddr 23 (Operand.tmp 5) 0, type := 0, pos := "law.go:40", after := #[{ on := 6, ground := Ground.guard }], guard := some (6, true) }) (v := undef) rfl (by kernel_rfl) (by kernel_rfl) (by kernel_rfl) (fun _ _ _ h => h) (Or.inr ⟨by rfl, rfl⟩) (by assumption) ?_
      try simp only [Act.put, List.setIfInBounds_toArray, List.set_cons_zero, List.set_cons_succ]
      refine wpAnyH_take (i := 8) (oi := { dst := some 74, op := Op.load 5 (Operand.tmp 73), type := 5, pos := "law.go:40", after := #[{ on := 7, ground := Ground.data }, { on := 6, ground := Ground.guard }], guard := some (6, true) }) (v := undef) rfl (by kernel_rfl) (by kernel_rfl) (by kernel_rfl) (fun _ _ _ h => h) (Or.inr ⟨by rfl, rfl⟩) (by assumption) ?_
      try simp only [Act.put, List.setIfInBounds_toArray, List.set_cons_zero, List.set_cons_succ]
      refine wpAnyH_take (i := 9) (oi := { dst := some 75, op := Op.binOp BinOp.eql 5 (Operand.tmp 74) (Operand.const (Value.int IntKind.u8 0)) 5, type := 4, pos := "law.go:40", after := #[{ on := 8, ground := Ground.data }, { on := 6, ground := Ground.guard }], guard := some (6, true) }) (v := undef) rfl (by kernel_rfl) (by kernel_rfl) (by kernel_rfl) (fun _ _ _ h => h) (Or.inr ⟨by rfl, rfl⟩) (by assumption) ?_
      try simp only [Act.put, List.setIfInBounds_toArray, List.set_cons_zero, List.set_cons_succ]
      refine wpAnyH_take (i := 10) (oi := { dst := some 76, op := Op.pick (Operand.tmp 72) (Operand.tmp 75) (Operand.const (Value.bool false)), type := 4, pos := "law.go:40", after := #[{ on := 6, ground := Ground.data }, { on := 9, ground := Ground.data }], guard := none }) (v := .bool false) rfl (by kernel_rfl) (by kernel_rfl) (by kernel_rfl) (fun _ _ _ h => h) (Or.inl ⟨by rfl, ?_⟩) (by assumption) ?_
      · intro w hSw
        (try dsimp only at hSw)
        go_simp
      try simp only [Act.put, List.setIfInBounds_toArray, List.set_cons_zero, List.set_cons_succ]
      refine wpAnyH_take (i := 11) (oi := { dst := some 77, op := Op.binOp BinOp.eql 4 (Operand.tmp 68) (Operand.tmp 76) 4, type := 4, pos := "law.go:40", after := #[{ on := 2, ground := Ground.data }, { on := 10, ground := Ground.data }], guard := none }) (v := .bool true) rfl (by kernel_rfl) (by kernel_rfl) (by kernel_rfl) (fun _ _ _ h => h) (Or.inl ⟨by rfl, ?_⟩) (by assumption) ?_
      · intro w hSw
        (try dsimp only at hSw)
        go_simp
      try simp only [Act.put, List.setIfInBounds_toArray, List.set_cons_zero, List.set_cons_succ]
      refine wpAnyH_take (i := 12) (oi := { dst := some 78, op := Op.move (Operand.tmp 77), type := 4, pos := "law.go:40", after := #[{ on := 11, ground := Ground.data }, { on := 6, ground := Ground.chain }], guard := none }) (v := .bool true) rfl (by kernel_rfl) (by kernel_rfl) (by kernel_rfl) (fun _ _ _ h => h) (Or.inl ⟨by rfl, ?_⟩) (by assumption) ?_
      · intro w hSw
        (try dsimp only at hSw)
        go_simp
      try simp only [Act.put, List.setIfInBounds_toArray, List.set_cons_zero, List.set_cons_succ]
      refine wpAnyH_take (i := 13) (oi := { dst := some 79, op := Op.fieldAddr 30 (Operand.tmp 10) 3, type := 0, pos := "law.go:40", after := #[{ on := 12, ground := Ground.guard }], guard := some (12, true) }) (v := Value.pointer (some ⟨gx, 3, none⟩)) rfl (by kernel_rfl) (by kernel_rfl) (by kernel_rfl) (fun _ _ _ h => h) (Or.inl ⟨by rfl, ?_⟩) (by assumption) ?_
      · intro w hSw
        (try dsimp only at hSw)
        go_simp
      try simp only [Act.put, List.setIfInBounds_toArray, List.set_cons_zero, List.set_cons_succ]
      refine wpAnyH_take (i := 14) (oi := { dst := some 80, op := Op.load 5 (Operand.tmp 79), type := 5, pos := "law.go:40", after := #[{ on := 13, ground := Ground.data }, { on := 12, ground := Ground.guard }], guard := some (12, true) }) (v := .int .u8 0) rfl (by kernel_rfl) (by kernel_rfl) (by kernel_rfl) (fun _ _ _ h => h) (Or.inl ⟨by rfl, ?_⟩) (by assumption) ?_
      · intro w hSw
        (try dsimp only at hSw)
        go_simp
      try simp only [Act.put, List.setIfInBounds_toArray, List.set_cons_zero, List.set_cons_succ]
      refine wpAnyH_take (i := 15) (oi := { dst := some 81, op := Op.binOp BinOp.eql 5 (Operand.tmp 80) (Operand.const (Value.int IntKind.u8 1)) 5, type := 4, pos := "law.go:40", after := #[{ on := 14, ground := Ground.data }, { on := 12, ground := Ground.guard }], guard := some (12, true) }) (v := .bool false) rfl (by kernel_rfl) (by kernel_rfl) (by kernel_rfl) (fun _ _ _ h => h) (Or.inl ⟨by rfl, ?_⟩) (by assumption) ?_
      · intro w hSw
        (try dsimp only at hSw)
        go_simp
      try simp only [Act.put, List.setIfInBounds_toArray, List.set_cons_zero, List.set_cons_succ]
      refine wpAnyH_take (i := 16) (oi := { dst := some 82, op := Op.move (Operand.tmp 81), type := 4, pos := "law.go:40", after := #[{ on := 15, ground := Ground.data }, { on := 12, ground := Ground.chain }, { on := 12, ground := Ground.guard }], guard := some (12, true) }) (v := .bool false) rfl (by kernel_rfl) (by kernel_rfl) (by kernel_rfl) (fun _ _ _ h => h) (Or.inl ⟨by rfl, ?_⟩) (by assumption) ?_
      · intro w hSw
        (try dsimp only at hSw)
        go_simp
      try simp only [Act.put, List.setIfInBounds_toArray, List.set_cons_zero, List.set_cons_succ]
      refine wpAnyH_take (i := 17) (oi := { dst := some 83, op := Op.fieldAddr 30 (Operand.tmp 10) 3, type := 0, pos := "law.go:40", after := #[{ on := 16, ground := Ground.guard }], guard := some (16, false) }) (v := Value.pointer (some ⟨gx, 3, none⟩)) rfl (by kernel_rfl) (by kernel_rfl) (by kernel_rfl) (fun _ _ _ h => h) (Or.inl ⟨by rfl, ?_⟩) (by assumption) ?_
      · intro w hSw
        (try dsimp only at hSw)
        go_simp
      try simp only [Act.put, List.setIfInBounds_toArray, List.set_cons_zero, List.set_cons_succ]
      refine wpAnyH_take (i := 18) (oi := { dst := some 84, op := Op.load 5 (Operand.tmp 83), type := 5, pos := "law.go:40", after := #[{ on := 17, ground := Ground.data }, { on := 16, ground := Ground.guard }], guard := some (16, false) }) (v := .int .u8 0) rfl (by kernel_rfl) (by kernel_rfl) (by kernel_rfl) (fun _ _ _ h => h) (Or.inl ⟨by rfl, ?_⟩) (by assumption) ?_
      · intro w hSw
        (try dsimp only at hSw)
        go_simp
      try simp only [Act.put, List.setIfInBounds_toArray, List.set_cons_zero, List.set_cons_succ]
      refine wpAnyH_take (i := 19) (oi := { dst := some 85, op := Op.binOp BinOp.eql 5 (Operand.tmp 84) (Operand.const (Value.int IntKind.u8 0)) 5, type := 4, pos := "law.go:40", after := #[{ on := 18, ground := Ground.data }, { on := 16, ground := Ground.guard }], guard := some (16, false) }) (v := .bool true) rfl (by kernel_rfl) (by kernel_rfl) (by kernel_rfl) (fun _ _ _ h => h) (Or.inl ⟨by rfl, ?_⟩) (by assumption) ?_
      · intro w hSw
        (try dsimp only at hSw)
        go_simp
      try simp only [Act.put, List.setIfInBounds_toArray, List.set_cons_zero, List.set_cons_succ]
      refine wpAnyH_take (i := 20) (oi := { dst := some 86, op := Op.pick (Operand.tmp 82) (Operand.const (Value.bool true)) (Operand.tmp 85), type := 4, pos := "law.go:40", after := #[{ on := 16, ground := Ground.data }, { on := 19, ground := Ground.data }, { on := 12, ground := Ground.guard }], guard := some (12, true) }) (v := .bool true) rfl (by kernel_rfl) (by kernel_rfl) (by kernel_rfl) (fun _ _ _ h => h) (Or.inl ⟨by rfl, ?_⟩) (by assumption) ?_
      · intro w hSw
        (try dsimp only at hSw)
        go_simp
      try simp only [Act.put, List.setIfInBounds_toArray, List.set_cons_zero, List.set_cons_succ]
      refine wpAnyH_take (i := 21) (oi := { dst := some 87, op := Op.pick (Operand.tmp 78) (Operand.tmp 86) (Operand.const (Value.bool false)), type := 4, pos := "law.go:40", after := #[{ on := 12, ground := Ground.data }, { on := 20, ground := Ground.data }], guard := none }) (v := .bool true) rfl (by kernel_rfl) (by kernel_rfl) (by kernel_rfl) (fun _ _ _ h => h) (Or.inl ⟨by rfl, ?_⟩) (by assumption) ?_
      · intro w hSw
        (try dsimp only at hSw)
        go_simp
      try simp only [Act.put, List.setIfInBounds_toArray, List.set_cons_zero, List.set_cons_succ]
      refine wpAnyH_take (i := 22) (oi := { dst := some 88, op := Op.move (Operand.tmp 87), type := 4, pos := "law.go:40", after := #[{ on := 21, ground := Ground.data }, { on := 16, ground := Ground.chain }], guard := none }) (v := .bool true) rfl (by kernel_rfl) (by kernel_rfl) (by kernel_rfl) (fun _ _ _ h => h) (Or.inl ⟨by rfl, ?_⟩) (by assumption) ?_
      · intro w hSw
        (try dsimp only at hSw)
        go_simp
      try simp only [Act.put, List.setIfInBounds_toArray, List.set_cons_zero, List.set_cons_succ]
      refine wpAnyH_ready (rs := [23]) (by kernel_rfl) (by simp) ?_
      refine AllReadyH.cons (o := { dst := some 89, op := Op.call { callee := Callee.value (Operand.func 11), args := #[], argTypes := #[] }, type := 4, pos := "law.go:40", after := #[{ on := 22, ground := Ground.chain }, { on := 22, ground := Ground.guard }], guard := some (22, true) }) rfl (fun K hK => ?_) AllReadyH.nil
      go_simp
      refine (lives _).mono ?_
      rintro e v ⟨rfl, bb⟩
      replace TA := Lib.hid (cm_call TA.out bb)
      replace TX := Lib.hid (blk_kept TX.out bb)
      clear bb
      refine hK.out _ _ (⟨blk_cell TX.out rfl, blk_cell TA.out.hs rfl, blk_cell TA.out.hn rfl⟩) (fun hHeld1 => ?_)
      clear hK K
      try simp only [Act.put, List.setIfInBounds_toArray, List.set_cons_zero, List.set_cons_succ]
      refine wpAnyH_take (i := 24) (oi := { dst := some 90, op := Op.pick (Operand.tmp 88) (Operand.tmp 89) (Operand.const (Value.bool false)), type := 4, pos := "law.go:40", after := #[{ on := 22, ground := Ground.data }, { on := 23, ground := Ground.data }], guard := none }) (v := .bool true) rfl (by kernel_rfl) (by kernel_rfl) (by kernel_rfl) (fun _ _ _ h => h) (Or.inl ⟨by rfl, ?_⟩) (by assumption) ?_
      · intro w hSw
        (try dsimp only at hSw)
        go_simp
      try simp only [Act.put, List.setIfInBounds_toArray, List.set_cons_zero, List.set_cons_succ]
      refine wpAnyH_take (i := 25) (oi := { dst := some 8, op := Op.assign (Operand.tmp 90), type := 4, pos := "law.go:40", after := #[{ on := 24, ground := Ground.data }, { on := 23, ground := Ground.chain }, { on := 0, ground := Ground.phase }, { on := 1, ground := Ground.phase }, { on := 2, ground := Ground.phase }, { on := 3, ground := Ground.phase }, { on := 4, ground := Ground.phase }, { on := 5, ground := Ground.phase }, { on := 6, ground := Ground.phase }, { on := 7, ground := Ground.phase }, { on := 8, ground := Ground.phase }, { on := 9, ground := Ground.phase }, { on := 10, ground := Ground.phase }, { on := 11, ground := Ground.phase }, { on := 12, ground := Ground.phase }, { on := 13, ground := Ground.phase }, { on := 14, ground := Ground.phase }, { on := 15, ground := Ground.phase }, { on := 16, ground := Ground.phase }, { on := 17, ground := Ground.phase }, { on := 18, ground := Ground.phase }, { on := 19, ground := Ground.phase }, { on := 20, ground := Ground.phase }, { on := 21, ground := Ground.phase }, { on := 22, ground := Ground.phase }, { on := 23, ground := Ground.phase }, { on := 24, ground := Ground.phase }], guard := none }) (v := .bool true) rfl (by kernel_rfl) (by kernel_rfl) (by kernel_rfl) (fun _ _ _ h => h) (Or.inl ⟨by rfl, ?_⟩) (by assumption) ?_
      · intro w hSw
        (try dsimp only at hSw)
        go_simp
      try simp only [Act.put, List.setIfInBounds_toArray, List.set_cons_zero, List.set_cons_succ]
      refine wpAnyH_done (by kernel_rfl) ?_ _
      all_goals
        go_wp2
        go_ret
        exact ⟨rfl, TA.out.below⟩
    · cases z
      · obtain rfl : v = 0 := by rw [HV.out]; rfl
        go_enter Try.func4, Try.ntmps4
        go_upto_region 1 with (fail)
        generalize World.alloc (World.alloc w _) _ = W at *
        have KC := Lib.hid (blk_alloc W (cpA ⟨1 + r, false, 1 + r⟩) 25)
        have K1 := Lib.hid (cm_call K0.out (allocs W (.cells (cpA ⟨1 + r, false, 1 + r⟩) 25)))
        clear K0
        go_upto_region 2 with (fail)
        generalize World.alloc W _ = W1 at *
        generalize W.heap.size = gc at *
        have a0 := blk_cell K1.out.hs (o := 0) (v := .int .u8 s.m) rfl
        have a1 := blk_cell K1.out.hs (o := 1) (v := .bool s.t) rfl
        have b0 := blk_cell K1.out.hn (o := 0) (v := .int .u8 n.m) rfl
        have b1 := blk_cell K1.out.hn (o := 1) (v := .bool n.t) rfl
        have d0 := blk_cell KC.out (o := 0) (v := .int .u8 (1 + r)) rfl
        have d1 := blk_cell KC.out (o := 1) (v := .bool false) rfl
        have d2 := blk_cell KC.out (o := 2) (v := .int .u8 (1 + r)) rfl
        go_wp2_with fail
        refine (OC.out _).mono ?_
        rintro e w2 ⟨rfl, bb⟩
        clear a0 a1 b0 b1 d0 d1 d2
        have K2 := Lib.hid (cm_call K1.out bb)
        have KC2 := Lib.hid (blk_kept KC.out bb)
        clear bb K1 KC
        have KX := Lib.hid (blk_alloc w2 (shA ⟨n.m, 1 + r, n.t, 0⟩) 30)
        have K3 := Lib.hid (cm_call K2.out (allocs w2 (.cells (shA ⟨n.m, 1 + r, n.t, 0⟩) 30)))
        have KC3 := Lib.hid (blk_kept KC2.out (allocs w2 (.cells (shA ⟨n.m, 1 + r, n.t, 0⟩) 30)))
        clear K2 KC2
        go_upto_region 3 with (fail)
        generalize World.alloc w2 _ = W3 at *
        generalize w2.heap.size = gx at *
        have a0 := blk_cell K3.out.hs (o := 0) (v := .int .u8 s.m) rfl
        have b0 := blk_cell K3.out.hn (o := 0) (v := .int .u8 n.m) rfl
        have b1 := blk_cell K3.out.hn (o := 1) (v := .bool n.t) rfl
        have d0 := blk_cell KC3.out (o := 0) (v := .int .u8 (1 + r)) rfl
        have e0 := blk_cell KX.out (o := 0) (v := .int .u8 n.m) rfl
        have e1 := blk_cell KX.out (o := 1) (v := .int .u8 (1 + r)) rfl
        have e2 := blk_cell KX.out (o := 2) (v := .bool n.t) rfl
        have e3 := blk_cell KX.out (o := 3) (v := .int .u8 0) rfl
        go_upto_region 7 with ((with_reducible refine (RA.out _).mono ?_); rintro e w4 ⟨rfl, rfl⟩)
        have TA := Lib.hid (cm_drew K3.out)
        have TX := Lib.hid (show Blk W3.drew gx (shA ⟨n.m, 1 + r, n.t, 0⟩) 30 from KX.out)
        clear a0 b0 b1 d0 e0 e1 e2 e3 K3 KX KC3
        go_region_held3 (fun w' => w'.cell? ⟨gx, 3, none⟩ = some (.int .u8 0) ∧ w'.cell? ⟨w.heap.size, 0, none⟩ = some (.int .u8 s.m) ∧ w'.cell? ⟨w.heap.size + 1, 0, none⟩ = some (.int .u8 n.m))
          (first
            | (with_reducible assumption)
            | exact ⟨blk_cell TX.out rfl, blk_cell TA.out.hs rfl, blk_cell TA.out.hn rfl⟩)
          (first
          | (with_reducible refine (RE.out _).mono ?_; rintro e v ⟨rfl, rfl⟩)
          | (with_reducible refine (lives _).mono ?_; rintro e v ⟨rfl, bb⟩; replace TA := Lib.hid (cm_call TA.out bb); replace TX := Lib.hid (blk_kept TX.out bb); clear bb))
        all_goals
          go_wp2
          go_ret
          exact ⟨rfl, TA.out.below⟩
      · obtain rfl : v = 1 := by rw [HV.out]; rfl
        go_enter Try.func4, Try.ntmps4
        go_upto_region 1 with (fail)
        generalize World.alloc (World.alloc w _) _ = W at *
        have KC := Lib.hid (blk_alloc W (cpA ⟨1 + r, false, 1 + r⟩) 25)
        have K1 := Lib.hid (cm_call K0.out (allocs W (.cells (cpA ⟨1 + r, false, 1 + r⟩) 25)))
        clear K0
        go_upto_region 2 with (fail)
        generalize World.alloc W _ = W1 at *
        generalize W.heap.size = gc at *
        have a0 := blk_cell K1.out.hs (o := 0) (v := .int .u8 s.m) rfl
        have a1 := blk_cell K1.out.hs (o := 1) (v := .bool s.t) rfl
        have b0 := blk_cell K1.out.hn (o := 0) (v := .int .u8 n.m) rfl
        have b1 := blk_cell K1.out.hn (o := 1) (v := .bool n.t) rfl
        have d0 := blk_cell KC.out (o := 0) (v := .int .u8 (1 + r)) rfl
        have d1 := blk_cell KC.out (o := 1) (v := .bool false) rfl
        have d2 := blk_cell KC.out (o := 2) (v := .int .u8 (1 + r)) rfl
        go_wp2_with fail
        refine (OC.out _).mono ?_
        rintro e w2 ⟨rfl, bb⟩
        clear a0 a1 b0 b1 d0 d1 d2
        have K2 := Lib.hid (cm_call K1.out bb)
        have KC2 := Lib.hid (blk_kept KC.out bb)
        clear bb K1 KC
        have KX := Lib.hid (blk_alloc w2 (shA ⟨n.m, 1 + r, n.t, 1⟩) 30)
        have K3 := Lib.hid (cm_call K2.out (allocs w2 (.cells (shA ⟨n.m, 1 + r, n.t, 1⟩) 30)))
        have KC3 := Lib.hid (blk_kept KC2.out (allocs w2 (.cells (shA ⟨n.m, 1 + r, n.t, 1⟩) 30)))
        clear K2 KC2
        go_upto_region 3 with (fail)
        generalize World.alloc w2 _ = W3 at *
        generalize w2.heap.size = gx at *
        have a0 := blk_cell K3.out.hs (o := 0) (v := .int .u8 s.m) rfl
        have b0 := blk_cell K3.out.hn (o := 0) (v := .int .u8 n.m) rfl
        have b1 := blk_cell K3.out.hn (o := 1) (v := .bool n.t) rfl
        have d0 := blk_cell KC3.out (o := 0) (v := .int .u8 (1 + r)) rfl
        have e0 := blk_cell KX.out (o := 0) (v := .int .u8 n.m) rfl
        have e1 := blk_cell KX.out (o := 1) (v := .int .u8 (1 + r)) rfl
        have e2 := blk_cell KX.out (o := 2) (v := .bool n.t) rfl
        have e3 := blk_cell KX.out (o := 3) (v := .int .u8 1) rfl
        go_upto_region 7 with ((with_reducible refine (RA.out _).mono ?_); rintro e w4 ⟨rfl, rfl⟩)
        have TA := Lib.hid (cm_drew K3.out)
        have TX := Lib.hid (show Blk W3.drew gx (shA ⟨n.m, 1 + r, n.t, 1⟩) 30 from KX.out)
        clear a0 b0 b1 d0 e0 e1 e2 e3 K3 KX KC3
        refine wp_region_held_drew (S := fun w' => w'.cell? ⟨gx, 3, none⟩ = some (.int .u8 1) ∧ w'.cell? ⟨w.heap.size, 0, none⟩ = some (.int .u8 s.m) ∧ w'.cell? ⟨w.heap.size + 1, 0, none⟩ = some (.int .u8 n.m)) (by kernel_rfl) (⟨blk_cell TX.out rfl, blk_cell TA.out.hs rfl, blk_cell TA.out.hn rfl⟩) (fun hHeld => ?_)
        refine wpAnyH_take (i := 0) (oi := { dst := some 66, op := Op.fieldAddr 30 (Operand.tmp 10) 3, type := 0, pos := "law.go:40", after := #[], guard := none }) (v := Value.pointer (some ⟨gx, 3, none⟩)) rfl (by kernel_rfl) (by kernel_rfl) (by kernel_rfl) (fun _ _ _ h => h) (Or.inl ⟨by rfl, ?_⟩) (by assumption) ?_
        · intro w hSw
          (try dsimp only at hSw)
          go_simp
        try simp only [Act.put, List.setIfInBounds_toArray, List.set_cons_zero, List.set_cons_succ]
        refine wpAnyH_take (i := 1) (oi := { dst := some 67, op := Op.load 5 (Operand.tmp 66), type := 5, pos := "law.go:40", after := #[{ on := 0, ground := Ground.data }], guard := none }) (v := .int .u8 1) rfl (by kernel_rfl) (by kernel_rfl) (by kernel_rfl) (fun _ _ _ h => h) (Or.inl ⟨by rfl, ?_⟩) (by assumption) ?_
        · intro w hSw
          (try dsimp only at hSw)
          go_simp
        try simp only [Act.put, List.setIfInBounds_toArray, List.set_cons_zero, List.set_cons_succ]
        refine wpAnyH_take (i := 2) (oi := { dst := some 68, op := Op.binOp BinOp.eql 5 (Operand.tmp 67) (Operand.const (Value.int IntKind.u8 1)) 5, type := 4, pos := "law.go:40", after := #[{ on := 1, ground := Ground.data }], guard := none }) (v := .bool true) rfl (by kernel_rfl) (by kernel_rfl) (by kernel_rfl) (fun _ _ _ h => h) (Or.inl ⟨by rfl, ?_⟩) (by assumption) ?_
        · intro w hSw
          (try dsimp only at hSw)
          go_simp
        try simp only [Act.put, List.setIfInBounds_toArray, List.set_cons_zero, List.set_cons_succ]
        refine wpAnyH_take (i := 3) (oi := { dst := some 69, op := Op.fieldAddr 23 (Operand.tmp 4) 0, type := 0, pos := "law.go:40", after := #[], guard := none }) (v := Value.pointer (some ⟨w.heap.size, 0, none⟩)) rfl (by kernel_rfl) (by kernel_rfl) (by kernel_rfl) (fun _ _ _ h => h) (Or.inl ⟨by rfl, ?_⟩) (by assumption) ?_
        · intro w hSw
          (try dsimp only at hSw)
          go_simp
        try simp only [Act.put, List.setIfInBounds_toArray, List.set_cons_zero, List.set_cons_succ]
        refine wpAnyH_take (i := 4) (oi := { dst := some 70, op := Op.load 5 (Operand.tmp 69), type := 5, pos := "law.go:40", after := #[{ on := 3, ground := Ground.data }], guard := none }) (v := .int .u8 s.m) rfl (by kernel_rfl) (by kernel_rfl) (by kernel_rfl) (fun _ _ _ h => h) (Or.inl ⟨by rfl, ?_⟩) (by assumption) ?_
        · intro w hSw
          (try dsimp only at hSw)
          go_simp
        try simp only [Act.put, List.setIfInBounds_toArray, List.set_cons_zero, List.set_cons_succ]
        refine wpAnyH_ready (rs := [5]) (by kernel_rfl) (by simp) ?_
        refine AllReadyH.cons (o := { dst := some 71, op := Op.call { callee := Callee.value (Operand.func 13), args := #[Operand.tmp 70], argTypes := #[5] }, type := 4, pos := "law.go:40", after := #[{ on := 4, ground := Ground.data }], guard := none }) rfl (fun K hK => ?_) AllReadyH.nil
        go_simp
        refine (RE.out _).mono ?_
        rintro e v ⟨rfl, rfl⟩
        refine hK.out _ _ (⟨blk_cell TX.out rfl, blk_cell TA.out.hs rfl, blk_cell TA.out.hn rfl⟩) (fun hHeld0 => ?_)
        clear hK K
        try simp only [Act.put, List.setIfInBounds_toArray, List.set_cons_zero, List.set_cons_succ]
        refine wpAnyH_take (i := 6) (oi := { dst := some 72, op := Op.move (Operand.tmp 71), type := 4, pos := "law.go:40", after := #[{ on := 5, ground := Ground.data }, { on := 5, ground := Ground.chain }], guard := none }) (v := .bool true) rfl (by kernel_rfl) (by kernel_rfl) (by kernel_rfl) (fun _ _ _ h => h) (Or.inl ⟨by rfl, ?_⟩) (by assumption) ?_
        · intro w hSw
          (try dsimp only at hSw)
          go_simp
        try simp only [Act.put, List.setIfInBounds_toArray, List.set_cons_zero, List.set_cons_succ]
        refine wpAnyH_take (i := 7) (oi := { dst := some 73, op := Op.fieldAddr 23 (Operand.tmp 5) 0, type := 0, pos := "law.go:40", after := #[{ on := 6, ground := Ground.guard }], guard := some (6, true) }) (v := Value.pointer (some ⟨w.heap.size + 1, 0, none⟩)) rfl (by kernel_rfl) (by kernel_rfl) (by kernel_rfl) (fun _ _ _ h => h) (Or.inl ⟨by rfl, ?_⟩) (by assumption) ?_
        · intro w hSw
          (try dsimp only at hSw)
          go_simp
        try simp only [Act.put, List.setIfInBounds_toArray, List.set_cons_zero, List.set_cons_succ]
        refine wpAnyH_take (i := 8) (oi := { dst := some 74, op := Op.load 5 (Operand.tmp 73), type := 5, pos := "law.go:40", after := #[{ on := 7, ground := Ground.data }, { on := 6, ground := Ground.guard }], guard := some (6, true) }) (v := .int .u8 n.m) rfl (by kernel_rfl) (by kernel_rfl) (by kernel_rfl) (fun _ _ _ h => h) (Or.inl ⟨by rfl, ?_⟩) (by assumption) ?_
        · intro w hSw
          (try dsimp only at hSw)
          go_simp
        try simp only [Act.put, List.setIfInBounds_toArray, List.set_cons_zero, List.set_cons_succ]
        refine wpAnyH_take (i := 9) (oi := { dst := some 75, op := Op.binOp BinOp.eql 5 (Operand.tmp 74) (Operand.const (Value.int IntKind.u8 0)) 5, type := 4, pos := "law.go:40", after := #[{ on := 8, ground := Ground.data }, { on := 6, ground := Ground.guard }], guard := some (6, true) }) (v := .bool true) rfl (by kernel_rfl) (by kernel_rfl) (by kernel_rfl) (fun _ _ _ h => h) (Or.inl ⟨by rfl, ?_⟩) (by assumption) ?_
        · intro w hSw
          (try dsimp only at hSw)
          go_simp
        try simp only [Act.put, List.setIfInBounds_toArray, List.set_cons_zero, List.set_cons_succ]
        refine wpAnyH_take (i := 10) (oi := { dst := some 76, op := Op.pick (Operand.tmp 72) (Operand.tmp 75) (Operand.const (Value.bool false)), type := 4, pos := "law.go:40", after := #[{ on := 6, ground := Ground.data }, { on := 9, ground := Ground.data }], guard := none }) (v := .bool true) rfl (by kernel_rfl) (by kernel_rfl) (by kernel_rfl) (fun _ _ _ h => h) (Or.inl ⟨by rfl, ?_⟩) (by assumption) ?_
        · intro w hSw
          (try dsimp only at hSw)
          go_simp
        try simp only [Act.put, List.setIfInBounds_toArray, List.set_cons_zero, List.set_cons_succ]
        refine wpAnyH_take (i := 11) (oi := { dst := some 77, op := Op.binOp BinOp.eql 4 (Operand.tmp 68) (Operand.tmp 76) 4, type := 4, pos := "law.go:40", after := #[{ on := 2, ground := Ground.data }, { on := 10, ground := Ground.data }], guard := none }) (v := .bool true) rfl (by kernel_rfl) (by kernel_rfl) (by kernel_rfl) (fun _ _ _ h => h) (Or.inl ⟨by rfl, ?_⟩) (by assumption) ?_
        · intro w hSw
          (try dsimp only at hSw)
          go_simp
        try simp only [Act.put, List.setIfInBounds_toArray, List.set_cons_zero, List.set_cons_succ]
        refine wpAnyH_take (i := 12) (oi := { dst := some 78, op := Op.move (Operand.tmp 77), type := 4, pos := "law.go:40", after := #[{ on := 11, ground := Ground.data }, { on := 6, ground := Ground.chain }], guard := none }) (v := .bool true) rfl (by kernel_rfl) (by kernel_rfl) (by kernel_rfl) (fun _ _ _ h => h) (Or.inl ⟨by rfl, ?_⟩) (by assumption) ?_
        · intro w hSw
          (try dsimp only at hSw)
          go_simp
        try simp only [Act.put, List.setIfInBounds_toArray, List.set_cons_zero, List.set_cons_succ]
        refine wpAnyH_take (i := 13) (oi := { dst := some 79, op := Op.fieldAddr 30 (Operand.tmp 10) 3, type := 0, pos := "law.go:40", after := #[{ on := 12, ground := Ground.guard }], guard := some (12, true) }) (v := Value.pointer (some ⟨gx, 3, none⟩)) rfl (by kernel_rfl) (by kernel_rfl) (by kernel_rfl) (fun _ _ _ h => h) (Or.inl ⟨by rfl, ?_⟩) (by assumption) ?_
        · intro w hSw
          (try dsimp only at hSw)
          go_simp
        try simp only [Act.put, List.setIfInBounds_toArray, List.set_cons_zero, List.set_cons_succ]
        refine wpAnyH_take (i := 14) (oi := { dst := some 80, op := Op.load 5 (Operand.tmp 79), type := 5, pos := "law.go:40", after := #[{ on := 13, ground := Ground.data }, { on := 12, ground := Ground.guard }], guard := some (12, true) }) (v := .int .u8 1) rfl (by kernel_rfl) (by kernel_rfl) (by kernel_rfl) (fun _ _ _ h => h) (Or.inl ⟨by rfl, ?_⟩) (by assumption) ?_
        · intro w hSw
          (try dsimp only at hSw)
          go_simp
        try simp only [Act.put, List.setIfInBounds_toArray, List.set_cons_zero, List.set_cons_succ]
        refine wpAnyH_take (i := 15) (oi := { dst := some 81, op := Op.binOp BinOp.eql 5 (Operand.tmp 80) (Operand.const (Value.int IntKind.u8 1)) 5, type := 4, pos := "law.go:40", after := #[{ on := 14, ground := Ground.data }, { on := 12, ground := Ground.guard }], guard := some (12, true) }) (v := .bool true) rfl (by kernel_rfl) (by kernel_rfl) (by kernel_rfl) (fun _ _ _ h => h) (Or.inl ⟨by rfl, ?_⟩) (by assumption) ?_
        · intro w hSw
          (try dsimp only at hSw)
          go_simp
        try simp only [Act.put, List.setIfInBounds_toArray, List.set_cons_zero, List.set_cons_succ]
        refine wpAnyH_take (i := 16) (oi := { dst := some 82, op := Op.move (Operand.tmp 81), type := 4, pos := "law.go:40", after := #[{ on := 15, ground := Ground.data }, { on := 12, ground := Ground.chain }, { on := 12, ground := Ground.guard }], guard := some (12, true) }) (v := .bool true) rfl (by kernel_rfl) (by kernel_rfl) (by kernel_rfl) (fun _ _ _ h => h) (Or.inl ⟨by rfl, ?_⟩) (by assumption) ?_
        · intro w hSw
          (try dsimp only at hSw)
          go_simp
        try simp only [Act.put, List.setIfInBounds_toArray, List.set_cons_zero, List.set_cons_succ]
        refine wpAnyH_take (i := 17) (oi := { dst := some 83, op := Op.fieldAddr 30 (Operand.tmp 10) 3, type := 0, pos := "law.go:40", after := #[{ on := 16, ground := Ground.guard }], guard := some (16, false) }) (v := undef) rfl (by kernel_rfl) (by kernel_rfl) (by kernel_rfl) (fun _ _ _ h => h) (Or.inr ⟨by rfl, rfl⟩) (by assumption) ?_
        try simp only [Act.put, List.setIfInBounds_toArray, List.set_cons_zero, List.set_cons_succ]
        refine wpAnyH_take (i := 18) (oi := { dst := some 84, op := Op.load 5 (Operand.tmp 83), type := 5, pos := "law.go:40", after := #[{ on := 17, ground := Ground.data }, { on := 16, ground := Ground.guard }], guard := some (16, false) }) (v := undef) rfl (by kernel_rfl) (by kernel_rfl) (by kernel_rfl) (fun _ _ _ h => h) (Or.inr ⟨by rfl, rfl⟩) (by assumption) ?_
        try simp only [Act.put, List.setIfInBounds_toArray, List.set_cons_zero, List.set_cons_succ]
        refine wpAnyH_take (i := 19) (oi := { dst := some 85, op := Op.binOp BinOp.eql 5 (Operand.tmp 84) (Operand.const (Value.int IntKind.u8 0)) 5, type := 4, pos := "law.go:40", after := #[{ on := 18, ground := Ground.data }, { on := 16, ground := Ground.guard }], guard := some (16, false) }) (v := undef) rfl (by kernel_rfl) (by kernel_rfl) (by kernel_rfl) (fun _ _ _ h => h) (Or.inr ⟨by rfl, rfl⟩) (by assumption) ?_
        try simp only [Act.put, List.setIfInBounds_toArray, List.set_cons_zero, List.set_cons_succ]
        refine wpAnyH_take (i := 20) (oi := { dst := some 86, op := Op.pick (Operand.tmp 82) (Operand.const (Value.bool true)) (Operand.tmp 85), type := 4, pos := "law.go:40", after := #[{ on := 16, ground := Ground.data }, { on := 19, ground := Ground.data }, { on := 12, ground := Ground.guard }], guard := some (12, true) }) (v := .bool true) rfl (by kernel_rfl) (by kernel_rfl) (by kernel_rfl) (fun _ _ _ h => h) (Or.inl ⟨by rfl, ?_⟩) (by assumption) ?_
        · intro w hSw
          (try dsimp only at hSw)
          go_simp
        try simp only [Act.put, List.setIfInBounds_toArray, List.set_cons_zero, List.set_cons_succ]
        refine wpAnyH_take (i := 21) (oi := { dst := some 87, op := Op.pick (Operand.tmp 78) (Operand.tmp 86) (Operand.const (Value.bool false)), type := 4, pos := "law.go:40", after := #[{ on := 12, ground := Ground.data }, { on := 20, ground := Ground.data }], guard := none }) (v := .bool true) rfl (by kernel_rfl) (by kernel_rfl) (by kernel_rfl) (fun _ _ _ h => h) (Or.inl ⟨by rfl, ?_⟩) (by assumption) ?_
        · intro w hSw
          (try dsimp only at hSw)
          go_simp
        try simp only [Act.put, List.setIfInBounds_toArray, List.set_cons_zero, List.set_cons_succ]
        refine wpAnyH_take (i := 22) (oi := { dst := some 88, op := Op.move (Operand.tmp 87), type := 4, pos := "law.go:40", after := #[{ on := 21, ground := Ground.data }, { on := 16, ground := Ground.chain }], guard := none }) (v := .bool true) rfl (by kernel_rfl) (by kernel_rfl) (by kernel_rfl) (fun _ _ _ h => h) (Or.inl ⟨by rfl, ?_⟩) (by assumption) ?_
        · intro w hSw
          (try dsimp only at hSw)
          go_simp
        try simp only [Act.put, List.setIfInBounds_toArray, List.set_cons_zero, List.set_cons_succ]
        refine wpAnyH_ready (rs := [23]) (by kernel_rfl) (by simp) ?_
        refine AllReadyH.cons (o := { dst := some 89, op := Op.call { callee := Callee.value (Operand.func 11), args := #[], argTypes := #[] }, type := 4, pos := "law.go:40", after := #[{ on := 22, ground := Ground.chain }, { on := 22, ground := Ground.guard }], guard := some (22, true) }) rfl (fun K hK => ?_) AllReadyH.nil
        go_simp
        refine (lives _).mono ?_
        rintro e v ⟨rfl, bb⟩
        replace TA := Lib.hid (cm_call TA.out bb)
        replace TX := Lib.hid (blk_kept TX.out bb)
        clear bb
        refine hK.out _ _ (⟨blk_cell TX.out rfl, blk_cell TA.out.hs rfl, blk_cell TA.out.hn rfl⟩) (fun hHeld1 => ?_)
        clear hK K
        try simp only [Act.put, List.setIfInBounds_toArray, List.set_cons_zero, List.set_cons_succ]
        refine wpAnyH_take (i := 24) (oi := { dst := some 90, op := Op.pick (Operand.tmp 88) (Operand.tmp 89) (Operand.const (Value.bool false)), type := 4, pos := "law.go:40", after := #[{ on := 22, ground := Ground.data }, { on := 23, ground := Ground.data }], guard := none }) (v := .bool true) rfl (by kernel_rfl) (by kernel_rfl) (by kernel_rfl) (fun _ _ _ h => h) (Or.inl ⟨by rfl, ?_⟩) (by assumption) ?_
        · intro w hSw
          (try dsimp only at hSw)
          go_simp
        try simp only [Act.put, List.setIfInBounds_toArray, List.set_cons_zero, List.set_cons_succ]
        refine wpAnyH_take (i := 25) (oi := { dst := some 8, op := Op.assign (Operand.tmp 90), type := 4, pos := "law.go:40", after := #[{ on := 24, ground := Ground.data }, { on := 23, ground := Ground.chain }, { on := 0, ground := Ground.phase }, { on := 1, ground := Ground.phase }, { on := 2, ground := Ground.phase }, { on := 3, ground := Ground.phase }, { on := 4, ground := Ground.phase }, { on := 5, ground := Ground.phase }, { on := 6, ground := Ground.phase }, { on := 7, ground := Ground.phase }, { on := 8, ground := Ground.phase }, { on := 9, ground := Ground.phase }, { on := 10, ground := Ground.phase }, { on := 11, ground := Ground.phase }, { on := 12, ground := Ground.phase }, { on := 13, ground := Ground.phase }, { on := 14, ground := Ground.phase }, { on := 15, ground := Ground.phase }, { on := 16, ground := Ground.phase }, { on := 17, ground := Ground.phase }, { on := 18, ground := Ground.phase }, { on := 19, ground := Ground.phase }, { on := 20, ground := Ground.phase }, { on := 21, ground := Ground.phase }, { on := 22, ground := Ground.phase }, { on := 23, ground := Ground.phase }, { on := 24, ground := Ground.phase }], guard := none }) (v := .bool true) rfl (by kernel_rfl) (by kernel_rfl) (by kernel_rfl) (fun _ _ _ h => h) (Or.inl ⟨by rfl, ?_⟩) (by assumption) ?_
        · intro w hSw
          (try dsimp only at hSw)
          go_simp
        try simp only [Act.put, List.setIfInBounds_toArray, List.set_cons_zero, List.set_cons_succ]
        refine wpAnyH_done (by kernel_rfl) ?_ _
        all_goals
          go_wp2
          go_ret
          exact ⟨rfl, TA.out.below⟩
  · have HV := Lib.hid (show v = if wide then 3 else 0 from HY.out rfl)
    clear HN HY
    cases wide
    · obtain rfl : v = 0 := by rw [HV.out]; rfl
      go_enter Try.func4, Try.ntmps4
      go_upto_region 1 with (fail)
      generalize World.alloc (World.alloc w _) _ = W at *
      have KC := Lib.hid (blk_alloc W (cpA ⟨1 + r, false, 1 + r⟩) 25)
      have K1 := Lib.hid (cm_call K0.out (allocs W (.cells (cpA ⟨1 + r, false, 1 + r⟩) 25)))
      clear K0
      go_upto_region 2 with (fail)
      generalize World.alloc W _ = W1 at *
      generalize W.heap.size = gc at *
      have a0 := blk_cell K1.out.hs (o := 0) (v := .int .u8 s.m) rfl
      have a1 := blk_cell K1.out.hs (o := 1) (v := .bool s.t) rfl
      have b0 := blk_cell K1.out.hn (o := 0) (v := .int .u8 n.m) rfl
      have b1 := blk_cell K1.out.hn (o := 1) (v := .bool n.t) rfl
      have d0 := blk_cell KC.out (o := 0) (v := .int .u8 (1 + r)) rfl
      have d1 := blk_cell KC.out (o := 1) (v := .bool false) rfl
      have d2 := blk_cell KC.out (o := 2) (v := .int .u8 (1 + r)) rfl
      go_wp2_with fail
      refine (OC.out _).mono ?_
      rintro e w2 ⟨rfl, bb⟩
      clear a0 a1 b0 b1 d0 d1 d2
      have K2 := Lib.hid (cm_call K1.out bb)
      have KC2 := Lib.hid (blk_kept KC.out bb)
      clear bb K1 KC
      have KX := Lib.hid (blk_alloc w2 (shA ⟨n.m, 1 + r, n.t, 0⟩) 30)
      have K3 := Lib.hid (cm_call K2.out (allocs w2 (.cells (shA ⟨n.m, 1 + r, n.t, 0⟩) 30)))
      have KC3 := Lib.hid (blk_kept KC2.out (allocs w2 (.cells (shA ⟨n.m, 1 + r, n.t, 0⟩) 30)))
      clear K2 KC2
      go_upto_region 3 with (fail)
      generalize World.alloc w2 _ = W3 at *
      generalize w2.heap.size = gx at *
      have a0 := blk_cell K3.out.hs (o := 0) (v := .int .u8 s.m) rfl
      have b0 := blk_cell K3.out.hn (o := 0) (v := .int .u8 n.m) rfl
      have b1 := blk_cell K3.out.hn (o := 1) (v := .bool n.t) rfl
      have d0 := blk_cell KC3.out (o := 0) (v := .int .u8 (1 + r)) rfl
      have e0 := blk_cell KX.out (o := 0) (v := .int .u8 n.m) rfl
      have e1 := blk_cell KX.out (o := 1) (v := .int .u8 (1 + r)) rfl
      have e2 := blk_cell KX.out (o := 2) (v := .bool n.t) rfl
      have e3 := blk_cell KX.out (o := 3) (v := .int .u8 0) rfl
      go_wp2_with (first
        | ((with_reducible refine (RA.out _).mono ?_); rintro e w4 ⟨rfl, rfl⟩)
        | ((with_reducible refine (lives _).mono ?_); rintro e w4 ⟨rfl, bb⟩; replace K3 := Lib.hid (cm_call K3.out bb); clear bb))
      go_ret
      exact ⟨rfl, K3.out.below⟩
    · obtain rfl : v = 3 := by rw [HV.out]; rfl
      go_enter Try.func4, Try.ntmps4
      go_upto_region 1 with (fail)
      generalize World.alloc (World.alloc w _) _ = W at *
      have KC := Lib.hid (blk_alloc W (cpA ⟨1 + r, false, 1 + r⟩) 25)
      have K1 := Lib.hid (cm_call K0.out (allocs W (.cells (cpA ⟨1 + r, false, 1 + r⟩) 25)))
      clear K0
      go_upto_region 2 with (fail)
      generalize World.alloc W _ = W1 at *
      generalize W.heap.size = gc at *
      have a0 := blk_cell K1.out.hs (o := 0) (v := .int .u8 s.m) rfl
      have a1 := blk_cell K1.out.hs (o := 1) (v := .bool s.t) rfl
      have b0 := blk_cell K1.out.hn (o := 0) (v := .int .u8 n.m) rfl
      have b1 := blk_cell K1.out.hn (o := 1) (v := .bool n.t) rfl
      have d0 := blk_cell KC.out (o := 0) (v := .int .u8 (1 + r)) rfl
      have d1 := blk_cell KC.out (o := 1) (v := .bool false) rfl
      have d2 := blk_cell KC.out (o := 2) (v := .int .u8 (1 + r)) rfl
      go_wp2_with fail
      refine (OC.out _).mono ?_
      rintro e w2 ⟨rfl, bb⟩
      clear a0 a1 b0 b1 d0 d1 d2
      have K2 := Lib.hid (cm_call K1.out bb)
      have KC2 := Lib.hid (blk_kept KC.out bb)
      clear bb K1 KC
      have KX := Lib.hid (blk_alloc w2 (shA ⟨n.m, 1 + r, n.t, 3⟩) 30)
      have K3 := Lib.hid (cm_call K2.out (allocs w2 (.cells (shA ⟨n.m, 1 + r, n.t, 3⟩) 30)))
      have KC3 := Lib.hid (blk_kept KC2.out (allocs w2 (.cells (shA ⟨n.m, 1 + r, n.t, 3⟩) 30)))
      clear K2 KC2
      go_upto_region 3 with (fail)
      generalize World.alloc w2 _ = W3 at *
      generalize w2.heap.size = gx at *
      have a0 := blk_cell K3.out.hs (o := 0) (v := .int .u8 s.m) rfl
      have b0 := blk_cell K3.out.hn (o := 0) (v := .int .u8 n.m) rfl
      have b1 := blk_cell K3.out.hn (o := 1) (v := .bool n.t) rfl
      have d0 := blk_cell KC3.out (o := 0) (v := .int .u8 (1 + r)) rfl
      have e0 := blk_cell KX.out (o := 0) (v := .int .u8 n.m) rfl
      have e1 := blk_cell KX.out (o := 1) (v := .int .u8 (1 + r)) rfl
      have e2 := blk_cell KX.out (o := 2) (v := .bool n.t) rfl
      have e3 := blk_cell KX.out (o := 3) (v := .int .u8 3) rfl
      go_wp2_with (first
        | ((with_reducible refine (RA.out _).mono ?_); rintro e w4 ⟨rfl, rfl⟩)
        | ((with_reducible refine (lives _).mono ?_); rintro e w4 ⟨rfl, bb⟩; replace K3 := Lib.hid (cm_call K3.out bb); clear bb))
      go_ret
      exact ⟨rfl, K3.out.below⟩

end Go.Proofs.Ytkcibgknbjlnkaa.Wr
