/- SideBack: a command is not of the sign of what it steers by, no further than 20, 500 from 0; of the other side it is the other way round. Conditions: the number and the command ahead are int64 numbers. -/
import Derived.Test.YtcoogkhhicbkeaaSideLives
namespace Go.Proofs.Ytcoogkhhicbkeaa.Sd
open Go.ChangeShapes Go.WideShapes Go.ChangeAt Go.RowKit Num Mem Band
attribute [local go_sem ↓] ldV_eq

/-- What the law says of a command c of a number n, no further than b from 0. -/
def Bk (n c b : Int) : Prop := -b ≤ c ∧ c ≤ b ∧ (0 < n → c ≤ 0) ∧ (n < 0 → 0 ≤ c)
theorem bk_stp {n g m b : Int} (hg : 4 ≤ g) (hm : 0 ≤ m) (hb : m ≤ b) : Bk n (stp n g m) b ∧ stp (-n) g m = -(stp n g m) := by
  have := stp_back (n := n) hg hm
  exact ⟨⟨by omega, by omega, this.2.2.1, this.2.2.2.1⟩, this.2.2.2.2⟩
theorem bk_zero {n b : Int} (hb : 0 ≤ b) : Bk n 0 b := ⟨by omega, by omega, fun _ => by omega, fun _ => by omega⟩
theorem sid_back (m n : Int) (H : Vt) (p : Int) : Bk n (sidW m ⟨true, n, 3⟩ H p) 20 ∧ sidW m ⟨true, -n, 3⟩ H p = -(sidW m ⟨true, n, 3⟩ H p) := by
  by_cases h5 : m = 5
  · subst h5
    rw [sid_five, sid_five, ag_yes _ _ _ rfl, ag_yes _ _ _ rfl]
    exact bk_stp (by decide) (by decide) (by decide)
  by_cases hm : 2 ≤ m ∧ m ≤ 4
  · rw [sid_mid _ _ _ hm, sid_mid _ _ _ hm, ag_yes _ _ _ rfl, ag_yes _ _ _ rfl]
    exact bk_stp (gn_bd H).1 (by decide) (by decide)
  · rw [sid_none _ _ _ (by omega), sid_none _ _ _ (by omega)]
    exact ⟨bk_zero (by decide), rfl⟩
theorem trn_back (m n : Int) (p : Int) : Bk n (trnW m ⟨true, n, 3⟩ p) 500 ∧ trnW m ⟨true, -n, 3⟩ p = -(trnW m ⟨true, n, 3⟩ p) := by
  by_cases hm : m = 4 ∨ m = 5
  · rw [trn_yes _ _ hm, trn_yes _ _ hm, ag_yes _ _ _ rfl, ag_yes _ _ _ rfl]
    exact bk_stp (by decide) (by decide) (by decide)
  · rw [trn_none _ _ (by omega), trn_none _ _ (by omega)]
    exact ⟨bk_zero (by decide), rfl⟩

set_option maxRecDepth 100000 in
set_option maxHeartbeats 16000000 in
theorem backLaw (m n : Int) (H : Vt) (p : Int) (hn : In n) (hp : In p) (w : World) :
    Calls Try.prog 4 #[.int .u8 m, .int .i64 n, .agg (vtA H), .int .i64 p] w fun e w' => e = .returned (.bool true) ∧ Below w.heap.size w w' := by
  have K0 := Lib.hid (bx_box w H)
  have SC := Lib.hid (fun W => sideC m ⟨true, n, 3⟩ H p hn hp W)
  have TC := Lib.hid (fun W => turnC m ⟨true, n, 3⟩ p hn hp W)
  have SN : Hid (n ≠ -9223372036854775808 → ∀ W, Calls Try.prog 8 #[.int .u8 m, .agg (vtA ⟨true, -n, 3⟩), .agg (vtA H), .int .i64 p] W fun e w' => e = .returned (.int .i64 (-(sidW m ⟨true, n, 3⟩ H p))) ∧ Below W.heap.size W w') := fun h W => by
    rw [← (sid_back m n H p).2]; exact sideC m ⟨true, -n, 3⟩ H p (show In (-n) from ⟨by have := hn.2; omega, by have := hn.1; omega⟩) hp W
  have TN : Hid (n ≠ -9223372036854775808 → ∀ W, Calls Try.prog 10 #[.int .u8 m, .agg (vtA ⟨true, -n, 3⟩), .int .i64 p] W fun e w' => e = .returned (.int .i64 (-(trnW m ⟨true, n, 3⟩ p))) ∧ Below W.heap.size W w') := fun h W => by
    rw [← (trn_back m n p).2]; exact turnC m ⟨true, -n, 3⟩ p (show In (-n) from ⟨by have := hn.2; omega, by have := hn.1; omega⟩) hp W
  have BS := Lib.hid (sid_back m n H p).1
  have BT := Lib.hid (trn_back m n p).1
  generalize sidW m ⟨true, n, 3⟩ H p = c at *
  generalize trnW m ⟨true, n, 3⟩ p = t at *
  have HN := Lib.hid hn
  clear hn hp
  go_enter Try.func4, Try.ntmps4
  go_upto_region 1 with (fail)
  generalize World.alloc w _ = W at *
  have TA := Lib.hid (bx_drew K0.out)
  clear K0
  go_region_held3 (fun w' => (ldV (.pointer (some ⟨w.heap.size, 0, none⟩))).run Try.prog w' = .ok (.agg (vtA H)) w')
    (first
      | (with_reducible assumption)
      | exact ldV_blk TA.out.hb)
    (first
    | ((with_reducible refine (atC n _).mono ?_); rintro e u ⟨rfl, bb⟩; replace TA := Lib.hid (bx_call TA.out bb); clear bb)
    | ((with_reducible refine (SC.out _).mono ?_); rintro e u ⟨rfl, bb⟩; replace TA := Lib.hid (bx_call TA.out bb); clear bb))
  all_goals
    go_wp2_with fail
    refine (atC n _).mono ?_
    rintro e w1 ⟨rfl, bb⟩
    replace TA := Lib.hid (bx_call TA.out bb)
    clear bb
    go_wp2_with fail
    refine (TC.out _).mono ?_
    rintro e w2 ⟨rfl, bb⟩
    replace TA := Lib.hid (bx_call TA.out bb)
    clear bb
    go_upto_region 3 with (fail)
    go_cut [67] from 11 to 95 (fun q wx => q = .bool false ∧ wx = w2)
    case first =>
      obtain ⟨c0, c1, c2, c3⟩ := BS.out
      obtain ⟨t0, t1, t2, t3⟩ := BT.out
      clear SC TC SN TN BS BT
      rcases Int.lt_trichotomy n 0 with hs | hs | hs
      · replace c3 := c3 hs
        replace t3 := t3 hs
        clear c2 t2
        go_wp2_with fail
        all_goals
          go_meet
          exact ⟨by simp; omega, rfl⟩
      · subst hs
        clear c2 t2 c3 t3
        go_wp2_with fail
        all_goals
          go_meet
          exact ⟨by simp; omega, rfl⟩
      · replace c2 := c2 hs
        replace t2 := t2 hs
        clear c3 t3
        go_wp2_with fail
        all_goals
          go_meet
          exact ⟨by simp; omega, rfl⟩
    case rest =>
      obtain ⟨rfl, rfl⟩ := hcut
      obtain ⟨c0, c1, _, _⟩ := BS.out
      obtain ⟨t0, t1, _, _⟩ := BT.out
      clear SC TC BS BT
      by_cases hx : n = -9223372036854775808
      · subst hx
        clear SN TN HN
        go_upto_region 5 with (fail)
        have TB := Lib.hid (bx_drew TA.out)
        clear TA
        refine wp_region_held_drew (S := fun w' => True) (by kernel_rfl) (trivial) (fun hHeld => ?_)
        refine wpAnyH_take (i := 0) (oi := { dst := some 68, op := Op.move (Operand.tmp 1), type := 2, pos := "law.go:30", after := #[], guard := none }) (v := .int .i64 (-9223372036854775808)) rfl (by kernel_rfl) (by kernel_rfl) (by kernel_rfl) (fun _ _ _ h => h) (Or.inl ⟨by rfl, ?_⟩) (by assumption) ?_
        · intro w hSw
          (try dsimp only at hSw)
          go_simp
        try simp only [Act.put, List.setIfInBounds_toArray, List.set_cons_zero, List.set_cons_succ]
        refine wpAnyH_take (i := 1) (oi := { dst := some 69, op := Op.binOp BinOp.eql 2 (Operand.tmp 68) (Operand.const (Value.int IntKind.i64 (-9223372036854775808))) 2, type := 4, pos := "law.go:30", after := #[{ on := 0, ground := Ground.data }], guard := none }) (v := .bool true) rfl (by kernel_rfl) (by kernel_rfl) (by kernel_rfl) (fun _ _ _ h => h) (Or.inl ⟨by rfl, ?_⟩) (by assumption) ?_
        · intro w hSw
          (try dsimp only at hSw)
          go_simp
        try simp only [Act.put, List.setIfInBounds_toArray, List.set_cons_zero, List.set_cons_succ]
        refine wpAnyH_take (i := 2) (oi := { dst := some 70, op := Op.move (Operand.tmp 69), type := 4, pos := "law.go:30", after := #[{ on := 1, ground := Ground.data }], guard := none }) (v := .bool true) rfl (by kernel_rfl) (by kernel_rfl) (by kernel_rfl) (fun _ _ _ h => h) (Or.inl ⟨by rfl, ?_⟩) (by assumption) ?_
        · intro w hSw
          (try dsimp only at hSw)
          go_simp
        try simp only [Act.put, List.setIfInBounds_toArray, List.set_cons_zero, List.set_cons_succ]
        refine wpAnyH_take (i := 3) (oi := { dst := some 71, op := Op.move (Operand.tmp 0), type := 5, pos := "law.go:30", after := #[{ on := 2, ground := Ground.guard }], guard := some (2, false) }) (v := undef) rfl (by kernel_rfl) (by kernel_rfl) (by kernel_rfl) (fun _ _ _ h => h) (Or.inr ⟨by rfl, rfl⟩) (by assumption) ?_
        try simp only [Act.put, List.setIfInBounds_toArray, List.set_cons_zero, List.set_cons_succ]
        refine wpAnyH_take (i := 4) (oi := { dst := some 72, op := Op.move (Operand.tmp 1), type := 2, pos := "law.go:30", after := #[{ on := 2, ground := Ground.guard }], guard := some (2, false) }) (v := undef) rfl (by kernel_rfl) (by kernel_rfl) (by kernel_rfl) (fun _ _ _ h => h) (Or.inr ⟨by rfl, rfl⟩) (by assumption) ?_
        try simp only [Act.put, List.setIfInBounds_toArray, List.set_cons_zero, List.set_cons_succ]
        refine wpAnyH_take (i := 5) (oi := { dst := some 73, op := Op.unOp UnOp.neg 2 (Operand.tmp 72), type := 2, pos := "law.go:30", after := #[{ on := 4, ground := Ground.data }, { on := 2, ground := Ground.guard }], guard := some (2, false) }) (v := undef) rfl (by kernel_rfl) (by kernel_rfl) (by kernel_rfl) (fun _ _ _ h => h) (Or.inr ⟨by rfl, rfl⟩) (by assumption) ?_
        try simp only [Act.put, List.setIfInBounds_toArray, List.set_cons_zero, List.set_cons_succ]
        refine wpAnyH_take (i := 7) (oi := { dst := some 75, op := Op.load 23 (Operand.tmp 6), type := 23, pos := "law.go:30", after := #[{ on := 2, ground := Ground.guard }], guard := some (2, false) }) (v := undef) rfl (by kernel_rfl) (by kernel_rfl) (by kernel_rfl) (fun _ _ _ h => h) (Or.inr ⟨by rfl, rfl⟩) (by assumption) ?_
        try simp only [Act.put, List.setIfInBounds_toArray, List.set_cons_zero, List.set_cons_succ]
        refine wpAnyH_take (i := 8) (oi := { dst := some 76, op := Op.move (Operand.tmp 3), type := 2, pos := "law.go:30", after := #[{ on := 2, ground := Ground.guard }], guard := some (2, false) }) (v := undef) rfl (by kernel_rfl) (by kernel_rfl) (by kernel_rfl) (fun _ _ _ h => h) (Or.inr ⟨by rfl, rfl⟩) (by assumption) ?_
        try simp only [Act.put, List.setIfInBounds_toArray, List.set_cons_zero, List.set_cons_succ]
        refine wpAnyH_take (i := 10) (oi := { dst := some 78, op := Op.move (Operand.tmp 9), type := 2, pos := "law.go:30", after := #[{ on := 2, ground := Ground.guard }], guard := some (2, false) }) (v := undef) rfl (by kernel_rfl) (by kernel_rfl) (by kernel_rfl) (fun _ _ _ h => h) (Or.inr ⟨by rfl, rfl⟩) (by assumption) ?_
        try simp only [Act.put, List.setIfInBounds_toArray, List.set_cons_zero, List.set_cons_succ]
        refine wpAnyH_take (i := 11) (oi := { dst := some 79, op := Op.unOp UnOp.neg 2 (Operand.tmp 78), type := 2, pos := "law.go:30", after := #[{ on := 10, ground := Ground.data }, { on := 2, ground := Ground.guard }], guard := some (2, false) }) (v := undef) rfl (by kernel_rfl) (by kernel_rfl) (by kernel_rfl) (fun _ _ _ h => h) (Or.inr ⟨by rfl, rfl⟩) (by assumption) ?_
        try simp only [Act.put, List.setIfInBounds_toArray, List.set_cons_zero, List.set_cons_succ]
        refine wpAnyH_ready (rs := [6]) (by kernel_rfl) (by simp) ?_
        refine AllReadyH.cons (o := { dst := some 74, op := Op.call { callee := Callee.value (Operand.func 13), args := #[Operand.tmp 73], argTypes := #[2] }, type := 23, pos := "law.go:30", after := #[{ on := 5, ground := Ground.data }, { on := 2, ground := Ground.chain }, { on := 2, ground := Ground.guard }], guard := some (2, false) }) rfl (fun K hK => ?_) AllReadyH.nil
        rw [if_neg (by simp [Region.wanted, yielded, undef])]
        refine hK.out _ _ (trivial) (fun hHeld0 => ?_)
        clear hK K
        try simp only [Act.put, List.setIfInBounds_toArray, List.set_cons_zero, List.set_cons_succ]
        refine wpAnyH_ready (rs := [9]) (by kernel_rfl) (by simp) ?_
        refine AllReadyH.cons (o := { dst := some 77, op := Op.call { callee := Callee.value (Operand.func 8), args := #[Operand.tmp 71, Operand.tmp 74, Operand.tmp 75, Operand.tmp 76], argTypes := #[5, 23, 23, 2] }, type := 2, pos := "law.go:30", after := #[{ on := 3, ground := Ground.data }, { on := 6, ground := Ground.data }, { on := 7, ground := Ground.data }, { on := 8, ground := Ground.data }, { on := 6, ground := Ground.chain }, { on := 2, ground := Ground.guard }], guard := some (2, false) }) rfl (fun K hK => ?_) AllReadyH.nil
        rw [if_neg (by simp [Region.wanted, yielded, undef])]
        refine hK.out _ _ (trivial) (fun hHeld1 => ?_)
        clear hK K
        try simp only [Act.put, List.setIfInBounds_toArray, List.set_cons_zero, List.set_cons_succ]
        refine wpAnyH_take (i := 12) (oi := { dst := some 80, op := Op.binOp BinOp.eql 2 (Operand.tmp 77) (Operand.tmp 79) 2, type := 4, pos := "law.go:30", after := #[{ on := 9, ground := Ground.data }, { on := 11, ground := Ground.data }, { on := 2, ground := Ground.guard }], guard := some (2, false) }) (v := undef) rfl (by kernel_rfl) (by kernel_rfl) (by kernel_rfl) (fun _ _ _ h => h) (Or.inr ⟨by rfl, rfl⟩) (by assumption) ?_
        try simp only [Act.put, List.setIfInBounds_toArray, List.set_cons_zero, List.set_cons_succ]
        refine wpAnyH_take (i := 13) (oi := { dst := some 81, op := Op.move (Operand.tmp 80), type := 4, pos := "law.go:30", after := #[{ on := 12, ground := Ground.data }, { on := 9, ground := Ground.chain }, { on := 2, ground := Ground.guard }], guard := some (2, false) }) (v := undef) rfl (by kernel_rfl) (by kernel_rfl) (by kernel_rfl) (fun _ _ _ h => h) (Or.inr ⟨by rfl, rfl⟩) (by assumption) ?_
        try simp only [Act.put, List.setIfInBounds_toArray, List.set_cons_zero, List.set_cons_succ]
        refine wpAnyH_take (i := 14) (oi := { dst := some 82, op := Op.move (Operand.tmp 0), type := 5, pos := "law.go:30", after := #[{ on := 13, ground := Ground.guard }], guard := some (13, true) }) (v := undef) rfl (by kernel_rfl) (by kernel_rfl) (by kernel_rfl) (fun _ _ _ h => h) (Or.inr ⟨by rfl, rfl⟩) (by assumption) ?_
        try simp only [Act.put, List.setIfInBounds_toArray, List.set_cons_zero, List.set_cons_succ]
        refine wpAnyH_take (i := 15) (oi := { dst := some 83, op := Op.move (Operand.tmp 1), type := 2, pos := "law.go:30", after := #[{ on := 13, ground := Ground.guard }], guard := some (13, true) }) (v := undef) rfl (by kernel_rfl) (by kernel_rfl) (by kernel_rfl) (fun _ _ _ h => h) (Or.inr ⟨by rfl, rfl⟩) (by assumption) ?_
        try simp only [Act.put, List.setIfInBounds_toArray, List.set_cons_zero, List.set_cons_succ]
        refine wpAnyH_take (i := 16) (oi := { dst := some 84, op := Op.unOp UnOp.neg 2 (Operand.tmp 83), type := 2, pos := "law.go:30", after := #[{ on := 15, ground := Ground.data }, { on := 13, ground := Ground.guard }], guard := some (13, true) }) (v := undef) rfl (by kernel_rfl) (by kernel_rfl) (by kernel_rfl) (fun _ _ _ h => h) (Or.inr ⟨by rfl, rfl⟩) (by assumption) ?_
        try simp only [Act.put, List.setIfInBounds_toArray, List.set_cons_zero, List.set_cons_succ]
        refine wpAnyH_take (i := 18) (oi := { dst := some 86, op := Op.move (Operand.tmp 3), type := 2, pos := "law.go:30", after := #[{ on := 13, ground := Ground.guard }], guard := some (13, true) }) (v := undef) rfl (by kernel_rfl) (by kernel_rfl) (by kernel_rfl) (fun _ _ _ h => h) (Or.inr ⟨by rfl, rfl⟩) (by assumption) ?_
        try simp only [Act.put, List.setIfInBounds_toArray, List.set_cons_zero, List.set_cons_succ]
        refine wpAnyH_take (i := 20) (oi := { dst := some 88, op := Op.move (Operand.tmp 10), type := 2, pos := "law.go:30", after := #[{ on := 13, ground := Ground.guard }], guard := some (13, true) }) (v := undef) rfl (by kernel_rfl) (by kernel_rfl) (by kernel_rfl) (fun _ _ _ h => h) (Or.inr ⟨by rfl, rfl⟩) (by assumption) ?_
        try simp only [Act.put, List.setIfInBounds_toArray, List.set_cons_zero, List.set_cons_succ]
        refine wpAnyH_take (i := 21) (oi := { dst := some 89, op := Op.unOp UnOp.neg 2 (Operand.tmp 88), type := 2, pos := "law.go:30", after := #[{ on := 20, ground := Ground.data }, { on := 13, ground := Ground.guard }], guard := some (13, true) }) (v := undef) rfl (by kernel_rfl) (by kernel_rfl) (by kernel_rfl) (fun _ _ _ h => h) (Or.inr ⟨by rfl, rfl⟩) (by assumption) ?_
        try simp only [Act.put, List.setIfInBounds_toArray, List.set_cons_zero, List.set_cons_succ]
        refine wpAnyH_ready (rs := [17]) (by kernel_rfl) (by simp) ?_
        refine AllReadyH.cons (o := { dst := some 85, op := Op.call { callee := Callee.value (Operand.func 13), args := #[Operand.tmp 84], argTypes := #[2] }, type := 23, pos := "law.go:30", after := #[{ on := 16, ground := Ground.data }, { on := 13, ground := Ground.chain }, { on := 13, ground := Ground.guard }], guard := some (13, true) }) rfl (fun K hK => ?_) AllReadyH.nil
        rw [if_neg (by simp [Region.wanted, yielded, undef])]
        refine hK.out _ _ (trivial) (fun hHeld2 => ?_)
        clear hK K
        try simp only [Act.put, List.setIfInBounds_toArray, List.set_cons_zero, List.set_cons_succ]
        refine wpAnyH_ready (rs := [19]) (by kernel_rfl) (by simp) ?_
        refine AllReadyH.cons (o := { dst := some 87, op := Op.call { callee := Callee.value (Operand.func 10), args := #[Operand.tmp 82, Operand.tmp 85, Operand.tmp 86], argTypes := #[5, 23, 2] }, type := 2, pos := "law.go:30", after := #[{ on := 14, ground := Ground.data }, { on := 17, ground := Ground.data }, { on := 18, ground := Ground.data }, { on := 17, ground := Ground.chain }, { on := 13, ground := Ground.guard }], guard := some (13, true) }) rfl (fun K hK => ?_) AllReadyH.nil
        rw [if_neg (by simp [Region.wanted, yielded, undef])]
        refine hK.out _ _ (trivial) (fun hHeld3 => ?_)
        clear hK K
        try simp only [Act.put, List.setIfInBounds_toArray, List.set_cons_zero, List.set_cons_succ]
        refine wpAnyH_take (i := 22) (oi := { dst := some 90, op := Op.binOp BinOp.eql 2 (Operand.tmp 87) (Operand.tmp 89) 2, type := 4, pos := "law.go:30", after := #[{ on := 19, ground := Ground.data }, { on := 21, ground := Ground.data }, { on := 13, ground := Ground.guard }], guard := some (13, true) }) (v := undef) rfl (by kernel_rfl) (by kernel_rfl) (by kernel_rfl) (fun _ _ _ h => h) (Or.inr ⟨by rfl, rfl⟩) (by assumption) ?_
        try simp only [Act.put, List.setIfInBounds_toArray, List.set_cons_zero, List.set_cons_succ]
        refine wpAnyH_take (i := 23) (oi := { dst := some 91, op := Op.pick (Operand.tmp 81) (Operand.tmp 90) (Operand.const (Value.bool false)), type := 4, pos := "law.go:30", after := #[{ on := 13, ground := Ground.data }, { on := 22, ground := Ground.data }, { on := 2, ground := Ground.guard }], guard := some (2, false) }) (v := undef) rfl (by kernel_rfl) (by kernel_rfl) (by kernel_rfl) (fun _ _ _ h => h) (Or.inr ⟨by rfl, rfl⟩) (by assumption) ?_
        try simp only [Act.put, List.setIfInBounds_toArray, List.set_cons_zero, List.set_cons_succ]
        refine wpAnyH_take (i := 24) (oi := { dst := some 92, op := Op.pick (Operand.tmp 70) (Operand.const (Value.bool true)) (Operand.tmp 91), type := 4, pos := "law.go:30", after := #[{ on := 2, ground := Ground.data }, { on := 23, ground := Ground.data }], guard := none }) (v := .bool true) rfl (by kernel_rfl) (by kernel_rfl) (by kernel_rfl) (fun _ _ _ h => h) (Or.inl ⟨by rfl, ?_⟩) (by assumption) ?_
        · intro w hSw
          (try dsimp only at hSw)
          go_simp
        try simp only [Act.put, List.setIfInBounds_toArray, List.set_cons_zero, List.set_cons_succ]
        refine wpAnyH_take (i := 25) (oi := { dst := some 93, op := Op.move (Operand.tmp 92), type := 4, pos := "law.go:30", after := #[{ on := 24, ground := Ground.data }, { on := 19, ground := Ground.chain }], guard := none }) (v := .bool true) rfl (by kernel_rfl) (by kernel_rfl) (by kernel_rfl) (fun _ _ _ h => h) (Or.inl ⟨by rfl, ?_⟩) (by assumption) ?_
        · intro w hSw
          (try dsimp only at hSw)
          go_simp
        try simp only [Act.put, List.setIfInBounds_toArray, List.set_cons_zero, List.set_cons_succ]
        refine wpAnyH_ready (rs := [26]) (by kernel_rfl) (by simp) ?_
        refine AllReadyH.cons (o := { dst := some 94, op := Op.call { callee := Callee.value (Operand.func 12), args := #[], argTypes := #[] }, type := 4, pos := "law.go:30", after := #[{ on := 25, ground := Ground.chain }, { on := 25, ground := Ground.guard }], guard := some (25, true) }) rfl (fun K hK => ?_) AllReadyH.nil
        go_simp
        refine (lives _).mono ?_
        rintro e u ⟨rfl, bb⟩
        replace TB := Lib.hid (bx_call TB.out bb)
        clear bb
        refine hK.out _ _ (trivial) (fun hHeld4 => ?_)
        clear hK K
        try simp only [Act.put, List.setIfInBounds_toArray, List.set_cons_zero, List.set_cons_succ]
        refine wpAnyH_take (i := 27) (oi := { dst := some 95, op := Op.pick (Operand.tmp 93) (Operand.tmp 94) (Operand.const (Value.bool false)), type := 4, pos := "law.go:30", after := #[{ on := 25, ground := Ground.data }, { on := 26, ground := Ground.data }], guard := none }) (v := .bool true) rfl (by kernel_rfl) (by kernel_rfl) (by kernel_rfl) (fun _ _ _ h => h) (Or.inl ⟨by rfl, ?_⟩) (by assumption) ?_
        · intro w hSw
          (try dsimp only at hSw)
          go_simp
        try simp only [Act.put, List.setIfInBounds_toArray, List.set_cons_zero, List.set_cons_succ]
        refine wpAnyH_take (i := 28) (oi := { dst := some 8, op := Op.assign (Operand.tmp 95), type := 4, pos := "law.go:30", after := #[{ on := 27, ground := Ground.data }, { on := 26, ground := Ground.chain }, { on := 0, ground := Ground.phase }, { on := 1, ground := Ground.phase }, { on := 2, ground := Ground.phase }, { on := 3, ground := Ground.phase }, { on := 4, ground := Ground.phase }, { on := 5, ground := Ground.phase }, { on := 6, ground := Ground.phase }, { on := 7, ground := Ground.phase }, { on := 8, ground := Ground.phase }, { on := 9, ground := Ground.phase }, { on := 10, ground := Ground.phase }, { on := 11, ground := Ground.phase }, { on := 12, ground := Ground.phase }, { on := 13, ground := Ground.phase }, { on := 14, ground := Ground.phase }, { on := 15, ground := Ground.phase }, { on := 16, ground := Ground.phase }, { on := 17, ground := Ground.phase }, { on := 18, ground := Ground.phase }, { on := 19, ground := Ground.phase }, { on := 20, ground := Ground.phase }, { on := 21, ground := Ground.phase }, { on := 22, ground := Ground.phase }, { on := 23, ground := Ground.phase }, { on := 24, ground := Ground.phase }, { on := 25, ground := Ground.phase }, { on := 26, ground := Ground.phase }, { on := 27, ground := Ground.phase }], guard := none }) (v := .bool true) rfl (by kernel_rfl) (by kernel_rfl) (by kernel_rfl) (fun _ _ _ h => h) (Or.inl ⟨by rfl, ?_⟩) (by assumption) ?_
        · intro w hSw
          (try dsimp only at hSw)
          go_simp
        try simp only [Act.put, List.setIfInBounds_toArray, List.set_cons_zero, List.set_cons_succ]
        refine wpAnyH_done (by kernel_rfl) ?_ _
        go_wp2
        go_ret
        exact ⟨rfl, TB.out.below⟩
      · have SM := Lib.hid (SN.out hx)
        have TM := Lib.hid (TN.out hx)
        clear SN TN
        have n0 := HN.out.1
        have n1 := HN.out.2
        have i0 : ((n : Int) == -9223372036854775808) = false := by simpa using hx
        have i1 : IntKind.i64.wrap (-n) = -n := IntWalk.i64_in _ (by omega)
        have i2 : IntKind.i64.wrap (-c) = -c := IntWalk.i64_in _ (by omega)
        have i3 : IntKind.i64.wrap (-t) = -t := IntWalk.i64_in _ (by omega)
        clear hx n0 n1 c0 c1 t0 t1
        go_upto_region 5 with (fail)
        have TB := Lib.hid (bx_drew TA.out)
        clear TA
        go_region_held3 (fun w' => (ldV (.pointer (some ⟨w.heap.size, 0, none⟩))).run Try.prog w' = .ok (.agg (vtA H)) w')
          (first
            | (with_reducible assumption)
            | exact ldV_blk TB.out.hb)
          (first
          | ((with_reducible refine (atC (-n) _).mono ?_); rintro e u ⟨rfl, bb⟩; replace TB := Lib.hid (bx_call TB.out bb); clear bb)
          | ((with_reducible refine (SM.out _).mono ?_); rintro e u ⟨rfl, bb⟩; replace TB := Lib.hid (bx_call TB.out bb); clear bb)
          | ((with_reducible refine (TM.out _).mono ?_); rintro e u ⟨rfl, bb⟩; replace TB := Lib.hid (bx_call TB.out bb); clear bb)
          | ((with_reducible refine (lives _).mono ?_); rintro e u ⟨rfl, bb⟩; replace TB := Lib.hid (bx_call TB.out bb); clear bb))
        all_goals
          go_wp2
          go_ret
          exact ⟨rfl, TB.out.below⟩

end Go.Proofs.Ytcoogkhhicbkeaa.Sd
