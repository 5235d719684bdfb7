/- Contracts of the document's own brought, May and Limit. Conditions: a command's numbers are int64 numbers. -/
import Derived.Test.YtgmgpefegmlnoaaDoorOutLim
import Derived.Test.YtgmgpefegmlnoaaDoorInv
namespace Go.Proofs.YtgmgpefegmlnoaaDoor.Out
open Go.ChangeShapes Go.WideShapes Go.ChangeAt Go.RowKit Num Mem Band

/-- A command handed in, another one made of it. -/
structure BrAt (w0 : World) (c r : Nat → Int) (w : World) : Prop where
  below : Below w0.heap.size w0 w
  hc : Blk w w0.heap.size (cA c) 26
  hr : Blk w (w0.heap.size + 1) (cA r) 26
theorem br_box (w : World) (c : Nat → Int) : BrAt w c zC ((w.alloc (.cells (cA c) 26)).alloc (.cells (cA zC) 26)) :=
  ⟨below_new (allocs w _) _, blk_kept (blk_alloc w _ _) (allocs _ _), blk_alloc2 w _ _ _⟩
theorem br_drew {w0 w : World} {c r : Nat → Int} (h : BrAt w0 c r w) : BrAt w0 c r w.drew := ⟨below_drewN h.below 1, h.hc, h.hr⟩
theorem br_set {w0 w : World} {c r : Nat → Int} (h : BrAt w0 c r w) (d : Nat → Int) : BrAt w0 c d (w.setRow (w0.heap.size + 1) (cA d)) :=
  ⟨below_row h.below (by omega) _, blk_row_far h.hc (by omega) _, blk_row h.hr _⟩
theorem br_s {w0 w : World} {c r : Nat → Int} (d : Nat → Int) (h : BrAt w0 c r w) : w.cell? ⟨w0.heap.size, 0, none⟩ = some (.int .i64 (c 0)) ∧ w.cell? ⟨w0.heap.size, 1, none⟩ = some (.int .i64 (c 1)) ∧ w.cell? ⟨w0.heap.size, 2, none⟩ = some (.int .i64 (c 2)) ∧ (stC (.pointer (some ⟨w0.heap.size + 1, 0, none⟩)) (.agg (cA d))).run Tryd.prog w = .ok () (w.setRow (w0.heap.size + 1) (cA d)) :=
  ⟨blk_cell h.hc rfl, blk_cell h.hc rfl, blk_cell h.hc rfl, stC_blk d h.hr⟩

section
attribute [local go_sem ↓] stC_eq
set_option maxRecDepth 100000 in
set_option maxHeartbeats 4000000 in
theorem rBroughtC (c : Nat → Int) (hc : InC c) (w : World) : Calls Tryd.prog 15 #[.agg (cA c)] w fun e w' => e = .returned (.agg (cA (br c))) ∧ Below w.heap.size w w' := by
  have K0 := Lib.hid (br_box w c)
  have C0 : Hid (∀ W, Calls Tryd.prog 26 #[.int .i64 (c 0), .int .i64 20] W fun e w' => e = .returned (.int .i64 (br c 0)) ∧ W = w') := Lib.hid fun W => by
    have h := rclamp (c 0) 20 W (hc 0 (by decide)) ⟨by decide, by decide⟩
    rw [clamp_wi (by decide)] at h
    exact h
  have C1 : Hid (∀ W, Calls Tryd.prog 27 #[.int .i64 (c 1), .int .i64 (-20), .int .i64 24] W fun e w' => e = .returned (.int .i64 (br c 1)) ∧ W = w') := Lib.hid fun W =>
    rwithin (c 1) (-20) 24 W (hc 1 (by decide)) ⟨by decide, by decide⟩ ⟨by decide, by decide⟩
  have C2 : Hid (∀ W, Calls Tryd.prog 26 #[.int .i64 (c 2), .int .i64 500] W fun e w' => e = .returned (.int .i64 (br c 2)) ∧ W = w') := Lib.hid fun W => by
    have h := rclamp (c 2) 500 W (hc 2 (by decide)) ⟨by decide, by decide⟩
    rw [clamp_wi (by decide)] at h
    exact h
  clear hc
  go_enter Tryd.func15, Tryd.ntmps15
  go_upto_region 1 with (fail)
  generalize World.alloc _ _ = W at *
  have TA := Lib.hid (br_drew K0.out)
  clear K0
  go_region_held3 (fun w' => w'.cell? ⟨w.heap.size, 0, none⟩ = some (.int .i64 (c 0)) ∧ w'.cell? ⟨w.heap.size, 1, none⟩ = some (.int .i64 (c 1)) ∧ w'.cell? ⟨w.heap.size, 2, none⟩ = some (.int .i64 (c 2)) ∧ (stC (.pointer (some ⟨w.heap.size + 1, 0, none⟩)) (.agg (cA (br c)))).run Tryd.prog w' = .ok () (w'.setRow (w.heap.size + 1) (cA (br c))))
    (first
      | (with_reducible assumption)
      | exact br_s (br c) TA.out
      | exact br_s (br c) (br_set TA.out (br c)))
    (first
    | ((with_reducible refine (C0.out _).mono ?_); rintro e u ⟨rfl, rfl⟩)
    | ((with_reducible refine (C1.out _).mono ?_); rintro e u ⟨rfl, rfl⟩)
    | ((with_reducible refine (C2.out _).mono ?_); rintro e u ⟨rfl, rfl⟩))
  all_goals
    have TB := Lib.hid (br_set TA.out (br c))
    go_wp2
    refine bodyPost_ret (v := .agg (cA (br c))) ?_ rfl ⟨rfl, TB.out.below⟩
    exact ret_c Tryd.results15 _ _ (w.heap.size + 1) (br c) rfl TB.out.hr
end

/-- '==' of two commands. -/
def eqB (c d : Nat → Int) : Bool := decide (c 0 = d 0 ∧ c 1 = d 1 ∧ c 2 = d 2)
set_option maxRecDepth 100000 in
theorem eq_cB (c d : Nat → Int) (w : World) : (Go.binOp .eql 26 (.agg (cA c)) (.agg (cA d))).run Tryd.prog w = .ok (.bool (eqB c d)) w := by
  by_cases h0 : c 0 = d 0
  · by_cases h1 : c 1 = d 1
    · by_cases h2 : c 2 = d 2
      · have e : cA d = cA c := by unfold cA; rw [h0, h1, h2]
        have q : eqB c d = true := decide_eq_true ⟨h0, h1, h2⟩
        rw [e, q]
        exact eq_c c w
      · have q : eqB c d = false := decide_eq_false (by intro x; exact h2 x.2.2)
        have t : (c 2 == d 2) = false := by simpa using h2
        rw [q]
        go_simp
    · have q : eqB c d = false := decide_eq_false (by intro x; exact h1 x.2.1)
      rw [q]
      go_simp
  · have q : eqB c d = false := decide_eq_false (by intro x; exact h0 x.1)
    rw [q]
    go_simp
theorem eq_br (c : Nat → Int) : eqB c (br c) = mayB c := by
  have h := may_same c
  unfold eqB
  cases hm : mayB c
  · exact decide_eq_false fun x => by rw [h.2 x] at hm; cases hm
  · exact decide_eq_true (h.1 hm)

section
attribute [local go_sem ↓] ldC_eq
set_option maxRecDepth 100000 in
set_option maxHeartbeats 4000000 in
theorem rMayC (c : Nat → Int) (hc : InC c) (w : World) : Calls Tryd.prog 6 #[.agg (cA c)] w fun e w' => e = .returned (.bool (mayB c)) ∧ Below w.heap.size w w' := by
  have K0 := Lib.hid (cm_box w c)
  have BC := Lib.hid (fun W => rBroughtC c hc W)
  have EQ : ∀ W, (Go.binOp .eql 26 (.agg (cA c)) (.agg (cA (br c)))).run Tryd.prog W = .ok (.bool (mayB c)) W := fun W => by rw [← eq_br]; exact eq_cB c (br c) W
  generalize mayB c = q at *
  generalize br c = d at *
  clear hc
  go_enter Tryd.func6, Tryd.ntmps6
  go_upto_region 1 with (fail)
  generalize World.alloc _ _ = W at *
  have TA := Lib.hid (cm_drew K0.out)
  clear K0
  go_region_held3 (fun w' => (ldC (.pointer (some ⟨w.heap.size, 0, none⟩))).run Tryd.prog w' = .ok (.agg (cA c)) w')
    (first
      | (with_reducible assumption)
      | exact ldC_blk TA.out.hc)
    (first
    | ((with_reducible refine (BC.out _).mono ?_); rintro e u ⟨rfl, bb⟩; replace TA := Lib.hid (cm_call TA.out bb); clear bb))
  all_goals
    go_wp2
    go_ret
    exact ⟨rfl, TA.out.below⟩

end

theorem lb_drew {w0 w : World} {A B R : Nat → Int} (h : LbAt w0 A B R w) : LbAt w0 A B R w.drew := ⟨below_drewN h.below 1, h.ha, h.hb, h.hr⟩
theorem lb_s {w0 w : World} {A B R : Nat → Int} (h : LbAt w0 A B R w) : (ldC (.pointer (some ⟨w0.heap.size, 0, none⟩))).run Tryd.prog w = .ok (.agg (cA A)) w ∧ (ldC (.pointer (some ⟨w0.heap.size + 1, 0, none⟩))).run Tryd.prog w = .ok (.agg (cA B)) w :=
  ⟨ldC_blk h.ha, ldC_blk h.hb⟩

/-- The first region of the document's Limit: its operations; what has come up; what may come up then. -/
abbrev rgOps : Array Oper := #[
  { dst := some 7, op := Op.load 26 (Operand.tmp 2), type := 26, pos := "ref.go:21", after := #[], guard := none },
  { dst := some 8, op := Op.call { callee := Callee.value (Operand.func 15), args := #[Operand.tmp 7], argTypes := #[26] }, type := 26, pos := "ref.go:21", after := #[{ on := 0, ground := Ground.data }], guard := none },
  { dst := some 9, op := Op.load 26 (Operand.tmp 3), type := 26, pos := "ref.go:21", after := #[], guard := none },
  { dst := some 10, op := Op.call { callee := Callee.value (Operand.func 15), args := #[Operand.tmp 9], argTypes := #[26] }, type := 26, pos := "ref.go:21", after := #[{ on := 2, ground := Ground.data }, { on := 1, ground := Ground.chain }], guard := none },
  { dst := some 5, op := Op.alloc 26, type := 0, pos := "ref.go:21", after := #[], guard := none },
  { dst := some 6, op := Op.alloc 26, type := 0, pos := "ref.go:21", after := #[], guard := none },
  { dst := none, op := Op.store 26 (Operand.tmp 5) (Operand.tmp 8), type := 0, pos := "ref.go:21", after := #[{ on := 4, ground := Ground.data }, { on := 1, ground := Ground.data }, { on := 3, ground := Ground.chain }, { on := 0, ground := Ground.phase }, { on := 1, ground := Ground.phase }, { on := 2, ground := Ground.textOnly Departure.lateStores }, { on := 3, ground := Ground.textOnly Departure.lateStoresUnsure }, { on := 4, ground := Ground.phase }, { on := 5, ground := Ground.phase }], guard := none },
  { dst := none, op := Op.store 26 (Operand.tmp 6) (Operand.tmp 10), type := 0, pos := "ref.go:21", after := #[{ on := 5, ground := Ground.data }, { on := 3, ground := Ground.data }, { on := 6, ground := Ground.chain }, { on := 0, ground := Ground.phase }, { on := 1, ground := Ground.phase }, { on := 2, ground := Ground.phase }, { on := 3, ground := Ground.phase }, { on := 4, ground := Ground.phase }, { on := 5, ground := Ground.phase }, { on := 6, ground := Ground.phase }], guard := none }]
abbrev rgL (c : Nat) (b5 b6 : Bool) : Array Bool := #[true, decide (1 ≤ c), true, decide (2 ≤ c), b5, b6, decide (3 ≤ c), decide (4 ≤ c)]
theorem rg_next : ∀ c : Fin 5, ∀ b5 b6 : Bool, ∀ i ∈ Region.ready .any rgOps (rgL c b5 b6), (i = 1 ∧ c.val = 0) ∨ (i = 3 ∧ c.val = 1) ∨ (i = 4 ∧ b5 = false) ∨ (i = 5 ∧ b6 = false) ∨ (i = 6 ∧ c.val = 2 ∧ b5 = true) ∨ (i = 7 ∧ c.val = 3 ∧ b6 = true) := by decide +kernel
theorem rg_end : ∀ c : Fin 5, ∀ b5 b6 : Bool, Region.ready .any rgOps (rgL c b5 b6) = [] → c.val = 4 ∧ b5 = true ∧ b6 = true := by decide +kernel
theorem rg_set (b5 b6 : Bool) : (rgL 0 b5 b6).setIfInBounds 1 true = rgL 1 b5 b6 ∧ (rgL 1 b5 b6).setIfInBounds 3 true = rgL 2 b5 b6 ∧ (rgL 2 b5 b6).setIfInBounds 6 true = rgL 3 b5 b6 ∧ (rgL 3 b5 b6).setIfInBounds 7 true = rgL 4 b5 b6 := ⟨rfl, rfl, rfl, rfl⟩
/-- What a slot holds, where it holds something. -/
def sl (b : Bool) (v : Value) : Value := if b then v else undef
def sc (c k : Nat) (v : Value) : Value := if k ≤ c then v else undef
def ptr (g : Nat) : Value := .pointer (some ⟨g, 0, none⟩)
def ca (c : Nat) (k : Nat) (d : Nat → Int) : Nat → Int := if k ≤ c then d else zC
/-- What lies in memory then: the two that are brought within, once they are there. -/
structure Rg (w0 : World) (A B : Nat → Int) (c : Nat) (b5 b6 : Bool) (g5 g6 : Nat) (w : World) : Prop where
  lb : LbAt w0 A B zC w
  h5 : b5 = true → Blk w g5 (cA (ca c 3 (br A))) 26 ∧ w0.heap.size + 1 + 1 < g5
  h6 : b6 = true → Blk w g6 (cA (ca c 4 (br B))) 26 ∧ w0.heap.size + 1 + 1 < g6
  ne : b5 = true → b6 = true → g5 ≠ g6
section
variable {w0 w w1 : World} {A B : Nat → Int} {c g5 g6 : Nat} {b5 b6 : Bool}
theorem rg_call (h : Rg w0 A B c b5 b6 g5 g6 w) (b : Below w.heap.size w w1) : Rg w0 A B c b5 b6 g5 g6 w1 :=
  ⟨lb_call h.lb b, fun x => ⟨blk_kept (h.h5 x).1 b, (h.h5 x).2⟩, fun x => ⟨blk_kept (h.h6 x).1 b, (h.h6 x).2⟩, h.ne⟩
theorem rg_as (d : Nat) (h : Rg w0 A B c b5 b6 g5 g6 w) (e5 : ca c 3 (br A) = ca d 3 (br A)) (e6 : ca c 4 (br B) = ca d 4 (br B)) : Rg w0 A B d b5 b6 g5 g6 w :=
  ⟨h.lb, fun x => by rw [← e5]; exact h.h5 x, fun x => by rw [← e6]; exact h.h6 x, h.ne⟩
theorem rg_five (h : Rg w0 A B c false b6 g5 g6 w) (hc : c ≤ 2) : Rg w0 A B c true b6 w.heap.size g6 (w.alloc (.cells (cA zC) 26)) := by
  have k := rg_call h (allocs w (.cells (cA zC) 26))
  have e : ca c 3 (br A) = zC := if_neg (by omega)
  exact ⟨k.lb, fun _ => ⟨by rw [e]; exact blk_alloc w _ _, lb_lt h.lb⟩, k.h6, fun _ x => Nat.ne_of_gt (blk_lt (h.h6 x).1)⟩
theorem rg_six (h : Rg w0 A B c b5 false g5 g6 w) (hc : c ≤ 3) : Rg w0 A B c b5 true g5 w.heap.size (w.alloc (.cells (cA zC) 26)) := by
  have k := rg_call h (allocs w (.cells (cA zC) 26))
  have e : ca c 4 (br B) = zC := if_neg (by omega)
  exact ⟨k.lb, k.h5, fun _ => ⟨by rw [e]; exact blk_alloc w _ _, lb_lt h.lb⟩, fun x _ => Nat.ne_of_lt (blk_lt (h.h5 x).1)⟩
theorem rg_put5 (h : Rg w0 A B 2 true b6 g5 g6 w) : Rg w0 A B 3 true b6 g5 g6 (w.setRow g5 (cA (br A))) := by
  obtain ⟨k, l⟩ := h.h5 rfl
  exact ⟨⟨below_row h.lb.below (by omega) _, blk_row_far h.lb.ha (by omega) _, blk_row_far h.lb.hb (by omega) _, blk_row_far h.lb.hr (by omega) _⟩, fun _ => ⟨blk_row k _, l⟩, fun x => ⟨blk_row_far (h.h6 x).1 (Ne.symm (h.ne rfl x)) _, (h.h6 x).2⟩, h.ne⟩
theorem rg_put6 (h : Rg w0 A B 3 b5 true g5 g6 w) : Rg w0 A B 4 b5 true g5 g6 (w.setRow g6 (cA (br B))) := by
  obtain ⟨k, l⟩ := h.h6 rfl
  exact ⟨⟨below_row h.lb.below (by omega) _, blk_row_far h.lb.ha (by omega) _, blk_row_far h.lb.hb (by omega) _, blk_row_far h.lb.hr (by omega) _⟩, fun x => ⟨blk_row_far (h.h5 x).1 (h.ne x rfl) _, (h.h5 x).2⟩, fun _ => ⟨blk_row k _, l⟩, h.ne⟩
end
/-- At its end: the two that are brought within, the result's own block. -/
structure EnAt (w0 : World) (A B R : Nat → Int) (g5 g6 : Nat) (w : World) : Prop where
  below : Below w0.heap.size w0 w
  h5 : Blk w g5 (cA (br A)) 26
  h6 : Blk w g6 (cA (br B)) 26
  hr : Blk w (w0.heap.size + 1 + 1) (cA R) 26
  n5 : w0.heap.size + 1 + 1 < g5
  n6 : w0.heap.size + 1 + 1 < g6
section
variable {w0 w : World} {A B R : Nat → Int} {g5 g6 : Nat}
theorem en_of (h : Rg w0 A B 4 true true g5 g6 w) : EnAt w0 A B zC g5 g6 w := ⟨h.lb.below, (h.h5 rfl).1, (h.h6 rfl).1, h.lb.hr, (h.h5 rfl).2, (h.h6 rfl).2⟩
theorem en_drew (h : EnAt w0 A B R g5 g6 w) : EnAt w0 A B R g5 g6 w.drew := ⟨below_drewN h.below 1, h.h5, h.h6, h.hr, h.n5, h.n6⟩
theorem en_set (h : EnAt w0 A B R g5 g6 w) : EnAt w0 A B (lim A B) g5 g6 (w.setRow (w0.heap.size + 1 + 1) (cA (lim A B))) :=
  ⟨below_row h.below (by omega) _, blk_row_far h.h5 (by have := h.n5; omega) _, blk_row_far h.h6 (by have := h.n6; omega) _, blk_row h.hr _, h.n5, h.n6⟩
theorem en_s (h : EnAt w0 A B R g5 g6 w) : w.cell? ⟨g5, 0, none⟩ = some (.int .i64 (br A 0)) ∧ w.cell? ⟨g5, 1, none⟩ = some (.int .i64 (br A 1)) ∧ w.cell? ⟨g5, 2, none⟩ = some (.int .i64 (br A 2)) ∧ w.cell? ⟨g6, 0, none⟩ = some (.int .i64 (br B 0)) ∧ w.cell? ⟨g6, 1, none⟩ = some (.int .i64 (br B 1)) ∧ w.cell? ⟨g6, 2, none⟩ = some (.int .i64 (br B 2)) ∧ (stC (.pointer (some ⟨w0.heap.size + 1 + 1, 0, none⟩)) (.agg (cA (lim A B)))).run Tryd.prog w = .ok () (w.setRow (w0.heap.size + 1 + 1) (cA (lim A B))) :=
  ⟨blk_cell h.h5 rfl, blk_cell h.h5 rfl, blk_cell h.h5 rfl, blk_cell h.h6 rfl, blk_cell h.h6 rfl, blk_cell h.h6 rfl, stC_blk _ h.hr⟩
end
/-- Between two operations. -/
def RgI (w0 : World) (A B : Nat → Int) (n : Nat) (l : Array Bool) (a : Act) (w : World) : Prop :=
  ∃ (c : Nat) (b5 b6 : Bool) (g5 g6 : Nat), c ≤ 4 ∧ (3 ≤ c → b5 = true) ∧ (4 ≤ c → b6 = true) ∧ l = rgL c b5 b6 ∧ n + c + b5.toNat + b6.toNat = 6 ∧
    a = { tmps := #[.agg (cA A), .agg (cA B), .pointer (some ⟨w0.heap.size, 0, none⟩), .pointer (some ⟨w0.heap.size + 1, 0, none⟩), .pointer (some ⟨w0.heap.size + 1 + 1, 0, none⟩), sl b5 (ptr g5), sl b6 (ptr g6), .agg (cA A), sc c 1 (.agg (cA (br A))), .agg (cA B), sc c 2 (.agg (cA (br B))), undef, undef, undef, undef, undef, undef, undef, undef, undef, undef, undef, undef, undef, undef, undef, undef], defers := [] } ∧ Rg w0 A B c b5 b6 g5 g6 w

section
attribute [local go_sem ↓] ldC_eq stC_eq
set_option maxRecDepth 100000 in
set_option maxHeartbeats 4000000 in
theorem rLimC (A B : Nat → Int) (hA : InC A) (hB : InC B) (w : World) : Calls Tryd.prog 8 #[.agg (cA A), .agg (cA B)] w fun e w' => e = .returned (.agg (cA (lim A B))) ∧ Below w.heap.size w w' := by
  have K0 := Lib.hid (lb_box w A B)
  have BA := Lib.hid (fun W => rBroughtC A hA W)
  have BB := Lib.hid (fun W => rBroughtC B hB W)
  have N0 : Hid (∀ W, Calls Tryd.prog 17 #[.int .i64 (br A 0), .int .i64 (br B 0), .int .i64 40] W fun e w' => e = .returned (.int .i64 (lim A B 0)) ∧ W = w') := Lib.hid fun W => rnear (br A 0) (br B 0) 40 W (wit_In 0 _) (wit_In 0 _) ⟨by decide, by decide⟩
  have N1 : Hid (∀ W, Calls Tryd.prog 17 #[.int .i64 (br A 1), .int .i64 (br B 1), .int .i64 14] W fun e w' => e = .returned (.int .i64 (lim A B 1)) ∧ W = w') := Lib.hid fun W => rnear (br A 1) (br B 1) 14 W (wit_In 1 _) (wit_In 1 _) ⟨by decide, by decide⟩
  have N2 : Hid (∀ W, Calls Tryd.prog 17 #[.int .i64 (br A 2), .int .i64 (br B 2), .int .i64 1000] W fun e w' => e = .returned (.int .i64 (lim A B 2)) ∧ W = w') := Lib.hid fun W => rnear (br A 2) (br B 2) 1000 W (wit_In 2 _) (wit_In 2 _) ⟨by decide, by decide⟩
  clear hA hB
  go_enter Tryd.func8, Tryd.ntmps8
  go_upto_region 1 with (fail)
  generalize World.alloc _ _ = W at *
  refine wp_region_held_drew (S := fun w' => (ldC (.pointer (some ⟨w.heap.size, 0, none⟩))).run Tryd.prog w' = .ok (.agg (cA A)) w' ∧ (ldC (.pointer (some ⟨w.heap.size + 1, 0, none⟩))).run Tryd.prog w' = .ok (.agg (cA B)) w') (by kernel_rfl) (lb_s (lb_drew K0.out)) (fun hHeld => ?_)
  refine wpAnyH_take (i := 0) (oi := { dst := some 7, op := Op.load 26 (Operand.tmp 2), type := 26, pos := "ref.go:21", after := #[], guard := none }) (v := .agg (cA A)) rfl (by kernel_rfl) (by kernel_rfl) (by kernel_rfl) (fun _ _ _ h => h) (Or.inl ⟨by rfl, ?_⟩) (by assumption) ?_
  · intro w hSw
    (try dsimp only at hSw)
    go_simp
  try simp only [Act.put, List.setIfInBounds_toArray, List.set_cons_zero, List.set_cons_succ]
  refine wpAnyH_take (i := 2) (oi := { dst := some 9, op := Op.load 26 (Operand.tmp 3), type := 26, pos := "ref.go:21", after := #[], guard := none }) (v := .agg (cA B)) rfl (by kernel_rfl) (by kernel_rfl) (by kernel_rfl) (fun _ _ _ h => h) (Or.inl ⟨by rfl, ?_⟩) (by assumption) ?_
  · intro w hSw
    (try dsimp only at hSw)
    go_simp
  try simp only [Act.put, List.setIfInBounds_toArray, List.set_cons_zero, List.set_cons_succ]
  refine Inv.any_inv_at (n' := 6) (l' := rgL 0 false false) (I := RgI w A B) (by kernel_rfl) (by kernel_rfl) ?_ ?_ ?_
  case refine_3 => exact ⟨0, false, false, 0, 0, by omega, by omega, by omega, rfl, rfl, rfl, lb_drew K0.out, (fun x => by cases x), (fun x => by cases x), (fun x => by cases x)⟩
  case refine_2 =>
    rintro n l a v ⟨c, b5, b6, g5, g6, hc, h3, h4, rfl, hn, rfl, R⟩ i hi
    have HR := Lib.hid R
    clear R
    have t5 := Bool.toNat_le b5
    have t6 := Bool.toNat_le b6
    rcases rg_next ⟨c, by omega⟩ b5 b6 i hi with ⟨rfl, e⟩ | ⟨rfl, e⟩ | ⟨rfl, rfl⟩ | ⟨rfl, rfl⟩ | ⟨rfl, e, rfl⟩ | ⟨rfl, e, rfl⟩
    · obtain rfl : c = 0 := e
      obtain ⟨m, rfl⟩ : ∃ m, n = m + 1 := ⟨n - 1, by omega⟩
      refine ⟨m, rfl, wpOp_step (o := { dst := some 8, op := Op.call { callee := Callee.value (Operand.func 15), args := #[Operand.tmp 7], argTypes := #[26] }, type := 26, pos := "ref.go:21", after := #[{ on := 0, ground := Ground.data }], guard := none }) rfl fun K' hK => ?_⟩
      have HK := Lib.hid hK
      clear hK
      go_simp
      refine (BA.out _).mono ?_
      rintro e u ⟨rfl, bb⟩
      have R1 := rg_as 1 (rg_call HR.out bb) rfl rfl
      exact HK.out _ _ ⟨lb_s R1.lb, 1, b5, b6, g5, g6, by omega, by omega, by omega, (rg_set b5 b6).1, by omega, rfl, R1⟩
    · obtain rfl : c = 1 := e
      obtain ⟨m, rfl⟩ : ∃ m, n = m + 1 := ⟨n - 1, by omega⟩
      refine ⟨m, rfl, wpOp_step (o := { dst := some 10, op := Op.call { callee := Callee.value (Operand.func 15), args := #[Operand.tmp 9], argTypes := #[26] }, type := 26, pos := "ref.go:21", after := #[{ on := 2, ground := Ground.data }, { on := 1, ground := Ground.chain }], guard := none }) rfl fun K' hK => ?_⟩
      have HK := Lib.hid hK
      clear hK
      go_simp
      refine (BB.out _).mono ?_
      rintro e u ⟨rfl, bb⟩
      have R1 := rg_as 2 (rg_call HR.out bb) rfl rfl
      exact HK.out _ _ ⟨lb_s R1.lb, 2, b5, b6, g5, g6, by omega, by omega, by omega, (rg_set b5 b6).2.1, by omega, rfl, R1⟩
    · have hc2 : c ≤ 2 := by
        rcases Nat.lt_or_ge c 3 with x | x
        · omega
        · cases h3 x
      have q : false.toNat = 0 := rfl
      obtain ⟨m, rfl⟩ : ∃ m, n = m + 1 := ⟨n - 1, by omega⟩
      clear q
      refine ⟨m, rfl, wpOp_step (o := { dst := some 5, op := Op.alloc 26, type := 0, pos := "ref.go:21", after := #[], guard := none }) rfl fun K' hK => ?_⟩
      have HK := Lib.hid hK
      clear hK
      go_simp
      have R1 := rg_five HR.out hc2
      exact HK.out _ _ ⟨lb_s R1.lb, c, true, b6, v.heap.size, g6, hc, (fun _ => rfl), h4, rfl, (by have q : false.toNat = 0 := rfl; have q' : true.toNat = 1 := rfl; omega), rfl, R1⟩
    · have hc3 : c ≤ 3 := by
        rcases Nat.lt_or_ge c 4 with x | x
        · omega
        · cases h4 x
      have q : false.toNat = 0 := rfl
      obtain ⟨m, rfl⟩ : ∃ m, n = m + 1 := ⟨n - 1, by omega⟩
      clear q
      refine ⟨m, rfl, wpOp_step (o := { dst := some 6, op := Op.alloc 26, type := 0, pos := "ref.go:21", after := #[], guard := none }) rfl fun K' hK => ?_⟩
      have HK := Lib.hid hK
      clear hK
      go_simp
      have R1 := rg_six HR.out hc3
      exact HK.out _ _ ⟨lb_s R1.lb, c, b5, true, g5, v.heap.size, hc, h3, (fun _ => rfl), rfl, (by have q : false.toNat = 0 := rfl; have q' : true.toNat = 1 := rfl; omega), rfl, R1⟩
    · obtain rfl : c = 2 := e
      have q : true.toNat = 1 := rfl
      obtain ⟨m, rfl⟩ : ∃ m, n = m + 1 := ⟨n - 1, by omega⟩
      clear q
      have s5 := stC_blk (br A) (HR.out.h5 rfl).1
      rw [show sl true (ptr g5) = .pointer (some ⟨g5, 0, none⟩) from rfl, show sc 2 1 (.agg (cA (br A))) = .agg (cA (br A)) from rfl]
      refine ⟨m, rfl, wpOp_step (o := { dst := none, op := Op.store 26 (Operand.tmp 5) (Operand.tmp 8), type := 0, pos := "ref.go:21", after := #[{ on := 4, ground := Ground.data }, { on := 1, ground := Ground.data }, { on := 3, ground := Ground.chain }, { on := 0, ground := Ground.phase }, { on := 1, ground := Ground.phase }, { on := 2, ground := Ground.textOnly Departure.lateStores }, { on := 3, ground := Ground.textOnly Departure.lateStoresUnsure }, { on := 4, ground := Ground.phase }, { on := 5, ground := Ground.phase }], guard := none }) rfl fun K' hK => ?_⟩
      have HK := Lib.hid hK
      clear hK
      go_simp
      have R1 := rg_put5 HR.out
      exact HK.out _ _ ⟨lb_s R1.lb, 3, true, b6, g5, g6, by omega, (fun _ => rfl), by omega, (rg_set true b6).2.2.1, (by have q : true.toNat = 1 := rfl; omega), rfl, R1⟩
    · obtain rfl : c = 3 := e
      obtain rfl : b5 = true := h3 (by omega)
      have q : true.toNat = 1 := rfl
      obtain ⟨m, rfl⟩ : ∃ m, n = m + 1 := ⟨n - 1, by omega⟩
      clear q
      have s6 := stC_blk (br B) (HR.out.h6 rfl).1
      rw [show sl true (ptr g6) = .pointer (some ⟨g6, 0, none⟩) from rfl, show sc 3 2 (.agg (cA (br B))) = .agg (cA (br B)) from rfl]
      refine ⟨m, rfl, wpOp_step (o := { dst := none, op := Op.store 26 (Operand.tmp 6) (Operand.tmp 10), type := 0, pos := "ref.go:21", after := #[{ on := 5, ground := Ground.data }, { on := 3, ground := Ground.data }, { on := 6, ground := Ground.chain }, { on := 0, ground := Ground.phase }, { on := 1, ground := Ground.phase }, { on := 2, ground := Ground.phase }, { on := 3, ground := Ground.phase }, { on := 4, ground := Ground.phase }, { on := 5, ground := Ground.phase }, { on := 6, ground := Ground.phase }], guard := none }) rfl fun K' hK => ?_⟩
      have HK := Lib.hid hK
      clear hK
      go_simp
      have R1 := rg_put6 HR.out
      exact HK.out _ _ ⟨lb_s R1.lb, 4, true, true, g5, g6, by omega, (fun _ => rfl), (fun _ => rfl), (rg_set true true).2.2.2, (by have q : true.toNat = 1 := rfl; omega), rfl, R1⟩
  case refine_1 =>
    rintro n l a v ⟨c, b5, b6, g5, g6, hc, h3, h4, rfl, hn, rfl, R⟩ he
    obtain ⟨e, rfl, rfl⟩ := rg_end ⟨c, by omega⟩ b5 b6 he
    obtain rfl : c = 4 := e
    have TA := Lib.hid (en_of R)
    clear R he hn h3 h4 hc K0
    rw [show sl true (ptr g5) = .pointer (some ⟨g5, 0, none⟩) from rfl, show sl true (ptr g6) = .pointer (some ⟨g6, 0, none⟩) from rfl, show sc 4 1 (.agg (cA (br A))) = .agg (cA (br A)) from rfl, show sc 4 2 (.agg (cA (br B))) = .agg (cA (br B)) from rfl]
    go_wp2_with fail
    replace TA := Lib.hid (en_drew TA.out)
    go_region_held3 (fun w' => w'.cell? ⟨g5, 0, none⟩ = some (.int .i64 (br A 0)) ∧ w'.cell? ⟨g5, 1, none⟩ = some (.int .i64 (br A 1)) ∧ w'.cell? ⟨g5, 2, none⟩ = some (.int .i64 (br A 2)) ∧ w'.cell? ⟨g6, 0, none⟩ = some (.int .i64 (br B 0)) ∧ w'.cell? ⟨g6, 1, none⟩ = some (.int .i64 (br B 1)) ∧ w'.cell? ⟨g6, 2, none⟩ = some (.int .i64 (br B 2)) ∧ (stC (.pointer (some ⟨w.heap.size + 1 + 1, 0, none⟩)) (.agg (cA (lim A B)))).run Tryd.prog w' = .ok () (w'.setRow (w.heap.size + 1 + 1) (cA (lim A B))))
      (first
        | (with_reducible assumption)
        | exact en_s TA.out
        | exact en_s (en_set TA.out))
      (first
      | ((with_reducible refine (N0.out _).mono ?_); rintro e u ⟨rfl, rfl⟩)
      | ((with_reducible refine (N1.out _).mono ?_); rintro e u ⟨rfl, rfl⟩)
      | ((with_reducible refine (N2.out _).mono ?_); rintro e u ⟨rfl, rfl⟩))
    all_goals
      have TB := Lib.hid (en_set TA.out)
      go_wp2
      refine bodyPost_ret (v := .agg (cA (lim A B))) ?_ rfl ⟨rfl, TB.out.below⟩
      exact ret_c Tryd.results8 _ _ (w.heap.size + 1 + 1) (lim A B) rfl TB.out.hr
end

end Go.Proofs.YtgmgpefegmlnoaaDoor.Out
