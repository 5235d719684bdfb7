/- The laws' at, gap and lives. Conditions: the table of bounds lies there. -/
import Derived.Test.YtgmgpefegmlnoaaDoorOutGdA
import Derived.Test.YtgmgpefegmlnoaaDoorOutGdB
import Derived.Test.YtgmgpefegmlnoaaDoorOutHas
namespace Go.Proofs.YtgmgpefegmlnoaaDoor.Out
open Go.ChangeShapes Go.WideShapes Go.ChangeAt Go.RowKit Num Mem Band

theorem atC (n : Int) (w : World) : Calls Tryd.prog 24 #[.int .i64 n] w fun e w' => e = .returned (.agg (vtA ⟨true, n, 3⟩)) ∧ Below w.heap.size w w' := by
  go_enter Tryd.func24, Tryd.ntmps24
  go_wp2
  refine bodyPost_ret (v := .agg (vtA ⟨true, n, 3⟩)) (by simp [results, Tryd.results24, go_sem]) rfl ⟨rfl, ?_⟩
  exact allocs _ _

/-- How far apart two numbers are. -/
def gp (a b : Int) : Int := gmax a b - gmin a b
theorem gp_bd {a b s : Int} (h : b - s ≤ a ∧ a ≤ b + s) : 0 ≤ gp a b ∧ gp a b ≤ s := by
  unfold gp
  rcases gmax_cases a b with ⟨e, _⟩ | ⟨e, _⟩ <;> rcases gmin_cases a b with ⟨f, _⟩ | ⟨f, _⟩ <;> rw [e, f] <;> omega
theorem gapC (a b : Int) (ha : -1000000 ≤ a ∧ a ≤ 1000000) (hb : -1000000 ≤ b ∧ b ≤ 1000000) (w : World) : Calls Tryd.prog 12 #[.int .i64 a, .int .i64 b] w fun e w' => e = .returned (.int .i64 (gp a b)) ∧ w = w' := by
  obtain ⟨a0, a1⟩ := ha
  obtain ⟨b0, b1⟩ := hb
  have h1 := gmax_cases a b
  have h2 := gmin_cases a b
  have HG : Hid (gp a b = gmax a b - gmin a b) := rfl
  have x0 : -1000000 ≤ gmax a b := by omega
  have x1 : gmax a b ≤ 1000000 := by omega
  have y0 : -1000000 ≤ gmin a b := by omega
  have y1 : gmin a b ≤ 1000000 := by omega
  clear h1 h2
  go_enter Tryd.func12, Tryd.ntmps12
  go_wp2
  go_ret
  exact ⟨ret_int HG.out, rfl⟩

/-- Three numbers, by place. -/
abbrev of3 (a b c : Int) : Nat → Int
  | 0 => a
  | 1 => b
  | _ => c
theorem in3 {a b c : Int} (h : In a ∧ In b ∧ In c) : InC (of3 a b c) := fun k hk => match k, hk with
  | 0, _ => h.1
  | 1, _ => h.2.1
  | 2, _ => h.2.2
abbrev lvX : Nat → Vt := of4 ⟨true, 96, 3⟩ ⟨true, 0, 3⟩ ⟨true, 762, 3⟩ ⟨true, 0, 3⟩
theorem lv_x : InX lvX := lt4 ⟨by decide, by decide⟩ ⟨by decide, by decide⟩ ⟨by decide, by decide⟩ ⟨by decide, by decide⟩
theorem lv_a : cA (lim (of3 0 0 0) (of3 99 99 99)) = #[.int .i64 20, .int .i64 14, .int .i64 99] := by
  rw [show cA (lim (of3 0 0 0) (of3 99 99 99)) = cA (of3 20 14 99) from cA_as fun j h => match j, h with
    | 0, _ => by decide +kernel
    | 1, _ => by decide +kernel
    | 2, _ => by decide +kernel]
  rfl
theorem lv_b : lim (of3 0 20 0) (of3 0 (-20) 0) 1 = 6 := by decide +kernel
theorem lv_c : cA (gd 2 lvX (of3 0 18 0)) = #[.int .i64 (-16), .int .i64 18, .int .i64 0] := by
  rw [show cA (gd 2 lvX (of3 0 18 0)) = cA (of3 (-16) 18 0) from cA_as fun j h => match j, h with
    | 0, _ => by decide +kernel
    | 1, _ => by decide +kernel
    | 2, _ => by decide +kernel]
  rfl
theorem lvA (w : World) (T : BdAt w) : Calls Tryd.prog 7 #[.agg #[.int .i64 0, .int .i64 0, .int .i64 0], .agg #[.int .i64 99, .int .i64 99, .int .i64 99]] w fun e w' => e = .returned (.agg (cA (lim (of3 0 0 0) (of3 99 99 99)))) ∧ Below w.heap.size w w' :=
  limC (of3 0 0 0) (of3 99 99 99) (in3 ⟨⟨by decide, by decide⟩, ⟨by decide, by decide⟩, ⟨by decide, by decide⟩⟩) (in3 ⟨⟨by decide, by decide⟩, ⟨by decide, by decide⟩, ⟨by decide, by decide⟩⟩) w T
theorem lvB (w : World) (T : BdAt w) : Calls Tryd.prog 7 #[.agg #[.int .i64 0, .int .i64 20, .int .i64 0], .agg #[.int .i64 0, .int .i64 (-20), .int .i64 0]] w fun e w' => e = .returned (.agg (cA (lim (of3 0 20 0) (of3 0 (-20) 0)))) ∧ Below w.heap.size w w' :=
  limC (of3 0 20 0) (of3 0 (-20) 0) (in3 ⟨⟨by decide, by decide⟩, ⟨by decide, by decide⟩, ⟨by decide, by decide⟩⟩) (in3 ⟨⟨by decide, by decide⟩, ⟨by decide, by decide⟩, ⟨by decide, by decide⟩⟩) w T
theorem lvC (w : World) (T : BdAt w) : Calls Tryd.prog 9 #[.int .u8 2, .agg #[.bool true, .int .i64 96, .int .i64 3, .bool true, .int .i64 0, .int .i64 3, .bool true, .int .i64 762, .int .i64 3, .bool true, .int .i64 0, .int .i64 3], .agg #[.int .i64 0, .int .i64 18, .int .i64 0]] w fun e w' => e = .returned (.agg (cA (gd 2 lvX (of3 0 18 0)))) ∧ Below w.heap.size w w' :=
  guideC 2 lvX (of3 0 18 0) lv_x (in3 ⟨⟨by decide, by decide⟩, ⟨by decide, by decide⟩, ⟨by decide, by decide⟩⟩) w T
theorem lvM (w : World) (T : BdAt w) : Calls Tryd.prog 5 #[.agg #[.int .i64 20, .int .i64 24, .int .i64 (-500)]] w fun e w' => e = .returned (.bool true) ∧ Below w.heap.size w w' := by
  have h := mayC (of3 20 24 (-500)) (in3 ⟨⟨by decide, by decide⟩, ⟨by decide, by decide⟩, ⟨by decide, by decide⟩⟩) w T
  rw [show mayB (of3 20 24 (-500)) = true by decide +kernel] at h
  exact h
theorem lvN (w : World) (T : BdAt w) : Calls Tryd.prog 5 #[.agg #[.int .i64 21, .int .i64 0, .int .i64 0]] w fun e w' => e = .returned (.bool false) ∧ Below w.heap.size w w' := by
  have h := mayC (of3 21 0 0) (in3 ⟨⟨by decide, by decide⟩, ⟨by decide, by decide⟩, ⟨by decide, by decide⟩⟩) w T
  rw [show mayB (of3 21 0 0) = false by decide +kernel] at h
  exact h

section
attribute [local go_sem ↓] ldC_eq stC_eq
set_option maxRecDepth 100000 in
set_option maxHeartbeats 4000000 in
theorem lives (w : World) (T : BdAt w) : Calls Tryd.prog 11 #[] w fun e w' => e = .returned (.bool true) ∧ Below w.heap.size w w' := by
  have HT := Lib.hid T
  clear T
  have K0 := Lib.hid (has_none w)
  have LA := Lib.hid lvA
  have LB := Lib.hid lvB
  have LC := Lib.hid lvC
  have EA : ∀ W, (Go.binOp .eql 26 (.agg (cA (lim (of3 0 0 0) (of3 99 99 99)))) (.agg #[.int .i64 20, .int .i64 14, .int .i64 99])).run Tryd.prog W = .ok (.bool true) W := fun W => by rw [← lv_a]; exact eq_c _ W
  have EB : lim (of3 0 20 0) (of3 0 (-20) 0) 1 = 6 := lv_b
  have EC : ∀ W, (Go.binOp .eql 26 (.agg (cA (gd 2 lvX (of3 0 18 0)))) (.agg #[.int .i64 (-16), .int .i64 18, .int .i64 0])).run Tryd.prog W = .ok (.bool true) W := fun W => by rw [← lv_c]; exact eq_c _ W
  generalize lim (of3 0 0 0) (of3 99 99 99) = a at *
  generalize lim (of3 0 20 0) (of3 0 (-20) 0) = b at *
  generalize gd 2 lvX (of3 0 18 0) = c at *
  replace EA := Lib.hid EA
  replace EB := Lib.hid EB
  replace EC := Lib.hid EC
  go_enter Tryd.func11, Tryd.ntmps11
  go_wp2_with fail
  refine (LA.out _ HT.out).mono ?_
  rintro e w1 ⟨rfl, b1⟩
  have K1 := Lib.hid (has_call K0.out b1)
  have K2 := Lib.hid (has_new K1.out a)
  have s1 := st_new w1 a
  clear b1
  go_upto_region 2 with (fail)
  clear s1 K1 K0
  generalize hg : w1.heap.size = g1 at *
  clear hg
  generalize World.setRow _ _ _ = W1 at *
  go_wp2_with fail
  refine (LB.out _ (bd_kept HT.out K2.out.1)).mono ?_
  rintro e w2 ⟨rfl, b2⟩
  have K3 := Lib.hid (has_call K2.out b2)
  have K4 := Lib.hid (has_new K3.out b)
  have s1 := st_new w2 b
  clear b2
  go_upto_region 3 with (fail)
  clear s1 K2 K3
  generalize hg : w2.heap.size = g2 at *
  clear hg
  generalize World.setRow _ _ _ = W2 at *
  go_wp2_with (with_reducible refine (atC _ _).mono ?_; rintro e v ⟨rfl, bb⟩; replace K4 := Lib.hid (has_call K4.out bb); clear bb)
  refine (LC.out _ (bd_kept HT.out K4.out.1)).mono ?_
  rintro e w3 ⟨rfl, b3⟩
  have K5 := Lib.hid (has_call K4.out b3)
  have K6 := Lib.hid (has_new K5.out c)
  have s1 := st_new w3 c
  clear b3
  go_upto_region 4 with (fail)
  clear s1 K4 K5
  generalize hg : w3.heap.size = g3 at *
  clear hg
  generalize World.setRow _ _ _ = W3 at *
  go_wp2_with fail
  refine (lvM _ (bd_kept HT.out K6.out.1)).mono ?_
  rintro e w4 ⟨rfl, b4⟩
  replace K6 := Lib.hid (has_call K6.out b4)
  clear b4
  go_wp2_with fail
  refine (lvN _ (bd_kept HT.out K6.out.1)).mono ?_
  rintro e w5 ⟨rfl, b5⟩
  replace K6 := Lib.hid (has_call K6.out b5)
  clear b5
  have qa := has_c K6.out g1 a (by simp)
  have qc := has_c K6.out g3 c (by simp)
  have qb : w5.cell? ⟨g2, 1, none⟩ = some (.int .i64 6) := by rw [← EB.out]; exact blk_cell (K6.out.2 (g2, cA b, 26) (by simp)) rfl
  replace EA := EA.out
  replace EC := EC.out
  go_wp2
  go_ret
  exact ⟨rfl, K6.out.1⟩
end

end Go.Proofs.YtgmgpefegmlnoaaDoor.Out
