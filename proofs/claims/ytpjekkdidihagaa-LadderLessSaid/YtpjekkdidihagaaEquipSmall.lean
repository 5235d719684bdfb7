/- Contracts of equip.follows, equip.nothingMore, bits.OnesCount8 (of two bits), and of the document's num and Nums. Conditions: none. -/
import Derived.Test.YtpjekkdidihagaaEquipRow
import Derived.Deep.QuietTactic
import Derived.BigQuiet
import Derived.StillTailTactics
namespace Go.Proofs.Ytpjekkdidihagaa.Equip
open Go.ChangeShapes Go.WideShapes Go.ChangeAt Go.RowKit Num Pers Vote Lanes

theorem followsC (a b : Bool) (w : World) : Calls Try.prog 18 #[.bool a, .bool b] w fun e w' => e = .returned (.bool (fo a b)) ∧ w = w' := by
  cases a
  · go_enter Try.func18, Try.ntmps18
    go_wp2
    go_ret
    exact ⟨rfl, rfl⟩
  · go_enter Try.func18, Try.ntmps18
    go_wp2
    go_ret
    exact ⟨rfl, rfl⟩
theorem numC (b : Bool) (w : World) : Calls Try.prog 17 #[.bool b] w fun e w' => e = .returned (.int .i64 (b01 b)) ∧ w = w' := by
  cases b
  · go_enter Try.func17, Try.ntmps17
    go_wp2
    go_ret
    exact ⟨rfl, rfl⟩
  · go_enter Try.func17, Try.ntmps17
    go_wp2
    go_ret
    exact ⟨rfl, rfl⟩

/-- Two inventories boxed. -/
structure TwoAt (w0 : World) (A B : St) (w : World) : Prop where
  below : Below w0.heap.size w0 w
  ha : Blk w w0.heap.size (stA A) 24
  hb : Blk w (w0.heap.size + 1) (stA B) 24
theorem two_box (w : World) (A B : St) : TwoAt w A B ((w.alloc (.cells (stA A) 24)).alloc (.cells (stA B) 24)) :=
  ⟨below_new (allocs w _) _, blk_kept (blk_alloc w _ _) (allocs _ _), blk_alloc2 w _ _ _⟩
theorem two_call {w0 w w1 : World} {A B : St} (h : TwoAt w0 A B w) (b : Below w.heap.size w w1) : TwoAt w0 A B w1 := ⟨bthen h.below b, blk_kept h.ha b, blk_kept h.hb b⟩
theorem two_drewN {w0 w : World} {A B : St} (h : TwoAt w0 A B w) (n : Nat) : TwoAt w0 A B (w.drewN n) := ⟨below_drewN h.below n, h.ha, h.hb⟩
theorem two_drew {w0 w : World} {A B : St} (h : TwoAt w0 A B w) : TwoAt w0 A B w.drew := ⟨below_drewN h.below 1, h.ha, h.hb⟩

set_option maxRecDepth 100000 in
set_option maxHeartbeats 4000000 in
theorem moreC (A B : St) (w : World) :
    Calls Try.prog 16 #[.agg (stA A), .agg (stA B)] w fun e w' => e = .returned (.bool (nmN A B 8)) ∧ Below w.heap.size w w' := by
  have K0 := Lib.hid (two_box w A B)
  go_enter Try.func16, Try.ntmps16
  go_wp2_with fail
  generalize World.alloc (World.alloc w _) _ = W at *
  go_loopw [9] (fun i wr => ∃ k : Nat, i = .int .i64 k ∧ k ≤ 4 ∧ nmN A B k = true ∧ TwoAt w A B wr) (fun i _ => 4 - (intOf i).toNat)
  case atStart => exact ⟨0, rfl, by omega, rfl, K0.out⟩
  case round =>
    rename_i wr
    obtain ⟨k, rfl, hk, N, S⟩ := hrel
    have HA := Lib.hid S
    have HN := Lib.hid N
    clear S N K0
    by_cases hk4 : k < 4
    · have k0 : (0 : Int) ≤ (k : Int) := Int.natCast_nonneg _
      have k4 : (k : Int) < 4 := by omega
      have jx := fun W => ix_4 A.s W k hk4
      have c0 := blk_cell HA.out.hb (st_at B k hk4)
      by_cases hm : B.s k < A.s k
      · have HM : Hid (nmN A B 8 = false) := nm_more (k := k) (by omega) (by show nu B k < nu A k; unfold nu; rw [if_pos hk4, if_pos hk4]; exact hm)
        go_wp2
        go_ret
        exact ⟨ret_bool HM.out, HA.out.below⟩
      · have HM : Hid (nmN A B (k + 1) = true) := (nmN_of A B (k + 1)).2 fun j hj => by
          by_cases e : j = k
          · subst e; show nu A j ≤ nu B j; unfold nu; rw [if_pos hk4, if_pos hk4]; omega
          · exact (nmN_of A B k).1 HN.out j (by omega)
        go_wp2
        go_roundw
        case rel => exact ⟨k + 1, by go_num, by omega, HM.out, HA.out⟩
        case measure => simp [intOf]; omega
    · obtain rfl : k = 4 := by omega
      have e4 : ((4 : Nat) : Int) = 4 := rfl
      have HT : Hid (nmN A B 8 = (decide (A.l ≤ B.l) && (decide (A.y ≤ B.y) && (fo A.r B.r && fo A.t B.t)))) := by show nmN A B 8 = _; rw [nm_tail, HN.out]; rfl
      have c0 := blk_cell HA.out.ha (o := 4) (v := .int .i64 A.l) rfl
      have c1 := blk_cell HA.out.ha (o := 5) (v := .int .i64 A.y) rfl
      have c2 := blk_cell HA.out.ha (o := 6) (v := .bool A.r) rfl
      have c3 := blk_cell HA.out.ha (o := 7) (v := .bool A.t) rfl
      have d0 := blk_cell HA.out.hb (o := 4) (v := .int .i64 B.l) rfl
      have d1 := blk_cell HA.out.hb (o := 5) (v := .int .i64 B.y) rfl
      have d2 := blk_cell HA.out.hb (o := 6) (v := .bool B.r) rfl
      have d3 := blk_cell HA.out.hb (o := 7) (v := .bool B.t) rfl
      clear HN
      by_cases hl : A.l ≤ B.l
      · by_cases hy : A.y ≤ B.y
        · have HE : Hid (nmN A B 8 = (fo A.r B.r && fo A.t B.t)) := by show nmN A B 8 = _; rw [HT.out, decide_eq_true hl, decide_eq_true hy]; rfl
          clear HT
          obtain ⟨F, hF⟩ : ∃ F, fo A.r B.r = F := ⟨_, rfl⟩
          have HF := Lib.hid hF
          clear hF
          go_wp2_with fail
          refine (followsC _ _ _).mono ?_
          rintro e w' ⟨rfl, rfl⟩
          rw [HF.out]
          cases F
          · go_wp2
            go_ret
            exact ⟨ret_bool (by rw [HE.out, HF.out]; rfl), HA.out.below⟩
          · go_wp2_with fail
            refine (followsC _ _ _).mono ?_
            rintro e w' ⟨rfl, rfl⟩
            go_wp2
            go_ret
            exact ⟨ret_bool (by rw [HE.out, HF.out]; rfl), HA.out.below⟩
        · have HE : Hid (nmN A B 8 = false) := by show nmN A B 8 = _; rw [HT.out, decide_eq_false hy, Bool.false_and, Bool.and_false]
          clear HT
          go_wp2
          go_ret
          exact ⟨ret_bool HE.out, HA.out.below⟩
      · have HE : Hid (nmN A B 8 = false) := by show nmN A B 8 = _; rw [HT.out, decide_eq_false hl]; rfl
        clear HT
        go_wp2
        go_ret
        exact ⟨ret_bool HE.out, HA.out.below⟩

/-- The eight numbers, as cells. -/
def n8A (S : St) : Array Value := #[.int .i64 (S.s 0), .int .i64 (S.s 1), .int .i64 (S.s 2), .int .i64 (S.s 3), .int .i64 S.l, .int .i64 S.y, .int .i64 (b01 S.r), .int .i64 (b01 S.t)]
theorem ix_8 (S : St) (w : World) : ∀ k : Nat, k < 8 → (Instr.index 33 (.agg (n8A S)) (.int .i64 (k : Int))).run Try.prog w = .ok (.int .i64 (nu S k)) w := fun k h => match k, h with
  | 0, _ => by kernel_rfl
  | 1, _ => by kernel_rfl
  | 2, _ => by kernel_rfl
  | 3, _ => by kernel_rfl
  | 4, _ => by kernel_rfl
  | 5, _ => by kernel_rfl
  | 6, _ => by kernel_rfl
  | 7, _ => by kernel_rfl
theorem infoN : (Try.prog.info? 33).map (·.size) = some 8 := by kernel_rfl
abbrev z8 : Array Value := #[.int .i64 0, .int .i64 0, .int .i64 0, .int .i64 0, .int .i64 0, .int .i64 0, .int .i64 0, .int .i64 0]
theorem store_n8 {ops : Array Oper} {rest : List Oper} {o : Oper} {a : Act} {w : World} {Q : Exit → Act → World → Prop} (hgd : o.guard = none) (x y : Operand) (ho : o.op = .store 33 x y)
    (g : Nat) (S : St) (K : Blk w g z8 33) (hx : a.eval x = .pointer (some ⟨g, 0, none⟩)) (hy : a.eval y = .agg (n8A S)) (h : wpList Try.prog ops Q rest (a.put o.dst undef) (w.setRow g (n8A S))) : wpList Try.prog ops Q (o :: rest) a w :=
  wpList_store_row hgd 33 x y ho g (n8A S) hx hy 33 _ K infoN rfl (by kernel_rfl) h

set_option maxRecDepth 100000 in
set_option maxHeartbeats 4000000 in
theorem numsC (S : St) (w : World) :
    Calls Try.prog 14 #[.agg (stA S)] w fun e w' => e = .returned (.agg (n8A S)) ∧ Below w.heap.size w w' := by
  have K0 := Lib.hid (show Below w.heap.size w ((w.alloc (.cells (stA S) 24)).alloc (.cells z8 33)) ∧ Blk ((w.alloc (.cells (stA S) 24)).alloc (.cells z8 33)) w.heap.size (stA S) 24 ∧ Blk ((w.alloc (.cells (stA S) 24)).alloc (.cells z8 33)) (w.heap.size + 1) z8 33 from
    ⟨below_new (allocs w _) _, blk_kept (blk_alloc w _ _) (allocs _ _), blk_alloc2 w _ _ _⟩)
  go_enter Try.func14, Try.ntmps14
  go_wp2_with fail
  generalize World.alloc (World.alloc w _) _ = W at *
  have c0 := blk_cell K0.out.2.1 (o := 0) (v := .int .i64 (S.s 0)) rfl
  have c1 := blk_cell K0.out.2.1 (o := 1) (v := .int .i64 (S.s 1)) rfl
  have c2 := blk_cell K0.out.2.1 (o := 2) (v := .int .i64 (S.s 2)) rfl
  have c3 := blk_cell K0.out.2.1 (o := 3) (v := .int .i64 (S.s 3)) rfl
  have c4 := blk_cell K0.out.2.1 (o := 4) (v := .int .i64 S.l) rfl
  have c5 := blk_cell K0.out.2.1 (o := 5) (v := .int .i64 S.y) rfl
  have c6 := blk_cell K0.out.2.1 (o := 6) (v := .bool S.r) rfl
  have c7 := blk_cell K0.out.2.1 (o := 7) (v := .bool S.t) rfl
  go_still_tail 23, (by kernel_rfl)
  still_call ((numC _ _).mono fun _ _ h => ⟨h.1, h.2.symm⟩)
  repeat still_step
  still_call ((numC _ _).mono fun _ _ h => ⟨h.1, h.2.symm⟩)
  repeat still_step
  refine wpStill_nil ?_
  change wpList _ _ _ _ _ W.drew
  have K1 := Lib.hid (show Below w.heap.size w W.drew ∧ Blk W.drew (w.heap.size + 1) z8 33 from ⟨below_drewN K0.out.1 1, K0.out.2.2⟩)
  clear c0 c1 c2 c3 c4 c5 c6 c7 K0
  generalize W.drew = W1 at *
  go_wp2_with ((with_reducible refine store_n8 rfl (.tmp 2) (.tmp 25) rfl (w.heap.size + 1) S K1.out.2 ?_ ?_ ?_); rfl; rfl)
  refine bodyPost_ret (v := .agg (n8A S)) ?_ rfl ⟨rfl, below_row K1.out.1 (Nat.le_succ _) _⟩
  exact results_cell_row Try.results14 _ _ (w.heap.size + 1) 33 (n8A S) (0, 0) _ rfl (blk_row K1.out.2 _) Try.underlying33 rfl infoN

end Go.Proofs.Ytpjekkdidihagaa.Equip
