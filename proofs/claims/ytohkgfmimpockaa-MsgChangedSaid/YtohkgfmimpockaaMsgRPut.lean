/- The contract of the reference's Put: an error, or the 40 bytes of the message. Conditions: the fields are what their types allow. -/
import Derived.Test.YtohkgfmimpockaaMsgPut
namespace Go.Proofs.Ytohkgfmimpockaa.Msg
open Go.ChangeShapes Go.WideShapes Go.ChangeAt Go.RowKit Num By

theorem rPutNo (m : Ms) (h : may m = false) (w : World) :
    Calls Try.prog 8 #[.agg (mA m)] w fun e w' => e = .returned (.tuple #[.slice none 0 0, .int .i64 2]) ∧ Below w.heap.size w w' := by
  have K0 := Lib.hid (blk_alloc w (mA m) 27)
  go_enter Try.func8, Try.ntmps8
  go_wp2_with ((with_reducible refine load_m rfl (.tmp 1) rfl w.heap.size m K0.out ?_ ?_); rfl)
  refine (rMayM h _).mono ?_
  rintro e w1 ⟨rfl, b1⟩
  have B1 := Lib.hid (below_box b1).2
  clear b1
  go_wp2
  go_ret2
  exact ⟨rfl, B1.out⟩

theorem rput_start {w0 w : World} {m : Ms} (b : Below (w0.alloc (.cells (mA m) 27)).heap.size (w0.alloc (.cells (mA m) 27)) w) :
    PutAt w0 m 2 (.slice (some ⟨w.heap.size, 0, none⟩) 2 2) (w.alloc (.cells #[.int .u8 165, .int .u8 m.lane] 5)) := by
  obtain ⟨h1, h2⟩ := below_box b
  have h3 : w0.heap.size + 1 ≤ w.heap.size := by have := b.size; simpa using this
  exact ⟨blk_under h1 ((Below.refl _ w).alloc h3 _) (Nat.lt_succ_self _), h2.alloc h2.size _, ⟨rfl, .inr ⟨w.heap.size, 2, _, rfl, h3, heap_alloc_new w _, Nat.le_refl _, by unfold maxLen; omega, rfl, rfl⟩⟩, by simp; omega⟩
theorem five_new (w : World) (B : Nat) (m : Ms) (h : w.heap.size = B) : Bys (w.alloc (.cells #[.int .u8 m.h0, .int .u8 m.h1, .int .u8 m.h2, .int .u8 m.mode, .int .u8 m.level] 5)) (w.alloc (.cells #[.int .u8 m.h0, .int .u8 m.h1, .int .u8 m.h2, .int .u8 m.mode, .int .u8 m.level] 5)).heap.size (some ⟨B, 0, none⟩) 5 (fun i => full m (6 + i)) := by subst h; exact bys_new w 5 _ _ _ rfl
theorem one_at (w : World) (B : Nat) (x : Int) (h : w.heap.size = B) : Bys (w.alloc (.cells #[.int .u8 x] 5)) (w.alloc (.cells #[.int .u8 x] 5)).heap.size (some ⟨B, 0, none⟩) 1 (fun _ => x) := by subst h; exact one_new w x

set_option maxRecDepth 100000 in
set_option maxHeartbeats 4000000 in
theorem rPutT (m : Ms) (hm : Wf m) (h : may m = true) (he : m.eng = true) (w : World) :
    Calls Try.prog 8 #[.agg (mA m)] w fun e w' => ∃ v, e = .returned (.tuple #[v, .int .i64 0]) ∧ w'.ownsRow w.heap.size 5 1 v 40 (cellsOf 40 (full m)) ∧ Below w.heap.size w w' := by
  have K0 := Lib.hid (blk_alloc w (mA m) 27)
  have HM := Lib.hid hm
  have HE : Hid (full m 11 = 1) := by show engI m.eng = 1; rw [he]; rfl
  have HG := Lib.hid he
  clear hm he
  go_enter Try.func8, Try.ntmps8
  go_wp2_with ((with_reducible refine load_m rfl (.tmp 1) rfl w.heap.size m K0.out ?_ ?_); rfl)
  refine (rMayM h _).mono ?_
  rintro e w1 ⟨rfl, b1⟩
  have P1 := Lib.hid (rput_start b1)
  have a0 := blk_cell (below_box b1).1 (o := 0) (v := .int .u8 m.lane) rfl
  have a1 := blk_cell P1.out.box (o := 1) (v := .int .u32 m.frame) rfl
  obtain ⟨f0, f1⟩ := HM.out.frame
  clear b1 K0
  go_wp2_with fail
  refine (lay4 _ 2 (w.heap.size + 1) (full m) m.frame _ f0 (by omega) (by omega) (full_frame m) P1.out.lt P1.out.own).mono ?_
  rintro e w3 ⟨v3, rfl, o3, b3⟩
  have P2 := Lib.hid (put_on P1.out b3 o3)
  clear o3 b3 P1 a0 a1 f0 f1
  have c0 := blk_cell P2.out.box (o := 2) (v := .int .u8 m.h0) rfl
  have c1 := blk_cell P2.out.box (o := 3) (v := .int .u8 m.h1) rfl
  have c2 := blk_cell P2.out.box (o := 4) (v := .int .u8 m.h2) rfl
  have c3 := blk_cell P2.out.box (o := 5) (v := .int .u8 m.mode) rfl
  have c4 := blk_cell P2.out.box (o := 6) (v := .int .u8 m.level) rfl
  go_wp2_with (first
    | (at_builtin; (with_reducible refine wpList_append_more rfl (.tmp 16) (.tmp 30) ?_ (w.heap.size + 1) 6 (full m) v3 (some ⟨w3.heap.size, 0, none⟩) 5 5 (fun i => full m (6 + i)) ?_ (P2.out.own.alloc _) (put_lay P2.out _).lt ?_ (five_new _ _ m (by simp)) (by simp) (by omega) ?_); rfl; rfl; rfl; intro v4 w4 o4 b4; have P3 := Lib.hid (put_on (put_lay P2.out _) b4 (own_more (k := 6) (n := 5) o4 (fun j hj => rfl))); clear o4 b4 P2 c0 c1 c2 c3 c4; have c5 := blk_cell P3.out.box (o := 7) (v := .bool true) (by rw [← HG.out]; rfl))
    | (at_builtin; (with_reducible refine wpList_append_more rfl (.tmp 34) (.tmp 35) ?_ (w.heap.size + 1) 11 (full m) v4 (some ⟨w4.heap.size, 0, none⟩) 1 1 (fun _ => 1) ?_ (P3.out.own.alloc _) (put_lay P3.out _).lt ?_ (one_at _ _ 1 (by simp)) (by simp) (by omega) ?_); rfl; rfl; rfl; intro v5 w5 o5 b5; have P4 := Lib.hid (put_on (put_lay P3.out _) b5 (own_more (k := 11) (n := 1) o5 (fun j hj => match j, hj with | 0, _ => HE.out.symm))); clear o5 b5 P3 c5; have a6 := blk_cell P4.out.box (o := 8) (v := .int .i64 m.side) rfl))
  refine (lay8 _ 12 (w.heap.size + 1) (full m) _ _ (u64_in m.side).1 (u64_in m.side).2 (by omega) (full_side m) P4.out.lt P4.out.own).mono ?_
  rintro e w6 ⟨v6, rfl, o6, b6⟩
  have P5 := Lib.hid (put_on P4.out b6 o6)
  clear o6 b6 P4 a6
  have a7 := blk_cell P5.out.box (o := 9) (v := .int .i64 m.sink) rfl
  go_wp2_with fail
  refine (lay8 _ 20 (w.heap.size + 1) (full m) _ _ (u64_in m.sink).1 (u64_in m.sink).2 (by omega) (full_sink m) P5.out.lt P5.out.own).mono ?_
  rintro e w7 ⟨v7, rfl, o7, b7⟩
  have P6 := Lib.hid (put_on P5.out b7 o7)
  clear o7 b7 P5 a7
  have a8 := blk_cell P6.out.box (o := 10) (v := .int .i64 m.turn) rfl
  go_wp2_with fail
  refine (lay8 _ 28 (w.heap.size + 1) (full m) _ _ (u64_in m.turn).1 (u64_in m.turn).2 (by omega) (full_turn m) P6.out.lt P6.out.own).mono ?_
  rintro e w8 ⟨v8, rfl, o8, b8⟩
  have HP := Lib.hid (put_on P6.out b8 o8)
  clear o8 b8 P6 a8
  obtain ⟨A, c, rfl, hnil, hc, hB⟩ := bys_of_own HP.out.own
  have HB := Lib.hid hB
  have HF : Hid (∀ j, j < 4 → byt (sum 36 (full m)) j = full m (36 + j)) := fun j _ => by rw [full_sum, full_hi]
  obtain ⟨s0, s1⟩ := sum_in 36 (full m)
  clear hnil hc hB
  go_wp2_with fail
  refine (rSumC A 36 c (full m) _ (by omega) (full_byte HM.out) HB.out).mono ?_
  rintro e w' ⟨rfl, rfl⟩
  generalize sum 36 (full m) = S at *
  go_wp2_with fail
  refine (lay4 _ 36 (w.heap.size + 1) (full m) S _ s0 (by omega) (by omega) HF.out HP.out.lt HP.out.own).mono ?_
  rintro e w9 ⟨v9, rfl, o9, b9⟩
  have HQ := Lib.hid (put_on HP.out b9 o9)
  clear o9 b9
  go_wp2
  go_ret2
  exact ⟨v9, rfl, own_base' (Nat.le_succ _) HQ.out.own, HQ.out.below⟩

set_option maxRecDepth 100000 in
set_option maxHeartbeats 4000000 in
theorem rPutF (m : Ms) (hm : Wf m) (h : may m = true) (he : m.eng = false) (w : World) :
    Calls Try.prog 8 #[.agg (mA m)] w fun e w' => ∃ v, e = .returned (.tuple #[v, .int .i64 0]) ∧ w'.ownsRow w.heap.size 5 1 v 40 (cellsOf 40 (full m)) ∧ Below w.heap.size w w' := by
  have K0 := Lib.hid (blk_alloc w (mA m) 27)
  have HM := Lib.hid hm
  have HE : Hid (full m 11 = 0) := by show engI m.eng = 0; rw [he]; rfl
  have HG := Lib.hid he
  clear hm he
  go_enter Try.func8, Try.ntmps8
  go_wp2_with ((with_reducible refine load_m rfl (.tmp 1) rfl w.heap.size m K0.out ?_ ?_); rfl)
  refine (rMayM h _).mono ?_
  rintro e w1 ⟨rfl, b1⟩
  have P1 := Lib.hid (rput_start b1)
  have a0 := blk_cell (below_box b1).1 (o := 0) (v := .int .u8 m.lane) rfl
  have a1 := blk_cell P1.out.box (o := 1) (v := .int .u32 m.frame) rfl
  obtain ⟨f0, f1⟩ := HM.out.frame
  clear b1 K0
  go_wp2_with fail
  refine (lay4 _ 2 (w.heap.size + 1) (full m) m.frame _ f0 (by omega) (by omega) (full_frame m) P1.out.lt P1.out.own).mono ?_
  rintro e w3 ⟨v3, rfl, o3, b3⟩
  have P2 := Lib.hid (put_on P1.out b3 o3)
  clear o3 b3 P1 a0 a1 f0 f1
  have c0 := blk_cell P2.out.box (o := 2) (v := .int .u8 m.h0) rfl
  have c1 := blk_cell P2.out.box (o := 3) (v := .int .u8 m.h1) rfl
  have c2 := blk_cell P2.out.box (o := 4) (v := .int .u8 m.h2) rfl
  have c3 := blk_cell P2.out.box (o := 5) (v := .int .u8 m.mode) rfl
  have c4 := blk_cell P2.out.box (o := 6) (v := .int .u8 m.level) rfl
  go_wp2_with (first
    | (at_builtin; (with_reducible refine wpList_append_more rfl (.tmp 16) (.tmp 30) ?_ (w.heap.size + 1) 6 (full m) v3 (some ⟨w3.heap.size, 0, none⟩) 5 5 (fun i => full m (6 + i)) ?_ (P2.out.own.alloc _) (put_lay P2.out _).lt ?_ (five_new _ _ m (by simp)) (by simp) (by omega) ?_); rfl; rfl; rfl; intro v4 w4 o4 b4; have P3 := Lib.hid (put_on (put_lay P2.out _) b4 (own_more (k := 6) (n := 5) o4 (fun j hj => rfl))); clear o4 b4 P2 c0 c1 c2 c3 c4; have c5 := blk_cell P3.out.box (o := 7) (v := .bool false) (by rw [← HG.out]; rfl))
    | (at_builtin; (with_reducible refine wpList_append_more rfl (.tmp 37) (.tmp 38) ?_ (w.heap.size + 1) 11 (full m) v4 (some ⟨w4.heap.size, 0, none⟩) 1 1 (fun _ => 0) ?_ (P3.out.own.alloc _) (put_lay P3.out _).lt ?_ (one_at _ _ 0 (by simp)) (by simp) (by omega) ?_); rfl; rfl; rfl; intro v5 w5 o5 b5; have P4 := Lib.hid (put_on (put_lay P3.out _) b5 (own_more (k := 11) (n := 1) o5 (fun j hj => match j, hj with | 0, _ => HE.out.symm))); clear o5 b5 P3 c5; have a6 := blk_cell P4.out.box (o := 8) (v := .int .i64 m.side) rfl))
  refine (lay8 _ 12 (w.heap.size + 1) (full m) _ _ (u64_in m.side).1 (u64_in m.side).2 (by omega) (full_side m) P4.out.lt P4.out.own).mono ?_
  rintro e w6 ⟨v6, rfl, o6, b6⟩
  have P5 := Lib.hid (put_on P4.out b6 o6)
  clear o6 b6 P4 a6
  have a7 := blk_cell P5.out.box (o := 9) (v := .int .i64 m.sink) rfl
  go_wp2_with fail
  refine (lay8 _ 20 (w.heap.size + 1) (full m) _ _ (u64_in m.sink).1 (u64_in m.sink).2 (by omega) (full_sink m) P5.out.lt P5.out.own).mono ?_
  rintro e w7 ⟨v7, rfl, o7, b7⟩
  have P6 := Lib.hid (put_on P5.out b7 o7)
  clear o7 b7 P5 a7
  have a8 := blk_cell P6.out.box (o := 10) (v := .int .i64 m.turn) rfl
  go_wp2_with fail
  refine (lay8 _ 28 (w.heap.size + 1) (full m) _ _ (u64_in m.turn).1 (u64_in m.turn).2 (by omega) (full_turn m) P6.out.lt P6.out.own).mono ?_
  rintro e w8 ⟨v8, rfl, o8, b8⟩
  have HP := Lib.hid (put_on P6.out b8 o8)
  clear o8 b8 P6 a8
  obtain ⟨A, c, rfl, hnil, hc, hB⟩ := bys_of_own HP.out.own
  have HB := Lib.hid hB
  have HF : Hid (∀ j, j < 4 → byt (sum 36 (full m)) j = full m (36 + j)) := fun j _ => by rw [full_sum, full_hi]
  obtain ⟨s0, s1⟩ := sum_in 36 (full m)
  clear hnil hc hB
  go_wp2_with fail
  refine (rSumC A 36 c (full m) _ (by omega) (full_byte HM.out) HB.out).mono ?_
  rintro e w' ⟨rfl, rfl⟩
  generalize sum 36 (full m) = S at *
  go_wp2_with fail
  refine (lay4 _ 36 (w.heap.size + 1) (full m) S _ s0 (by omega) (by omega) HF.out HP.out.lt HP.out.own).mono ?_
  rintro e w9 ⟨v9, rfl, o9, b9⟩
  have HQ := Lib.hid (put_on HP.out b9 o9)
  clear o9 b9
  go_wp2
  go_ret2
  exact ⟨v9, rfl, own_base' (Nat.le_succ _) HQ.out.own, HQ.out.below⟩

theorem rPutYes (m : Ms) (hm : Wf m) (h : may m = true) (w : World) :
    Calls Try.prog 8 #[.agg (mA m)] w fun e w' => ∃ v, e = .returned (.tuple #[v, .int .i64 0]) ∧ w'.ownsRow w.heap.size 5 1 v 40 (cellsOf 40 (full m)) ∧ Below w.heap.size w w' := by
  cases he : m.eng
  · exact rPutF m hm h he w
  · exact rPutT m hm h he w

end Go.Proofs.Ytohkgfmimpockaa.Msg
