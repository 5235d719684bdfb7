/- The contract of msg.Put: an error, or the 40 bytes of the message. Conditions: the fields are what their types allow. -/
import Derived.Test.YtohkgfmimpockaaMsgRow
import Derived.StillTailTactics
import Derived.Deep.RegionHeld3
import Derived.Deep.RegionHeldLaw
namespace Go.Proofs.Ytohkgfmimpockaa.Msg
open Go.ChangeShapes Go.WideShapes Go.ChangeAt Go.RowKit Num By

theorem mayM {m : Ms} {q : Bool} (h : may m = q) (w : World) : Calls Try.prog 11 #[.agg (mA m)] w fun e w' => e = .returned (.bool q) ∧ Below w.heap.size w w' := by subst h; exact mayC m w
theorem rMayM {m : Ms} {q : Bool} (h : may m = q) (w : World) : Calls Try.prog 12 #[.agg (mA m)] w fun e w' => e = .returned (.bool q) ∧ Below w.heap.size w w' := by subst h; exact rMayMC m w

theorem putNo (m : Ms) (h : may m = false) (w : World) :
    Calls Try.prog 7 #[.agg (mA m)] w fun e w' => e = .returned (.tuple #[.slice none 0 0, .int .i64 2]) ∧ Below w.heap.size w w' := by
  have K0 := Lib.hid (blk_alloc w (mA m) 27)
  go_enter Try.func7, Try.ntmps7
  go_wp2_with ((with_reducible refine load_m rfl (.tmp 1) rfl w.heap.size m K0.out ?_ ?_); rfl)
  refine (mayM h _).mono ?_
  rintro e w1 ⟨rfl, b1⟩
  have B1 := Lib.hid (below_box b1).2
  clear b1
  go_wp2
  go_ret2
  exact ⟨rfl, B1.out⟩

/-- Forty bytes, none laid yet. -/
def room : Obj := .cells (Array.replicate 40 (.int .u8 0)) 5
theorem made (w : World) : (Instr.makeSlice 28 (.int .i64 0) (.int .i64 40)).run Try.prog w = .ok (.slice (some ⟨w.heap.size, 0, none⟩) 0 40) (w.alloc room) := by kernel_rfl
theorem made_own (w : World) (base : Nat) (F : Nat → Int) (h : base ≤ w.heap.size) : (w.alloc room).ownsRow base 5 1 (.slice (some ⟨w.heap.size, 0, none⟩) 0 40) 0 (cellsOf 0 F) :=
  World.ownsRow_made w _ 40 h (by unfold maxLen; omega) rfl

/-- How far the bytes of a message are laid: the first k of them. -/
structure PutAt (w0 : World) (m : Ms) (k : Nat) (v : Value) (w : World) : Prop where
  box : Blk w w0.heap.size (mA m) 27
  below : Below w0.heap.size w0 w
  own : w.ownsRow (w0.heap.size + 1) 5 1 v k (cellsOf k (full m))
  lt : w0.heap.size + 1 ≤ w.heap.size
theorem put_on {w0 w w1 : World} {m : Ms} {k n : Nat} {v u : Value} (h : PutAt w0 m k v w) (b : Below (w0.heap.size + 1) w w1) (o : w1.ownsRow (w0.heap.size + 1) 5 1 u n (cellsOf n (full m))) : PutAt w0 m n u w1 :=
  ⟨blk_under h.box b (Nat.lt_succ_self _), h.below.trans (b.mono (Nat.le_succ _)), o, Nat.le_trans h.lt b.size⟩
/-- The same behind one block more. -/
theorem put_lay {w0 w : World} {m : Ms} {k : Nat} {v : Value} (h : PutAt w0 m k v w) (o : Obj) : PutAt w0 m k v (w.alloc o) :=
  ⟨blk_under h.box ((Below.refl _ w).alloc h.lt o) (Nat.lt_succ_self _), h.below.alloc (by have := h.lt; omega) o, h.own.alloc o, by simp; have := h.lt; omega⟩
theorem put_draw {w0 w : World} {m : Ms} {k : Nat} {v : Value} (h : PutAt w0 m k v w) (n : Nat) : PutAt w0 m k v (w.drewN n) := ⟨h.box, below_drewN h.below n, h.own, h.lt⟩
theorem put_drew {w0 w : World} {m : Ms} {k : Nat} {v : Value} (h : PutAt w0 m k v w) : PutAt w0 m k v w.drew := ⟨h.box, ⟨h.below.os, h.below.tape, h.below.output, h.below.size, h.below.block⟩, h.own, h.lt⟩
theorem own_base' {w : World} {base base' : Nat} {v : Value} {k : Nat} {xs : List Value} (hb : base' ≤ base) (h : w.ownsRow base 5 1 v k xs) : w.ownsRow base' 5 1 v k xs := by
  refine ⟨h.1, ?_⟩
  rcases h.2 with h | ⟨g, cap, cur, h1, h2, h3⟩
  · exact .inl h
  · exact .inr ⟨g, cap, cur, h1, by omega, h3⟩
theorem two_new (w : World) (B : Nat) (x y : Int) (h : w.heap.size = B) : Bys (w.alloc (.cells #[.int .u8 x, .int .u8 y] 5)) (w.alloc (.cells #[.int .u8 x, .int .u8 y] 5)).heap.size (some ⟨B, 0, none⟩) 2 (fun i => if i = 0 then x else y) := by subst h; exact bys_new w 2 _ _ _ rfl
theorem three_new (w : World) (B : Nat) (x y z : Int) (h : w.heap.size = B) : Bys (w.alloc (.cells #[.int .u8 x, .int .u8 y, .int .u8 z] 5)) (w.alloc (.cells #[.int .u8 x, .int .u8 y, .int .u8 z] 5)).heap.size (some ⟨B, 0, none⟩) 3 (fun i => if i = 0 then x else if i = 1 then y else z) := by subst h; exact bys_new w 3 _ _ _ rfl
theorem heard_at {w : World} {g : Nat} {m : Ms} (h : Blk w g (mA m) 27) : Bys w w.heap.size (some ⟨g, 2, none⟩) 3 (fun i => full m (6 + i)) := by
  refine fun _ => ⟨g, 2, rfl, blk_lt h, fun i hi => ?_⟩
  match i, hi with
  | 0, _ => exact blk_cell h rfl
  | 1, _ => exact blk_cell h rfl
  | 2, _ => exact blk_cell h rfl
theorem put_start {w0 w : World} {m : Ms} (b : Below (w0.alloc (.cells (mA m) 27)).heap.size (w0.alloc (.cells (mA m) 27)) w) : PutAt w0 m 0 (.slice (some ⟨w.heap.size, 0, none⟩) 0 40) (w.alloc room) := by
  obtain ⟨h1, h2⟩ := below_box b
  have h3 : w0.heap.size + 1 ≤ w.heap.size := by have := b.size; simpa using this
  exact ⟨blk_under h1 ((Below.refl _ w).alloc h3 _) (Nat.lt_succ_self _), h2.alloc h2.size _, made_own w _ _ h3, by simp; omega⟩

theorem idx0 (a b c : Int) (w : World) : (Instr.index 44 (.agg #[.int .i64 a, .int .i64 b, .int .i64 c]) (.int .i64 0)).run Try.prog w = .ok (.int .i64 a) w := by kernel_rfl
theorem idx1 (a b c : Int) (w : World) : (Instr.index 44 (.agg #[.int .i64 a, .int .i64 b, .int .i64 c]) (.int .i64 1)).run Try.prog w = .ok (.int .i64 b) w := by kernel_rfl
theorem idx2 (a b c : Int) (w : World) : (Instr.index 44 (.agg #[.int .i64 a, .int .i64 b, .int .i64 c]) (.int .i64 2)).run Try.prog w = .ok (.int .i64 c) w := by kernel_rfl

set_option maxRecDepth 100000 in
set_option maxHeartbeats 4000000 in
theorem putYes (m : Ms) (hm : Wf m) (h : may m = true) (w : World) :
    Calls Try.prog 7 #[.agg (mA m)] w fun e w' => ∃ v, e = .returned (.tuple #[v, .int .i64 0]) ∧ w'.ownsRow w.heap.size 5 1 v 40 (cellsOf 40 (full m)) ∧ Below w.heap.size w w' := by
  have K0 := Lib.hid (blk_alloc w (mA m) 27)
  have HM := Lib.hid hm
  have hmk := made
  clear hm
  go_enter Try.func7, Try.ntmps7
  go_wp2_with ((with_reducible refine load_m rfl (.tmp 1) rfl w.heap.size m K0.out ?_ ?_); rfl)
  refine (mayM h _).mono ?_
  rintro e w1 ⟨rfl, b1⟩
  have P0 := Lib.hid (put_start b1)
  clear b1 K0
  have a0 := blk_cell P0.out.box (o := 0) (v := .int .u8 m.lane) rfl
  go_wp2_with (at_builtin; refine wpList_append_more rfl (.tmp 11) (.tmp 14) rfl (w.heap.size + 1) 0 (full m) _ (some ⟨w1.heap.size + 1, 0, none⟩) 2 2 _ rfl (P0.out.own.alloc _) (put_lay P0.out _).lt rfl (two_new _ _ 165 m.lane (by simp)) (by simp) (by omega) ?_; intro v2 w2 o2 b2; have P1 := Lib.hid (put_on (put_lay P0.out _) b2 (own_more (k := 0) (n := 2) o2 (fun j hj => match j, hj with | 0, _ => rfl | 1, _ => rfl))); clear o2 b2 P0 a0; have a1 := blk_cell P1.out.box (o := 1) (v := .int .u32 m.frame) rfl; obtain ⟨f0, f1⟩ := HM.out.frame)
  refine (app4 v2 2 (w.heap.size + 1) (full m) m.frame _ f0 (by omega) (by omega) (full_frame m) P1.out.lt P1.out.own).mono ?_
  rintro e w3 ⟨v3, rfl, o3, b3⟩
  have P2 := Lib.hid (put_on P1.out b3 o3)
  clear o3 b3 P1 a1 f0 f1
  go_wp2_with (at_builtin; refine wpList_append_more rfl (.tmp 21) (.tmp 23) rfl (w.heap.size + 1) 6 (full m) _ (some ⟨w.heap.size, 2, none⟩) 3 3 _ rfl P2.out.own P2.out.lt rfl (heard_at P2.out.box) (by simp) (by omega) ?_; intro v4 w4 o4 b4; have P3 := Lib.hid (put_on P2.out b4 (own_more (k := 6) (n := 3) o4 (fun j hj => rfl))); clear o4 b4 P2; have a3 := blk_cell P3.out.box (o := 5) (v := .int .u8 m.mode) rfl; have a4 := blk_cell P3.out.box (o := 6) (v := .int .u8 m.level) rfl; have a5 := blk_cell P3.out.box (o := 7) (v := .bool m.eng) rfl)
  have P4 := Lib.hid (put_lay (put_drew P3.out) (.cells #[.int .u8 m.mode, .int .u8 m.level, .int .u8 (engI m.eng)] 5))
  go_region_held3 (fun w' => w'.cell? ⟨w.heap.size, 5, none⟩ = some (.int .u8 m.mode) ∧ w'.cell? ⟨w.heap.size, 6, none⟩ = some (.int .u8 m.level) ∧ w'.cell? ⟨w.heap.size, 7, none⟩ = some (.bool m.eng))
    (first
      | go_keep
      | (go_split_ands
         refine ⟨?_, ?_, ?_⟩
         · (rw [b6.cell (Nat.lt_succ_self _)]; assumption)
         · (rw [b6.cell (Nat.lt_succ_self _)]; assumption)
         · (rw [b6.cell (Nat.lt_succ_self _)]; assumption)))
    (first
      | (refine step_append_more (by rfl) _ _ (by rfl) (w.heap.size + 1) 9 (full m) v4 ⟨w4.heap.size, 0, none⟩ 3 3 _ (by rfl) P4.out.own P4.out.lt (by rfl) (three_new _ _ m.mode m.level (engI m.eng) (by rfl)) (by omega) ?_; intro v6 w6 o6 b6)
      | (go_simp; go_at_call 20; refine (engageByte m.eng _).mono ?_; rintro e w' ⟨rfl, rfl⟩))
  have P5 := Lib.hid (put_on P4.out b6 (own_more (k := 9) (n := 3) o6 (fun j hj => match j, hj with | 0, _ => rfl | 1, _ => rfl | 2, _ => rfl)))
  go_split_ands
  clear o6 b6 P4 P3
  have a6 := blk_cell P5.out.box (o := 8) (v := .int .i64 m.side) rfl
  have a7 := blk_cell P5.out.box (o := 9) (v := .int .i64 m.sink) rfl
  have a8 := blk_cell P5.out.box (o := 10) (v := .int .i64 m.turn) rfl
  go_wp2
  go_loopw [4, 45] (fun b i wr => ∃ k : Nat, k ≤ 3 ∧ i = .int .i64 k ∧ PutAt w m (12 + 8 * k) b wr) (fun _ i _ => 3 - (intOf i).toNat)
  case atStart => exact ⟨0, by omega, rfl, P5.out⟩
  case round =>
    rename_i wr
    obtain ⟨k, hk, rfl, hP⟩ := hrel
    have HP := Lib.hid hP
    clear hP P5 a6 a7 a8
    rcases (show k = 0 ∨ k = 1 ∨ k = 2 ∨ k = 3 by omega) with rfl | rfl | rfl | rfl
    · have hx := idx0 m.side m.sink m.turn wr
      go_wp2_with fail
      refine (app8 _ 12 (w.heap.size + 1) (full m) _ _ (u64_in m.side).1 (u64_in m.side).2 (by omega) (full_side m) HP.out.lt HP.out.own).mono ?_
      rintro e w2 ⟨v2, rfl, o2, b2⟩
      have HQ := Lib.hid (put_on HP.out b2 o2)
      clear o2 b2
      go_wp2
      go_roundw
      case rel => exact ⟨1, by omega, rfl, HQ.out⟩
      case measure => simp [intOf]
    · have e1 : ((1 : Nat) : Int) = 1 := rfl
      have hx := idx1 m.side m.sink m.turn wr
      go_wp2_with fail
      refine (app8 _ 20 (w.heap.size + 1) (full m) _ _ (u64_in m.sink).1 (u64_in m.sink).2 (by omega) (full_sink m) HP.out.lt HP.out.own).mono ?_
      rintro e w2 ⟨v2, rfl, o2, b2⟩
      have HQ := Lib.hid (put_on HP.out b2 o2)
      clear o2 b2
      go_wp2
      go_roundw
      case rel => exact ⟨2, by omega, rfl, HQ.out⟩
      case measure => simp [intOf]
    · have e2 : ((2 : Nat) : Int) = 2 := rfl
      have hx := idx2 m.side m.sink m.turn wr
      go_wp2_with fail
      refine (app8 _ 28 (w.heap.size + 1) (full m) _ _ (u64_in m.turn).1 (u64_in m.turn).2 (by omega) (full_turn m) HP.out.lt HP.out.own).mono ?_
      rintro e w2 ⟨v2, rfl, o2, b2⟩
      have HQ := Lib.hid (put_on HP.out b2 o2)
      clear o2 b2
      go_wp2
      go_roundw
      case rel => exact ⟨3, by omega, rfl, HQ.out⟩
      case measure => simp [intOf]
    · have e3 : ((3 : Nat) : Int) = 3 := rfl
      obtain ⟨A, c, rfl, hnil, hc, hB⟩ := bys_of_own HP.out.own
      have HB := Lib.hid hB
      have HF : Hid (∀ j, j < 4 → byt (sum 36 (full m)) j = full m (36 + j)) := fun j _ => by rw [full_sum, full_hi]
      obtain ⟨s0, s1⟩ := sum_in 36 (full m)
      clear hnil hc hB
      go_wp2_with fail
      refine (sumC A 36 c (full m) _ (by omega) (full_byte HM.out) HB.out).mono ?_
      rintro e w' ⟨rfl, rfl⟩
      generalize sum 36 (full m) = S at *
      go_wp2_with fail
      refine (app4 _ 36 (w.heap.size + 1) (full m) S _ s0 (by omega) (by omega) HF.out HP.out.lt HP.out.own).mono ?_
      rintro e w3 ⟨v3, rfl, o3, b3⟩
      have HQ := Lib.hid (put_on HP.out b3 o3)
      clear o3 b3
      go_wp2
      go_ret2
      exact ⟨v3, rfl, own_base' (Nat.le_succ _) HQ.out.own, HQ.out.below⟩

end Go.Proofs.Ytohkgfmimpockaa.Msg
