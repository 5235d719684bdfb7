/- The law's lives: levels that the document tells, read off the contract. Conditions: none. -/
import Derived.Test.YtpjekkdidihagaaLadLevel
namespace Go.Proofs.Ytpjekkdidihagaa.Lad
open Go.ChangeShapes Go.WideShapes Go.ChangeAt Go.RowKit Num Pers Vote Equip
open Lanes hiding Blk
attribute [local go_sem ↓] ldR_eq ldS_eq

set_option maxRecDepth 100000 in
set_option maxHeartbeats 4000000 in
theorem allC (w : World) : Calls Try.prog 15 #[] w fun e w' => e = .returned (.agg (stA S3)) ∧ Below w.heap.size w w' := by
  have K0 : Hid (Below w.heap.size w (w.alloc (.cells (stA zS) 24)) ∧ Blk (w.alloc (.cells (stA zS) 24)) w.heap.size (stA zS) 24) := ⟨allocs _ _, blk_alloc _ _ _⟩
  go_enter Try.func15, Try.ntmps15
  go_upto_region 1 with (fail)
  generalize hW : World.alloc w _ = W
  have K1 : Hid (Below w.heap.size w W ∧ Blk W w.heap.size (stA zS) 24) := by rw [← hW]; exact K0.out
  clear hW K0
  go_wp2_with ((with_reducible refine store_st rfl (.tmp 0) (.tmp 2) rfl w.heap.size S3 zS K1.out.2 ?_ ?_ ?_); rfl; rfl)
  refine bodyPost_ret (v := .agg (stA S3)) ?_ rfl ⟨rfl, below_row K1.out.1 (Nat.le_refl _) _⟩
  exact ret_st Try.results15 _ _ w.heap.size S3 rfl (blk_row K1.out.2 _)

/-- The three inventories that the law changes. -/
abbrev Q1 : St := ⟨fun i => if i = 3 then 2 else 3, 3, 2, true, true⟩
abbrev Q2 : St := ⟨fun i => if i = 0 then 1 else 3, 3, 2, true, true⟩
abbrev Q3 : St := ⟨fun _ => 3, 3, 1, true, true⟩
abbrev Q4 : St := ⟨fun _ => 3, 3, 1, true, false⟩
theorem lev3 : lev S3 true = 2 := by decide +kernel
theorem lev0 : lev S3 false = 0 := rfl
theorem lev1 : lev Q1 true = 1 := by decide +kernel
theorem lev2 : lev Q2 true = 0 := by decide +kernel
theorem lev4 : lev Q4 true = 1 := by decide +kernel
theorem liveA (W : World) : Calls Try.prog 7 #[.agg (stA S3), .bool true] W fun e w' => e = .returned (.int .u8 2) ∧ Below W.heap.size W w' := by
  have h := levC S3 true W
  rw [lev3] at h
  exact h
theorem liveB (W : World) : Calls Try.prog 7 #[.agg (stA S3), .bool false] W fun e w' => e = .returned (.int .u8 0) ∧ Below W.heap.size W w' := levC S3 false W
theorem liveC (W : World) : Calls Try.prog 7 #[.agg (stA Q1), .bool true] W fun e w' => e = .returned (.int .u8 1) ∧ Below W.heap.size W w' := by
  have h := levC Q1 true W
  rw [lev1] at h
  exact h
theorem liveD (W : World) : Calls Try.prog 7 #[.agg (stA Q2), .bool true] W fun e w' => e = .returned (.int .u8 0) ∧ Below W.heap.size W w' := by
  have h := levC Q2 true W
  rw [lev2] at h
  exact h
theorem liveE (W : World) : Calls Try.prog 7 #[.agg (stA Q4), .bool true] W fun e w' => e = .returned (.int .u8 1) ∧ Below W.heap.size W w' := by
  have h := levC Q4 true W
  rw [lev4] at h
  exact h

/-- Three inventories, one behind the other. -/
structure L3At (w0 : World) (g : Nat) (A B C : St) (w : World) : Prop where
  below : Below w0.heap.size w0 w
  ha : Blk w g (stA A) 24
  hb : Blk w (g + 1) (stA B) 24
  hc : Blk w (g + 1 + 1) (stA C) 24
  lb : w0.heap.size ≤ g
theorem l3_new {w0 w : World} (b : Below w0.heap.size w0 w) (A B C : St) : L3At w0 w.heap.size A B C (((w.alloc (.cells (stA A) 24)).alloc (.cells (stA B) 24)).alloc (.cells (stA C) 24)) :=
  ⟨below_new (below_new (below_new b _) _) _, blk_kept (blk_kept (blk_alloc w _ _) (allocs _ _)) (allocs _ _), blk_kept (blk_alloc2 w _ _ _) (allocs _ _), blk_alloc3 w _ _ _ _, b.size⟩
theorem l3_call {w0 w w1 : World} {g : Nat} {A B C : St} (h : L3At w0 g A B C w) (b : Below w.heap.size w w1) : L3At w0 g A B C w1 := ⟨bthen h.below b, blk_kept h.ha b, blk_kept h.hb b, blk_kept h.hc b, h.lb⟩
theorem l3_a {w0 w : World} {g o : Nat} {A B C D : St} {v : Value} (h : L3At w0 g A B C w) (e : (stA A).setIfInBounds o v = stA D) : L3At w0 g D B C (w.setCell ⟨g, o, none⟩ v) :=
  ⟨h.below.setCell (p := ⟨g, o, none⟩) h.lb _, by rw [← e]; exact blk_set h.ha _ _, blk_far h.hb _ _ (by omega), blk_far h.hc _ _ (by omega), h.lb⟩
theorem l3_b {w0 w : World} {g o : Nat} {A B C D : St} {v : Value} (h : L3At w0 g A B C w) (e : (stA B).setIfInBounds o v = stA D) : L3At w0 g A D C (w.setCell ⟨g + 1, o, none⟩ v) :=
  ⟨h.below.setCell (p := ⟨g + 1, o, none⟩) (Nat.le_succ_of_le h.lb) _, blk_far h.ha _ _ (by omega), by rw [← e]; exact blk_set h.hb _ _, blk_far h.hc _ _ (by omega), h.lb⟩
theorem l3_c {w0 w : World} {g o : Nat} {A B C D : St} {v : Value} (h : L3At w0 g A B C w) (e : (stA C).setIfInBounds o v = stA D) : L3At w0 g A B D (w.setCell ⟨g + 1 + 1, o, none⟩ v) :=
  ⟨h.below.setCell (p := ⟨g + 1 + 1, o, none⟩) (Nat.le_succ_of_le (Nat.le_succ_of_le h.lb)) _, blk_far h.ha _ _ (by omega), blk_far h.hb _ _ (by omega), by rw [← e]; exact blk_set h.hc _ _, h.lb⟩
theorem l3_sets {w0 w : World} {g : Nat} (h : L3At w0 g S3 S3 S3 w) : L3At w0 g Q1 Q2 Q4 ((((w.setCell ⟨g, 3, none⟩ (.int .i64 2)).setCell ⟨g + 1, 0, none⟩ (.int .i64 1)).setCell ⟨g + 1 + 1, 5, none⟩ (.int .i64 1)).setCell ⟨g + 1 + 1, 7, none⟩ (.bool false)) :=
  l3_c (C := Q3) (l3_c (l3_b (l3_a h rfl) rfl) rfl) rfl

set_option maxRecDepth 100000 in
set_option maxHeartbeats 8000000 in
theorem lives (w : World) : Calls Try.prog 11 #[] w fun e w' => e = .returned (.bool true) ∧ Below w.heap.size w w' := by
  go_enter Try.func11, Try.ntmps11
  go_wp2_with fail
  refine (allC _).mono ?_
  rintro e w1 ⟨rfl, b1⟩
  go_wp2_with fail
  refine (allC _).mono ?_
  rintro e w2 ⟨rfl, b2⟩
  replace b1 := bthen b1 b2
  clear b2
  go_wp2_with fail
  refine (allC _).mono ?_
  rintro e w3 ⟨rfl, b3⟩
  replace b1 := bthen b1 b3
  clear b3
  have K0 := Lib.hid (l3_new b1 S3 S3 S3)
  clear b1
  go_upto_region 2 with (fail)
  generalize hW : World.alloc (World.alloc (World.alloc w3 _) _) _ = W
  have K1 : Hid (L3At w w3.heap.size S3 S3 S3 W) := by rw [← hW]; exact K0.out
  clear hW K0
  generalize w3.heap.size = g at *
  have c0 := blk_cell K1.out.ha (o := 3) (v := .int .i64 3) rfl
  have c1 := blk_cell K1.out.hb (o := 0) (v := .int .i64 3) rfl
  have c2 := blk_cell K1.out.hc (o := 5) (v := .int .i64 2) rfl
  have c3 := blk_cell K1.out.hc (o := 7) (v := .bool true) rfl
  have f0 := blk_free K1.out.ha 3
  have f1 := blk_free K1.out.hb 0
  have f2 := blk_free K1.out.hc 5
  have f3 := blk_free K1.out.hc 7
  have K2 := Lib.hid (l3_sets K1.out)
  go_upto_region 6 with (fail)
  generalize hW : World.setCell (World.setCell (World.setCell (World.setCell W _ _) _ _) _ _) _ _ = W1
  have K3 : Hid (L3At w g Q1 Q2 Q4 W1) := by rw [← hW]; exact K2.out
  clear hW K1 K2 c0 c1 c2 c3 f0 f1 f2 f3
  go_wp2_with fail
  refine (allC _).mono ?_
  rintro e w4 ⟨rfl, bb⟩
  have K4 := Lib.hid (l3_call K3.out bb)
  clear bb K3
  go_wp2_with fail
  refine (liveA _).mono ?_
  rintro e w5 ⟨rfl, bb⟩
  have K5 := Lib.hid (l3_call K4.out bb)
  clear bb K4
  go_wp2_with fail
  refine (allC _).mono ?_
  rintro e w6 ⟨rfl, bb⟩
  have K6 := Lib.hid (l3_call K5.out bb)
  clear bb K5
  go_wp2_with fail
  refine (liveB _).mono ?_
  rintro e w7 ⟨rfl, bb⟩
  have K7 := Lib.hid (l3_call K6.out bb)
  clear bb K6
  have q0 := ldS_blk K7.out.ha
  go_wp2_with fail
  refine (liveC _).mono ?_
  rintro e w8 ⟨rfl, bb⟩
  have K8 := Lib.hid (l3_call K7.out bb)
  clear bb K7 q0
  have q0 := ldS_blk K8.out.hb
  go_wp2_with fail
  refine (liveD _).mono ?_
  rintro e w9 ⟨rfl, bb⟩
  have K9 := Lib.hid (l3_call K8.out bb)
  clear bb K8 q0
  have q0 := ldS_blk K9.out.hc
  go_wp2_with fail
  refine (liveE _).mono ?_
  rintro e wA ⟨rfl, bb⟩
  have KA := Lib.hid (l3_call K9.out bb)
  clear bb K9 q0
  go_wp2
  go_ret
  exact ⟨rfl, KA.out.below⟩

end Go.Proofs.Ytpjekkdidihagaa.Lad
