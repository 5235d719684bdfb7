/- The law's lives: inventories that the document tells, read off the contracts. Conditions: none. -/
import Derived.Test.YtijjanoagimmhaaEquipROf
import Derived.Test.YtijjanoagimmhaaEquipLess
namespace Go.Proofs.Ytijjanoagimmhaa.Equip
open Go.ChangeShapes Go.WideShapes Go.ChangeAt Go.RowKit Num Pers Vote Lanes

abbrev Z : Nat → Nat → Hl := fun _ _ => h0
abbrev S0 : St := ⟨fun _ => 3, 3, 2, true, true⟩
abbrev S1 : St := ⟨fun i => if i = 1 then 2 else 3, 2, 1, false, true⟩
theorem liveA (W : World) : Calls Try.prog 6 #[.agg (h36 Z), .agg #[.bool true, .bool true, .bool true], .int .u8 15] W fun e w' => e = .returned (.agg #[.int .i64 3, .int .i64 3, .int .i64 3, .int .i64 3, .int .i64 3, .int .i64 2, .bool true, .bool true]) ∧ Below W.heap.size W w' := by
  have h := ofC Z (fun _ => true) 15 (by decide) (by decide) W
  rw [show stA (ofS Z (fun _ => true) 15) = #[.int .i64 3, .int .i64 3, .int .i64 3, .int .i64 3, .int .i64 3, .int .i64 2, .bool true, .bool true] from by simp [ofS, ins, sK]] at h
  exact h
theorem liveB (W : World) : Calls Try.prog 6 #[.agg (h36 (outS Z 1 1)), .agg #[.bool true, .bool false, .bool true], .int .u8 9] W fun e w' => e = .returned (.agg #[.int .i64 3, .int .i64 2, .int .i64 3, .int .i64 3, .int .i64 2, .int .i64 1, .bool false, .bool true]) ∧ Below W.heap.size W w' := by
  have h := ofC (outS Z 1 1) (fun i => i != 1) 9 (by decide) (by decide) W
  rw [show stA (ofS (outS Z 1 1) (fun i => i != 1) 9) = #[.int .i64 3, .int .i64 2, .int .i64 3, .int .i64 3, .int .i64 2, .int .i64 1, .bool false, .bool true] from by simp [ofS, ins, sK, outS]] at h
  exact h
theorem liveL (W : World) : Calls Try.prog 8 #[.agg #[.int .i64 3, .int .i64 2, .int .i64 3, .int .i64 3, .int .i64 2, .int .i64 1, .bool false, .bool true]] W fun e w' => e = .returned (.int .i64 2) ∧ Below W.heap.size W w' := leastC S1 W
theorem liveT (W : World) : Calls Try.prog 10 #[.agg #[.int .i64 3, .int .i64 2, .int .i64 3, .int .i64 3, .int .i64 2, .int .i64 1, .bool false, .bool true], .agg #[.int .i64 3, .int .i64 3, .int .i64 3, .int .i64 3, .int .i64 3, .int .i64 2, .bool true, .bool true]] W fun e w' => e = .returned (.bool true) ∧ Below W.heap.size W w' := lessC S1 S0 W
theorem liveF (W : World) : Calls Try.prog 10 #[.agg #[.int .i64 3, .int .i64 3, .int .i64 3, .int .i64 3, .int .i64 3, .int .i64 2, .bool true, .bool true], .agg #[.int .i64 3, .int .i64 2, .int .i64 3, .int .i64 3, .int .i64 2, .int .i64 1, .bool false, .bool true]] W fun e w' => e = .returned (.bool false) ∧ Below W.heap.size W w' := lessC S0 S1 W

/-- What lies in memory behind the first inventory. -/
structure LvAt (w0 : World) (H : Nat → Nat → Hl) (g : Nat) (w : World) : Prop where
  below : Below w0.heap.size w0 w
  hh : Bl.Blk w w0.heap.size (h36 H) 25
  ha : Bl.Blk w g (stA S0) 29
  lb : w0.heap.size < g
theorem lv_new {w0 w : World} {H : Nat → Nat → Hl} (b : Below w0.heap.size w0 w) (k : Bl.Blk w w0.heap.size (h36 H) 25) : LvAt w0 H w.heap.size (w.alloc (.cells (stA S0) 29)) :=
  ⟨bthen b (allocs _ _), blk_kept k (allocs _ _), blk_alloc _ _ _, blk_lt k⟩
theorem lv_call {w0 w w1 : World} {H : Nat → Nat → Hl} {g : Nat} (h : LvAt w0 H g w) (b : Below w.heap.size w w1) : LvAt w0 H g w1 := ⟨bthen h.below b, blk_kept h.hh b, blk_kept h.ha b, h.lb⟩
theorem lv_set {w0 w : World} {H F : Nat → Nat → Hl} {g o : Nat} {v : Value} (h : LvAt w0 H g w) (e : (h36 H).setIfInBounds o v = h36 F) : LvAt w0 F g (w.setCell ⟨w0.heap.size, o, none⟩ v) :=
  have l := h.lb
  ⟨h.below.setCell (p := ⟨w0.heap.size, o, none⟩) (Nat.le_refl _) _, by rw [← e]; exact blk_set h.hh _ _, blk_far h.ha _ _ (by omega), h.lb⟩
/-- And the second one. -/
structure Lv2At (w0 : World) (g k : Nat) (w : World) : Prop where
  below : Below w0.heap.size w0 w
  ha : Bl.Blk w g (stA S0) 29
  hb : Bl.Blk w k (stA S1) 29
theorem lv2_new {w0 w : World} {H : Nat → Nat → Hl} {g : Nat} (h : LvAt w0 H g w) : Lv2At w0 g w.heap.size (w.alloc (.cells (stA S1) 29)) := ⟨bthen h.below (allocs _ _), blk_kept h.ha (allocs _ _), blk_alloc _ _ _⟩
theorem lv2_call {w0 w w1 : World} {g k : Nat} (h : Lv2At w0 g k w) (b : Below w.heap.size w w1) : Lv2At w0 g k w1 := ⟨bthen h.below b, blk_kept h.ha b, blk_kept h.hb b⟩
theorem lv2_a {w0 w : World} {g k : Nat} (h : Lv2At w0 g k w) : w.cell? ⟨g, 0, none⟩ = some (.int .i64 3) ∧ w.cell? ⟨g, 1, none⟩ = some (.int .i64 3) ∧ w.cell? ⟨g, 2, none⟩ = some (.int .i64 3) ∧ w.cell? ⟨g, 3, none⟩ = some (.int .i64 3) ∧ w.cell? ⟨g, 4, none⟩ = some (.int .i64 3) ∧ w.cell? ⟨g, 5, none⟩ = some (.int .i64 2) ∧ w.cell? ⟨g, 6, none⟩ = some (.bool true) ∧ w.cell? ⟨g, 7, none⟩ = some (.bool true) :=
  ⟨blk_cell h.ha (o := 0) rfl, blk_cell h.ha (o := 1) rfl, blk_cell h.ha (o := 2) rfl, blk_cell h.ha (o := 3) rfl, blk_cell h.ha (o := 4) rfl, blk_cell h.ha (o := 5) rfl, blk_cell h.ha (o := 6) rfl, blk_cell h.ha (o := 7) rfl⟩
theorem lv2_b {w0 w : World} {g k : Nat} (h : Lv2At w0 g k w) : w.cell? ⟨k, 0, none⟩ = some (.int .i64 3) ∧ w.cell? ⟨k, 1, none⟩ = some (.int .i64 2) ∧ w.cell? ⟨k, 2, none⟩ = some (.int .i64 3) ∧ w.cell? ⟨k, 3, none⟩ = some (.int .i64 3) ∧ w.cell? ⟨k, 4, none⟩ = some (.int .i64 2) ∧ w.cell? ⟨k, 5, none⟩ = some (.int .i64 1) ∧ w.cell? ⟨k, 6, none⟩ = some (.bool false) ∧ w.cell? ⟨k, 7, none⟩ = some (.bool true) :=
  ⟨blk_cell h.hb (o := 0) rfl, blk_cell h.hb (o := 1) rfl, blk_cell h.hb (o := 2) rfl, blk_cell h.hb (o := 3) rfl, blk_cell h.hb (o := 4) rfl, blk_cell h.hb (o := 5) rfl, blk_cell h.hb (o := 6) rfl, blk_cell h.hb (o := 7) rfl⟩

set_option maxRecDepth 100000 in
set_option maxHeartbeats 4000000 in
theorem lives (w : World) : Calls Try.prog 12 #[] w fun e w' => e = .returned (.bool true) ∧ Below w.heap.size w w' := by
  have K0 : Hid (Below w.heap.size w (w.alloc (.cells (h36 Z) 25)) ∧ Bl.Blk (w.alloc (.cells (h36 Z) 25)) w.heap.size (h36 Z) 25) := ⟨allocs _ _, blk_alloc _ _ _⟩
  go_enter Try.func12, Try.ntmps12
  go_upto_region 2 with (fail)
  generalize hW : World.alloc w _ = W
  have K1 : Hid (Below w.heap.size w W ∧ Bl.Blk W w.heap.size (h36 Z) 25) := by rw [← hW]; exact K0.out
  clear hW K0
  go_wp2_with ((with_reducible refine load_36 rfl (.tmp 1) rfl w.heap.size Z K1.out.2 ?_ ?_); rfl)
  refine (liveA _).mono ?_
  rintro e w1 ⟨rfl, b1⟩
  have K3 := Lib.hid (lv_new (bthen K1.out.1 b1) (blk_kept K1.out.2 b1))
  clear b1 K1
  go_upto_region 3 with (fail)
  generalize hW : World.alloc w1 _ = W1
  have K4 : Hid (LvAt w Z w1.heap.size W1) := by rw [← hW]; exact K3.out
  clear hW K3
  generalize w1.heap.size = g at *
  have f0 := blk_free K4.out.hh 13
  have c0 := blk_cell K4.out.hh (o := 13) (v := .bool false) rfl
  have K5 := Lib.hid (lv_set (o := 13) K4.out (h36_out Z 1 1 (by decide) (by decide)))
  clear K4
  go_upto_region 4 with (fail)
  generalize hW : World.setCell W1 _ _ = W2
  have K6 : Hid (LvAt w (outS Z 1 1) g W2) := by rw [← hW]; exact K5.out
  clear hW K5 f0 c0
  go_wp2_with ((with_reducible refine load_36 rfl (.tmp 1) rfl w.heap.size (outS Z 1 1) K6.out.hh ?_ ?_); rfl)
  refine (liveB _).mono ?_
  rintro e w3 ⟨rfl, b1⟩
  have K7 := Lib.hid (lv2_new (lv_call K6.out b1))
  clear b1 K6
  go_upto_region 5 with (fail)
  generalize hW : World.alloc w3 _ = W3
  have K8 : Hid (Lv2At w g w3.heap.size W3) := by rw [← hW]; exact K7.out
  clear hW K7
  generalize w3.heap.size = k at *
  obtain ⟨a0, a1, a2, a3, a4, a5, a6, a7⟩ := lv2_a K8.out
  obtain ⟨b0, b1, b2, b3, b4, b5, b6, b7⟩ := lv2_b K8.out
  go_wp2_with fail
  clear a0 a1 a2 a3 a4 a5 a6 a7 b0 b1 b2 b3 b4 b5 b6 b7
  refine (liveL _).mono ?_
  rintro e w4 ⟨rfl, bb⟩
  have K9 := Lib.hid (lv2_call K8.out bb)
  clear bb K8
  obtain ⟨a0, a1, a2, a3, a4, a5, a6, a7⟩ := lv2_a K9.out
  obtain ⟨b0, b1, b2, b3, b4, b5, b6, b7⟩ := lv2_b K9.out
  go_wp2_with fail
  clear a0 a1 a2 a3 a4 a5 a6 a7 b0 b1 b2 b3 b4 b5 b6 b7
  refine (liveT _).mono ?_
  rintro e w5 ⟨rfl, bb⟩
  have KA := Lib.hid (lv2_call K9.out bb)
  clear bb K9
  obtain ⟨a0, a1, a2, a3, a4, a5, a6, a7⟩ := lv2_a KA.out
  obtain ⟨b0, b1, b2, b3, b4, b5, b6, b7⟩ := lv2_b KA.out
  go_wp2_with fail
  clear a0 a1 a2 a3 a4 a5 a6 a7 b0 b1 b2 b3 b4 b5 b6 b7
  refine (liveF _).mono ?_
  rintro e w6 ⟨rfl, bb⟩
  have KB := Lib.hid (lv2_call KA.out bb)
  clear bb KA
  go_wp2
  go_ret
  exact ⟨rfl, KB.out.below⟩

end Go.Proofs.Ytijjanoagimmhaa.Equip
