/- EquipOrder: less is an order. Conditions: none. -/
import Derived.Test.YtijjanoagimmhaaEquipLives
namespace Go.Proofs.Ytijjanoagimmhaa.Equip
open Go.ChangeShapes Go.WideShapes Go.ChangeAt Go.RowKit Num Pers Vote Lanes

theorem st_cells {w : World} {g : Nat} {S : St} (h : Blk w g (stA S) 29) : w.cell? ⟨g, 0, none⟩ = some (.int .i64 (S.s 0)) ∧ w.cell? ⟨g, 1, none⟩ = some (.int .i64 (S.s 1)) ∧ w.cell? ⟨g, 2, none⟩ = some (.int .i64 (S.s 2)) ∧ w.cell? ⟨g, 3, none⟩ = some (.int .i64 (S.s 3)) ∧ w.cell? ⟨g, 4, none⟩ = some (.int .i64 S.l) ∧ w.cell? ⟨g, 5, none⟩ = some (.int .i64 S.y) ∧ w.cell? ⟨g, 6, none⟩ = some (.bool S.r) ∧ w.cell? ⟨g, 7, none⟩ = some (.bool S.t) :=
  ⟨blk_cell h (o := 0) rfl, blk_cell h (o := 1) rfl, blk_cell h (o := 2) rfl, blk_cell h (o := 3) rfl, blk_cell h (o := 4) rfl, blk_cell h (o := 5) rfl, blk_cell h (o := 6) rfl, blk_cell h (o := 7) rfl⟩
/-- Three inventories that the law boxes. -/
structure ThreeAt (w0 : World) (A B C : St) (w : World) : Prop where
  below : Below w0.heap.size w0 w
  ha : Blk w w0.heap.size (stA A) 29
  hb : Blk w (w0.heap.size + 1) (stA B) 29
  hc : Blk w (w0.heap.size + 1 + 1) (stA C) 29
theorem three_box (w : World) (A B C : St) : ThreeAt w A B C (((w.alloc (.cells (stA A) 29)).alloc (.cells (stA B) 29)).alloc (.cells (stA C) 29)) :=
  ⟨below_new (below_new (allocs w _) _) _, blk_kept (blk_kept (blk_alloc w _ _) (allocs _ _)) (allocs _ _), blk_kept (blk_alloc2 w _ _ _) (allocs _ _), blk_alloc3 w _ _ _ _⟩
theorem three_call {w0 w w1 : World} {A B C : St} (h : ThreeAt w0 A B C w) (b : Below w.heap.size w w1) : ThreeAt w0 A B C w1 := ⟨bthen h.below b, blk_kept h.ha b, blk_kept h.hb b, blk_kept h.hc b⟩

set_option maxRecDepth 100000 in
set_option maxHeartbeats 8000000 in
theorem orderC (A B C : St) (w : World) :
    Calls Try.prog 5 #[.agg (stA A), .agg (stA B), .agg (stA C)] w fun e w' => e = .returned (.bool true) ∧ Below w.heap.size w w' := by
  have K0 := Lib.hid (three_box w A B C)
  go_enter Try.func5, Try.ntmps5
  go_upto_region 1 with (fail)
  generalize World.alloc (World.alloc (World.alloc w _) _) _ = W at *
  obtain ⟨a0, a1, a2, a3, a4, a5, a6, a7⟩ := st_cells K0.out.ha
  go_wp2_with fail
  clear a0 a1 a2 a3 a4 a5 a6 a7
  refine (lessC A A _).mono ?_
  rintro e w1 ⟨rfl, bb⟩
  have K1 := Lib.hid (three_call K0.out bb)
  clear bb K0
  rw [less_self A]
  obtain ⟨a0, a1, a2, a3, a4, a5, a6, a7⟩ := st_cells K1.out.ha
  obtain ⟨b0, b1, b2, b3, b4, b5, b6, b7⟩ := st_cells K1.out.hb
  go_wp2_with fail
  clear a0 a1 a2 a3 a4 a5 a6 a7 b0 b1 b2 b3 b4 b5 b6 b7
  refine (lessC A B _).mono ?_
  rintro e w2 ⟨rfl, bb⟩
  have K2 := Lib.hid (three_call K1.out bb)
  clear bb K1
  cases hF : less A B
  · have HF := Lib.hid hF
    clear hF
    obtain ⟨a0, a1, a2, a3, a4, a5, a6, a7⟩ := st_cells K2.out.ha
    obtain ⟨b0, b1, b2, b3, b4, b5, b6, b7⟩ := st_cells K2.out.hb
    go_wp2_with fail
    clear a0 a1 a2 a3 a4 a5 a6 a7 b0 b1 b2 b3 b4 b5 b6 b7
    refine (lessC A B _).mono ?_
    rintro e w3 ⟨rfl, bb⟩
    have K3 := Lib.hid (three_call K2.out bb)
    clear bb K2
    rw [HF.out]
    go_wp2_with fail
    refine (lives _).mono ?_
    rintro e w4 ⟨rfl, bb⟩
    have K4 := Lib.hid (three_call K3.out bb)
    clear bb K3
    go_wp2
    go_ret
    exact ⟨rfl, K4.out.below⟩
  · have HF := Lib.hid hF
    have HG := Lib.hid (less_anti hF)
    obtain ⟨a0, a1, a2, a3, a4, a5, a6, a7⟩ := st_cells K2.out.ha
    obtain ⟨b0, b1, b2, b3, b4, b5, b6, b7⟩ := st_cells K2.out.hb
    go_wp2_with fail
    clear a0 a1 a2 a3 a4 a5 a6 a7 b0 b1 b2 b3 b4 b5 b6 b7
    refine (lessC B A _).mono ?_
    rintro e w3 ⟨rfl, bb⟩
    have K3 := Lib.hid (three_call K2.out bb)
    clear bb K2
    rw [HG.out]
    clear HG
    obtain ⟨a0, a1, a2, a3, a4, a5, a6, a7⟩ := st_cells K3.out.ha
    obtain ⟨b0, b1, b2, b3, b4, b5, b6, b7⟩ := st_cells K3.out.hb
    go_wp2_with fail
    clear a0 a1 a2 a3 a4 a5 a6 a7 b0 b1 b2 b3 b4 b5 b6 b7
    refine (lessC A B _).mono ?_
    rintro e w4 ⟨rfl, bb⟩
    have K4 := Lib.hid (three_call K3.out bb)
    clear bb K3
    rw [HF.out]
    obtain ⟨b0, b1, b2, b3, b4, b5, b6, b7⟩ := st_cells K4.out.hb
    obtain ⟨c0, c1, c2, c3, c4, c5, c6, c7⟩ := st_cells K4.out.hc
    go_wp2_with fail
    clear b0 b1 b2 b3 b4 b5 b6 b7 c0 c1 c2 c3 c4 c5 c6 c7
    refine (lessC B C _).mono ?_
    rintro e w5 ⟨rfl, bb⟩
    have K5 := Lib.hid (three_call K4.out bb)
    clear bb K4
    cases hG : less B C
    · clear hF hG HF
      go_wp2_with fail
      refine (lives _).mono ?_
      rintro e w6 ⟨rfl, bb⟩
      have K6 := Lib.hid (three_call K5.out bb)
      clear bb K5
      go_wp2
      go_ret
      exact ⟨rfl, K6.out.below⟩
    · have HC := Lib.hid (less_trans hF hG)
      clear hF hG HF
      obtain ⟨a0, a1, a2, a3, a4, a5, a6, a7⟩ := st_cells K5.out.ha
      obtain ⟨c0, c1, c2, c3, c4, c5, c6, c7⟩ := st_cells K5.out.hc
      go_wp2_with fail
      clear a0 a1 a2 a3 a4 a5 a6 a7 c0 c1 c2 c3 c4 c5 c6 c7
      refine (lessC A C _).mono ?_
      rintro e w6 ⟨rfl, bb⟩
      have K6 := Lib.hid (three_call K5.out bb)
      clear bb K5
      rw [HC.out]
      go_wp2_with fail
      refine (lives _).mono ?_
      rintro e w7 ⟨rfl, bb⟩
      have K7 := Lib.hid (three_call K6.out bb)
      clear bb K6
      go_wp2
      go_ret
      exact ⟨rfl, K7.out.below⟩

end Go.Proofs.Ytijjanoagimmhaa.Equip
