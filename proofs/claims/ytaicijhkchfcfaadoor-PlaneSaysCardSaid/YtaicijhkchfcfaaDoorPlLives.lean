/- The law's lives; '==' of aeroplanes, of what the air does, of what is said. Conditions: the tables of bounds lie there. -/
import Derived.Test.YtaicijhkchfcfaaDoorPlSays
import Derived.Test.YtaicijhkchfcfaaDoorArrEq
namespace Go.Proofs.YtaicijhkchfcfaaDoor.Pl
open Go.ChangeShapes Go.WideShapes Go.ChangeAt Go.RowKit Num Mem

set_option maxRecDepth 100000 in
set_option maxHeartbeats 2000000 in
theorem eqW (f : Nat → Nat → Int) (w : World) : (Go.binOp .eql 27 (.agg (wA f)) (.agg (wA f))).run Tryd.prog w = .ok (.bool true) w := by
  go_simp
  try simp

set_option maxRecDepth 100000 in
set_option maxHeartbeats 2000000 in
theorem eqG (q : Nat → Int) (w : World) : (Go.binOp .eql 29 (.agg (gA q)) (.agg (gA q))).run Tryd.prog w = .ok (.bool true) w := by
  go_simp
  try simp

/-- These blocks are there, and below the first world's end nothing has turned. -/
def Has (w0 : World) (L : List (Nat × Array Value × TypeId)) (w : World) : Prop := Below w0.heap.size w0 w ∧ ∀ x ∈ L, Blk w x.1 x.2.1 x.2.2
theorem has_none (w : World) : Has w [] w := ⟨Below.refl _ _, fun x h => by cases h⟩
theorem has_call {w0 w w1 : World} {L : List (Nat × Array Value × TypeId)} (h : Has w0 L w) (b : Below w.heap.size w w1) : Has w0 L w1 := ⟨bthen h.1 b, fun x hx => blk_kept (h.2 x hx) b⟩
theorem has_put {w0 w : World} {L : List (Nat × Array Value × TypeId)} (h : Has w0 L w) (zs us : Array Value) (T : TypeId) : Has w0 ((w.heap.size, us, T) :: L) ((w.alloc (.cells zs T)).setRow w.heap.size us) :=
  ⟨below_row (below_new h.1 _) h.1.size _, fun x hx => by
    rcases List.mem_cons.1 hx with rfl | hx
    · exact blk_row (blk_alloc w _ _) _
    · have k := h.2 x hx
      exact blk_row_far (blk_kept k (allocs _ _)) (Nat.ne_of_lt (blk_lt k)) _⟩

/-- Three numbers, by place. -/
abbrev of3 (a b c : Int) : Nat → Int
  | 0 => a
  | 1 => b
  | _ => c
theorem in3 {a b c : Int} (h : In a ∧ In b ∧ In c) : InC (of3 a b c) := fun k hk => match k, hk with
  | 0, _ => h.1
  | 1, _ => h.2.1
  | 2, _ => h.2.2
theorem zero_In : In 0 := ⟨by decide, by decide⟩
abbrev lvP : Pt := ⟨1000, 5, 30, 0, false, 0⟩
abbrev lvQ : Pt := ⟨0, 0, 10, 0, false, 0⟩
abbrev lvR : Pt := ⟨400, 5, 30, 0, false, 0⟩
abbrev lvU : Nat → Int := fun j => if j = 2 then 9 else 0
theorem lvA (w : World) (T : TbAt w) : Calls Tryd.prog 7 #[.agg (ptA lvP), .agg #[.int .i64 (-2), .int .i64 18, .int .i64 0], .agg (gA zG)] w fun e w' => e = .returned (.agg (ptA ⟨640, 3, 12, 0, false, 0⟩)) ∧ Below w.heap.size w w' := by
  have h := stepC lvP (of3 (-2) 18 0) zG ⟨⟨by decide, by decide⟩, ⟨by decide, by decide⟩, ⟨by decide, by decide⟩, zero_In, zero_In⟩ (in3 ⟨⟨by decide, by decide⟩, ⟨by decide, by decide⟩, zero_In⟩) (fun _ _ => zero_In) w T
  rw [show nx lvP (of3 (-2) 18 0) (ofq zG) = ⟨640, 3, 12, 0, false, 0⟩ by kernel_rfl] at h
  exact h
theorem lvB (w : World) (T : TbAt w) : Calls Tryd.prog 7 #[.agg (ptA lvQ), .agg #[.int .i64 0, .int .i64 18, .int .i64 0], .agg #[.int .i64 0, .int .i64 0, .int .i64 9, .int .i64 0, .int .i64 0, .int .i64 0, .int .i64 0, .int .i64 0, .int .i64 0, .int .i64 0, .int .i64 0, .int .i64 0, .int .i64 0, .int .i64 0, .int .i64 0, .int .i64 0]] w fun e w' => e = .returned (.agg (ptA ⟨-360, 0, 0, 0, true, 19⟩)) ∧ Below w.heap.size w w' := by
  have h := stepC lvQ (of3 0 18 0) lvU ⟨zero_In, zero_In, ⟨by decide, by decide⟩, zero_In, zero_In⟩ (in3 ⟨zero_In, ⟨by decide, by decide⟩, zero_In⟩) (fun j _ => by unfold lvU; split <;> exact ⟨by decide, by decide⟩) w T
  rw [show nx lvQ (of3 0 18 0) (ofq lvU) = ⟨-360, 0, 0, 0, true, 19⟩ by kernel_rfl] at h
  exact h
theorem lvS (w : World) (T : TbAt w) : Calls Tryd.prog 9 #[.agg (ptA lvR), .agg (gA zG)] w fun e w' => e = .returned (.agg (wA (sayq lvR zG))) ∧ Below w.heap.size w w' :=
  saysC lvR zG ⟨⟨by decide, by decide⟩, ⟨by decide, by decide⟩, ⟨by decide, by decide⟩, zero_In, zero_In⟩ (fun _ _ => zero_In) w T
theorem lvN (w : World) : Calls Tryd.prog 11 #[.int .i64 399] w fun e w' => e = .returned (.int .i64 19) ∧ w = w' := beamC 399 ⟨by decide, by decide⟩ w
theorem lv_0 : sayq lvR zG 0 0 = 5 := by kernel_rfl
theorem lv_1 : sayq lvR zG 1 0 = 10 := by kernel_rfl

section
attribute [local go_sem ↓] stP_eq stW_eq
set_option maxRecDepth 100000 in
set_option maxHeartbeats 4000000 in
theorem lives (w : World) (T : TbAt w) : Calls Tryd.prog 15 #[] w fun e w' => e = .returned (.bool true) ∧ Below w.heap.size w w' := by
  have HT := Lib.hid T
  clear T
  have K0 := Lib.hid (has_none w)
  have LS := Lib.hid lvS
  have E0 := Lib.hid lv_0
  have E1 := Lib.hid lv_1
  generalize sayq lvR zG = f at *
  go_enter Tryd.func15, Tryd.ntmps15
  go_wp2_with fail
  refine (lvA _ HT.out).mono ?_
  rintro e w1 ⟨rfl, b1⟩
  have K1 := Lib.hid (has_call K0.out b1)
  have K2 := Lib.hid (has_put K1.out (ptA zP) (ptA ⟨640, 3, 12, 0, false, 0⟩) 23)
  have s1 := stP_blk (us := ptA zP) rfl ⟨640, 3, 12, 0, false, 0⟩ (blk_alloc w1 _ 23)
  clear b1
  go_upto_region 2 with (fail)
  clear s1 K1 K0
  generalize w1.heap.size = g1 at *
  generalize World.setRow _ _ _ = W1 at *
  go_wp2_with fail
  refine (lvB _ (tb_kept HT.out K2.out.1)).mono ?_
  rintro e w2 ⟨rfl, b2⟩
  have K3 := Lib.hid (has_call K2.out b2)
  have K4 := Lib.hid (has_put K3.out (ptA zP) (ptA ⟨-360, 0, 0, 0, true, 19⟩) 23)
  have s1 := stP_blk (us := ptA zP) rfl ⟨-360, 0, 0, 0, true, 19⟩ (blk_alloc w2 _ 23)
  clear b2
  go_upto_region 3 with (fail)
  clear s1 K2 K3
  generalize w2.heap.size = g2 at *
  generalize World.setRow _ _ _ = W2 at *
  go_wp2_with fail
  refine (LS.out _ (tb_kept HT.out K4.out.1)).mono ?_
  rintro e w3 ⟨rfl, b3⟩
  have K5 := Lib.hid (has_call K4.out b3)
  have K6 := Lib.hid (has_put K5.out (wA zF) (wA f) 27)
  have s1 := stW_blk (us := wA zF) rfl f (blk_alloc w3 _ 27)
  clear b3
  go_upto_region 4 with (fail)
  clear s1 K4 K5
  generalize w3.heap.size = g3 at *
  generalize World.setRow _ _ _ = W3 at *
  have h1 : Blk W3 g1 (ptA ⟨640, 3, 12, 0, false, 0⟩) 23 := K6.out.2 (g1, ptA ⟨640, 3, 12, 0, false, 0⟩, 23) (by simp)
  have h2 : Blk W3 g2 (ptA ⟨-360, 0, 0, 0, true, 19⟩) 23 := K6.out.2 (g2, ptA ⟨-360, 0, 0, 0, true, 19⟩, 23) (by simp)
  have h3 : Blk W3 g3 (wA f) 27 := K6.out.2 (g3, wA f, 27) (by simp)
  have a0 := blk_cell h1 (o := 0) (v := .int .i64 640) rfl
  have a1 := blk_cell h1 (o := 1) (v := .int .i64 3) rfl
  have a2 := blk_cell h1 (o := 2) (v := .int .i64 12) rfl
  have a4 := blk_cell h1 (o := 4) (v := .bool false) rfl
  have d2 := blk_cell h2 (o := 2) (v := .int .i64 0) rfl
  have d4 := blk_cell h2 (o := 4) (v := .bool true) rfl
  have d5 := blk_cell h2 (o := 5) (v := .int .i64 19) rfl
  have f0 : W3.cell? ⟨g3, 0, none⟩ = some (.int .i64 5) := by rw [← E0.out]; exact blk_cell h3 rfl
  have f1 : W3.cell? ⟨g3, 3, none⟩ = some (.int .i64 10) := by rw [← E1.out]; exact blk_cell h3 rfl
  clear h1 h2 h3
  go_wp2_with fail
  refine (lvN _).mono ?_
  rintro e w4 ⟨rfl, rfl⟩
  go_wp2
  go_ret
  exact ⟨rfl, K6.out.1⟩
end

end Go.Proofs.YtaicijhkchfcfaaDoor.Pl
