/- The law's lives: tests that the document tells, read off the contracts. Conditions: none. -/
import Derived.Test.YtkkjmepncceaoaaChkRun
namespace Go.Proofs.Ytkkjmepncceaoaa.Chk
open Go.ChangeShapes Go.WideShapes Go.ChangeAt Go.RowKit Num By

def row4 (a b c d : Int) : Obj := .cells #[.int .u8 a, .int .u8 b, .int .u8 c, .int .u8 d] 5
def ones6 : Obj := .cells #[.int .u8 1, .int .u8 1, .int .u8 1, .int .u8 1, .int .u8 1, .int .u8 1] 5
def at4 (a b c d : Int) (i : Nat) : Int := match i with
  | 0 => a
  | 1 => b
  | 2 => c
  | 3 => d
  | _ => 0
def one6 (i : Nat) : Int := if i < 6 then 1 else 0
theorem wl_15 {s : Int} (a : 0 ≤ s) (b : s < 4) : wl 15 s = true := by
  have h : s = 0 ∨ s = 1 ∨ s = 2 ∨ s = 3 := by omega
  rcases h with rfl | rfl | rfl | rfl <;> decide
theorem step_yes {s r u : Int} (e : s + 1 = r) (a : 0 ≤ s) (b : s < 3) (h : wl u s = true) : next (go s 0) u false = go r 0 := by
  rw [next_yes a (by omega) (by omega) (by omega) h, decide_eq_false (by omega), e]
theorem step_not {s f r u : Int} (e : f + 1 = r) (a : 0 ≤ s) (b : s < 4) (c : 0 ≤ f) (d : f < 4) (h : wl u s = false) : next (go s f) u false = go s r := by
  rw [next_not a b c (by omega) h, decide_eq_false (by omega), e]
theorem ends4 (a b c d : Int) (ha : wl a 0 = true) (hb : wl b 1 = true) (hc : wl c 2 = true) (hd : wl d 3 = true) : run z0 (at4 a b c d) 4 = done := by
  show next (next (next (next (go 0 0) a false) b false) c false) d false = done
  rw [step_yes (r := 1) rfl (by decide) (by decide) ha, step_yes (r := 2) rfl (by decide) (by decide) hb, step_yes (r := 3) rfl (by decide) (by decide) hc, next_yes (by decide) (by decide) (by decide) (by decide) hd]
  rfl
theorem ends6 : run z0 one6 6 = bad 1 := by
  show next (next (next (next (next (next (go 0 0) 1 false) 1 false) 1 false) 1 false) 1 false) 1 false = bad 1
  rw [step_yes (r := 1) rfl (by decide) (by decide) (by decide), step_not (r := 1) rfl (by decide) (by decide) (by decide) (by decide) (by decide), step_not (r := 2) rfl (by decide) (by decide) (by decide) (by decide) (by decide), step_not (r := 3) rfl (by decide) (by decide) (by decide) (by decide) (by decide), step_not (r := 4) rfl (by decide) (by decide) (by decide) (by decide) (by decide), next_not (by decide) (by decide) (by decide) (by decide) (by decide)]
  rfl
theorem run4 {a b c d : Int} (ha : wl a 0 = true) (hb : wl b 1 = true) (hc : wl c 2 = true) (hd : wl d 3 = true) (hL : Byte (at4 a b c d)) (W : World) (g : Nat) (hg : W.heap[g]? = some (row4 a b c d)) :
    Calls Try.prog 11 #[.agg (ptA z0), .slice (some ⟨g, 0, none⟩) 4 4] W fun e w' => e = .returned (.agg (ptA done)) ∧ Below W.heap.size W w' := by
  have h := runC z0 (some ⟨g, 0, none⟩) 4 4 (at4 a b c d) W (by unfold maxLen; omega) hL (bys_of_block hg rfl)
  rw [ends4 a b c d ha hb hc hd] at h
  exact h
theorem byte4 {a b c d : Int} (ha : 0 ≤ a ∧ a < 256) (hb : 0 ≤ b ∧ b < 256) (hc : 0 ≤ c ∧ c < 256) (hd : 0 ≤ d ∧ d < 256) : Byte (at4 a b c d) := fun i => match i with
  | 0 => ha
  | 1 => hb
  | 2 => hc
  | 3 => hd
  | _ + 4 => ⟨by show (0 : Int) ≤ 0; decide, by show (0 : Int) < 256; decide⟩
theorem live1 (W : World) (g : Nat) (hg : W.heap[g]? = some (row4 15 15 15 15)) : Calls Try.prog 11 #[.agg (ptA z0), .slice (some ⟨g, 0, none⟩) 4 4] W fun e w' => e = .returned (.agg (ptA done)) ∧ Below W.heap.size W w' :=
  run4 (by decide) (by decide) (by decide) (by decide) (byte4 (by decide) (by decide) (by decide) (by decide)) W g hg
theorem live4 (W : World) (g : Nat) (hg : W.heap[g]? = some (row4 15 255 15 31)) : Calls Try.prog 11 #[.agg (ptA z0), .slice (some ⟨g, 0, none⟩) 4 4] W fun e w' => e = .returned (.agg (ptA done)) ∧ Below W.heap.size W w' :=
  run4 (by decide) (by decide) (by decide) (by decide) (byte4 (by decide) (by decide) (by decide) (by decide)) W g hg
theorem live2 (W : World) (g : Nat) (hg : W.heap[g]? = some ones6) : Calls Try.prog 11 #[.agg (ptA z0), .slice (some ⟨g, 0, none⟩) 6 6] W fun e w' => e = .returned (.agg (ptA (bad 1))) ∧ Below W.heap.size W w' := by
  have h := runC z0 (some ⟨g, 0, none⟩) 6 6 one6 W (by unfold maxLen; omega) (fun i => by unfold one6; split <;> decide) (bys_of_block hg rfl)
  rw [ends6] at h
  exact h
theorem live3 (W : World) : Calls Try.prog 9 #[.agg (ptA (bad 1)), .int .u8 15, .int .u8 8] W fun e w' => e = .returned (.agg (ptA z0)) ∧ Below W.heap.size W w' := by
  have h := nextC (bad 1) 15 8 true (by decide) (by decide) (by decide) W
  rw [next_rs] at h
  exact h

/-- What lies in memory behind each of the three. -/
structure Lv1At (w0 : World) (a : Nat) (w : World) : Prop where
  below : Below w0.heap.size w0 w
  ha : Blk w a (ptA done) 23
structure Lv2At (w0 : World) (a b : Nat) (w : World) : Prop where
  below : Below w0.heap.size w0 w
  ha : Blk w a (ptA done) 23
  hb : Blk w b (ptA (bad 1)) 23
structure Lv3At (w0 : World) (a b c : Nat) (w : World) : Prop where
  below : Below w0.heap.size w0 w
  ha : Blk w a (ptA done) 23
  hb : Blk w b (ptA (bad 1)) 23
  hc : Blk w c (ptA z0) 23
theorem lv1_new {w0 w : World} (h : Below w0.heap.size w0 w) : Lv1At w0 w.heap.size (w.alloc (.cells (ptA done) 23)) := ⟨bthen h (allocs _ _), blk_alloc _ _ _⟩
theorem lv1_call {w0 w w1 : World} {a : Nat} (h : Lv1At w0 a w) (k : Below w.heap.size w w1) : Lv1At w0 a w1 := ⟨bthen h.below k, blk_kept h.ha k⟩
theorem lv2_new {w0 w : World} {a : Nat} (h : Lv1At w0 a w) : Lv2At w0 a w.heap.size (w.alloc (.cells (ptA (bad 1)) 23)) := ⟨bthen h.below (allocs _ _), blk_kept h.ha (allocs _ _), blk_alloc _ _ _⟩
theorem lv2_call {w0 w w1 : World} {a b : Nat} (h : Lv2At w0 a b w) (k : Below w.heap.size w w1) : Lv2At w0 a b w1 := ⟨bthen h.below k, blk_kept h.ha k, blk_kept h.hb k⟩
theorem lv3_new {w0 w : World} {a b : Nat} (h : Lv2At w0 a b w) : Lv3At w0 a b w.heap.size (w.alloc (.cells (ptA z0) 23)) := ⟨bthen h.below (allocs _ _), blk_kept h.ha (allocs _ _), blk_kept h.hb (allocs _ _), blk_alloc _ _ _⟩

attribute [local go_sem ↓] ldP_eq
set_option maxRecDepth 100000 in
set_option maxHeartbeats 4000000 in
theorem lives (w : World) : Calls Try.prog 6 #[] w fun e w' => e = .returned (.bool true) ∧ Below w.heap.size w w' := by
  go_enter Try.func6, Try.ntmps6
  go_wp2_with fail
  refine (live1 _ w.heap.size (heap_alloc_new w _)).mono ?_
  rintro e w1 ⟨rfl, bb⟩
  have K1 := Lib.hid (lv1_new (below_alloc bb))
  clear bb
  go_upto_region 2 with (fail)
  generalize hW : World.alloc w1 _ = W1
  have K2 : Hid (Lv1At w w1.heap.size W1) := by rw [← hW]; exact K1.out
  clear hW K1
  generalize w1.heap.size = a at *
  go_wp2_with fail
  refine (live2 _ W1.heap.size (heap_alloc_new W1 _)).mono ?_
  rintro e w2 ⟨rfl, bb⟩
  have K3 := Lib.hid (lv2_new (lv1_call K2.out (below_alloc bb)))
  clear bb K2
  go_upto_region 3 with (fail)
  generalize hW : World.alloc w2 _ = W2
  have K4 : Hid (Lv2At w a w2.heap.size W2) := by rw [← hW]; exact K3.out
  clear hW K3
  generalize w2.heap.size = b at *
  have q := ldP_blk K4.out.hb
  go_wp2_with fail
  clear q
  refine (live3 _).mono ?_
  rintro e w3 ⟨rfl, bb⟩
  have K5 := Lib.hid (lv3_new (lv2_call K4.out bb))
  clear bb K4
  go_upto_region 4 with (fail)
  generalize hW : World.alloc w3 _ = W3
  have K6 : Hid (Lv3At w a b w3.heap.size W3) := by rw [← hW]; exact K5.out
  clear hW K5
  generalize w3.heap.size = c at *
  have a0 := blk_cell K6.out.ha (o := 0) (v := .int .i64 4) rfl
  have a2 := blk_cell K6.out.ha (o := 2) (v := .bool true) rfl
  have b0 := blk_cell K6.out.hb (o := 0) (v := .int .i64 1) rfl
  have b3 := blk_cell K6.out.hb (o := 3) (v := .bool true) rfl
  have q := ldP_blk K6.out.hc
  go_wp2
  go_ret
  exact ⟨rfl, K6.out.below⟩

end Go.Proofs.Ytkkjmepncceaoaa.Chk
