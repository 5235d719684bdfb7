/- persist.Run ranges over a function of persist's own, frame by frame. Contracts of persist.healths and of Run. Conditions: none. -/
import Derived.Test.YthdldifilehlpaaPersNext
import Derived.RangeFuncGives
import Derived.RangeFuncBound
import Derived.RangeFuncCalls
import Derived.RangeFuncLeaves
import Derived.OwnWalkIn
import Derived.TacticsInMore
import Derived.RegionIn
import Derived.LoopNIn
import Derived.LoopIn
import Derived.Shelf.AbstractIn
import Derived.Shelf.SlIter.Collect
namespace Go.Proofs.Ythdldifilehlpaa.Pers
open Go.ChangeShapes Go.WideShapes Go.ChangeAt Go.RowKit Num Bl

/-- The rounds of Run's loop: what a round assigns, what it does. -/
def ruAssign : Code := .region 2 #[{ dst := some 7, op := .alloc 23, type := 0, pos := "persist.go:53", after := #[], guard := none },
  { dst := none, op := .store 23 (.tmp 7) (.tmp 12), type := 0, pos := "persist.go:53", after := #[{ on := 0, ground := .data }, { on := 0, ground := .phase }], guard := none }] false
def ruBody : Code := .block 1 (.region 3 #[{ dst := some 13, op := .load 23 (.tmp 7), type := 23, pos := "persist.go:54", after := #[], guard := none },
  { dst := none, op := .store 23 (.tmp 3) (.tmp 13), type := 0, pos := "persist.go:54", after := #[{ on := 0, ground := .data }, { on := 0, ground := .phase }], guard := none }] false)
/-- Run's slots where it ranges. -/
def ruTmps (n0 : Nat) (s : Hl) (A : Option Addr) (n c : Nat) (k : Bool) (x : Value) : Array Value :=
  #[hv s, .slice A n c, .bool k, .pointer (some ⟨n0, 0, none⟩), undef, undef, .pointer (some ⟨n0 + 1, 0, none⟩), undef, hv s, .slice A n c, .bool k,
    .func (.func 18) #[] #[.pointer (some ⟨n0 + 2, 0, none⟩), .pointer (some ⟨n0 + 3, 0, none⟩), .pointer (some ⟨n0 + 4, 0, none⟩)], x, undef, undef]
def ruRec (fn : FuncId) (n0 : Nat) (s : Hl) (A : Option Addr) (n c : Nat) (k : Bool) (st : LoopState) : Loop :=
  { state := st, pending := none, fn, tmps := ruTmps n0 s A n c k undef, params := #[12], assign := ruAssign, body := ruBody, defers := n0 + 5 }

/-- Between two rounds, behind j frames. -/
structure RunAt (w0 : World) (fn : FuncId) (s : Hl) (A : Option Addr) (n c : Nat) (k : Bool) (x : Hl) (W : World) : Prop where
  box : Blk W w0.heap.size (hc x) 23
  res : Blk W (w0.heap.size + 1) #[.int .i64 0, .bool false, .int .i64 0] 23
  b2 : Blk W (w0.heap.size + 2) (hc s) 23
  b3 : Blk W (w0.heap.size + 3) #[.slice A n c] 24
  b4 : Blk W (w0.heap.size + 4) #[.bool k] 4
  K : W.heap[w0.heap.size + 5]? = some (.deferred (some []))
  L : W.heap[w0.heap.size + 6]? = some (.loop (ruRec fn w0.heap.size s A n c k .ready))
  below : Below w0.heap.size w0 W

theorem RunAt.kept {w0 : World} {fn : FuncId} {s : Hl} {A : Option Addr} {n c : Nat} {k : Bool} {x : Hl} {W W' : World} (h : RunAt w0 fn s A n c k x W) (hb : Below (w0.heap.size + 7) W W') : RunAt w0 fn s A n c k x W' :=
  ⟨(hb.block _ (by omega)).trans h.box, (hb.block _ (by omega)).trans h.res, (hb.block _ (by omega)).trans h.b2, (hb.block _ (by omega)).trans h.b3, (hb.block _ (by omega)).trans h.b4,
    (hb.block _ (by omega)).trans h.K, (hb.block _ (by omega)).trans h.L, h.below.trans (hb.mono (by omega))⟩

set_option maxRecDepth 100000 in
set_option maxHeartbeats 2000000 in
/-- One round: h is what has come. Block m, behind the loop's, stays as it is. -/
theorem ruRound (w0 : World) (fn : FuncId) (s : Hl) (A : Option Addr) (n c : Nat) (k : Bool) (x y : Hl) (m : Nat) (us : Array Value) (T : TypeId) (hm : w0.heap.size + 7 ≤ m) (d : Nat) (W : World) (h : RunAt w0 fn s A n c k x W) (hk : Blk W m us T) :
    YieldAt Fence.wide d Try.prog (w0.heap.size + 6) #[hv y] W fun e W' => e = .returned (.bool true) ∧ RunAt w0 fn s A n c k y W' ∧ Blk W' m us T := by
  refine ⟨fn, ruTmps w0.heap.size s A n c k (hv y), ruAssign, ruBody, by simpa [ruRec, ruTmps] using run_yield (P := Try.prog) (args := #[hv y]) h.L rfl, roundIn_of_wpIn trivial ?_⟩
  obtain ⟨W1, hW1⟩ : ∃ W1, W.alloc (.cells #[.int .i64 y.b, .bool y.o, .int .i64 y.g] 23) = W1 := ⟨_, rfl⟩
  have hlt : w0.heap.size + 6 < W.heap.size := (Array.getElem?_eq_some_iff.1 h.L).1
  have hb1 : Below W.heap.size W W1 := by rw [← hW1]; exact (Below.refl _ W).alloc (Nat.le_refl _) _
  have h1 : RunAt w0 fn s A n c k x W1 := h.kept (hb1.mono (by omega))
  have hk1 : Blk W1 m us T := blk_kept hk hb1
  have hy1 : Blk W1 W.heap.size (hc y) 23 := by rw [← hW1]; exact blk_alloc W _ _
  have hbr := run_beginRound (P := Try.prog) h1.L rfl
  obtain ⟨W2, hW2⟩ : ∃ W2, W1.putObj (w0.heap.size + 6) (.loop { ruRec fn w0.heap.size s A n c k .ready with state := .busy }) = W2 := ⟨_, rfl⟩
  rw [hW2] at hbr
  have hfar : ∀ j, j ≠ w0.heap.size + 6 → W2.heap[j]? = W1.heap[j]? := fun j hj => by rw [← hW2]; exact World.putObj_heap_other hj
  have hL2 : W2.heap[w0.heap.size + 6]? = some (.loop { ruRec fn w0.heap.size s A n c k .ready with state := .busy }) := by
    rw [← hW2]; exact World.putObj_heap_same (Nat.lt_of_lt_of_le hlt hb1.size)
  have hbx : Blk W2 w0.heap.size (hc x) 23 := (hfar _ (by omega)).trans h1.box
  have hby : Blk W2 W.heap.size (hc y) 23 := (hfar _ (by omega)).trans hy1
  have hb2 : Below w0.heap.size w0 W2 := by rw [← hW2]; exact h1.below.grown (grownBy_putObj_a _ _ _) h1.below.size (fun k e => by cases e; omega)
  have y0 := blk_cell hby (o := 0) (v := .int .i64 y.b) rfl
  have y1 := blk_cell hby (o := 1) (v := .bool y.o) rfl
  have y2 := blk_cell hby (o := 2) (v := .int .i64 y.g) rfl
  have x0 := blk_cell hbx (o := 0) (v := .int .i64 x.b) rfl
  have x1 := blk_cell hbx (o := 1) (v := .bool x.o) rfl
  have x2 := blk_cell hbx (o := 2) (v := .int .i64 x.g) rfl
  have f0 := blk_free hbx 0
  have f1 := blk_free hbx 1
  have f2 := blk_free hbx 2
  unfold ruTmps ruAssign
  gi_wp2_with (rw [Oper.semAt_eq _ _ _ (fun c h => by cases h)]; go_simp; try go_bits)
  clear hbr hW1
  unfold ruBody
  gi_wp2_with (rw [Oper.semAt_eq _ _ _ (fun c h => by cases h)]; go_simp; try go_bits)
  obtain ⟨W3, hW3⟩ : ∃ W3, ((W2.setCell ⟨w0.heap.size, 0, none⟩ (.int .i64 y.b)).setCell ⟨w0.heap.size, 1, none⟩ (.bool y.o)).setCell ⟨w0.heap.size, 2, none⟩ (.int .i64 y.g) = W3 := ⟨_, rfl⟩
  have hb3 : Below w0.heap.size w0 W3 := by rw [← hW3]; exact below_put hb2 (Nat.le_refl _) _ _ _
  have hB3 : Blk W3 w0.heap.size (hc y) 23 := by rw [← hW3]; exact blk_put hbx _ _ _
  have hf3 : ∀ j, j ≠ w0.heap.size → W3.heap[j]? = W2.heap[j]? := fun j hj => by
    rw [← hW3]
    exact (Below.heap_setCell _ ⟨w0.heap.size, 2, none⟩ _ j hj).trans ((Below.heap_setCell _ ⟨w0.heap.size, 1, none⟩ _ j hj).trans (Below.heap_setCell _ ⟨w0.heap.size, 0, none⟩ _ j hj))
  rw [hW3]
  have hL3 : W3.heap[w0.heap.size + 6]? = some (.loop { ruRec fn w0.heap.size s A n c k .ready with state := .busy }) := (hf3 _ (by omega)).trans hL2
  have hq : ∀ j o, j ≠ w0.heap.size → j ≠ w0.heap.size + 6 → W1.heap[j]? = some o → (W3.putObj (w0.heap.size + 6) (.loop (ruRec fn w0.heap.size s A n c k .ready))).heap[j]? = some o := fun j o h1 h2 ho =>
    (World.putObj_heap_other h2).trans ((hf3 j h1).trans ((hfar j h2).trans ho))
  clear hW3 hW2
  refine ⟨_, _, run_endRound none hL3, rfl, ⟨(World.putObj_heap_other (by omega)).trans hB3, hq _ _ (by omega) (by omega) h1.res, hq _ _ (by omega) (by omega) h1.b2, hq _ _ (by omega) (by omega) h1.b3, hq _ _ (by omega) (by omega) h1.b4,
    hq _ _ (by omega) (by omega) h1.K, World.putObj_heap_same (Array.getElem?_eq_some_iff.1 hL3).1, hb3.grown (grownBy_putObj_a _ _ _) hb3.size (fun k e => by cases e; omega)⟩, hq _ _ (by omega) (by omega) hk1⟩

set_option maxRecDepth 100000 in
set_option maxHeartbeats 2000000 in
/-- The function that Run ranges over, at Run's own rounds: all frames, one behind the other. -/
theorem iterC (w0 : World) (fn : FuncId) (s : Hl) (A : Option Addr) (n c : Nat) (k : Bool) (L : Nat → Bool) (hn : n ≤ maxLen) (hP : Bls w0 w0.heap.size A n L) (d : Nat) (hd : 1 ≤ d) (W : World) (hW : W.heap.size = w0.heap.size + 7) (h : RunAt w0 fn s A n c k s W) :
    CallsIn Fence.wide d Try.prog 18 #[.func (.yield (w0.heap.size + 6)) #[] #[], .pointer (some ⟨w0.heap.size + 2, 0, none⟩), .pointer (some ⟨w0.heap.size + 3, 0, none⟩), .pointer (some ⟨w0.heap.size + 4, 0, none⟩)] W
      fun e W' => (∃ v, e = .returned v) ∧ RunAt w0 fn s A n c k (run s L k n) W' := by
  have hN : Fence.wide.fn 9 := trivial
  have HN := Lib.hid hn
  unfold maxLen at hn
  have HP := Lib.hid hP
  have H := Lib.hid h
  have s0 := blk_cell h.b2 (o := 0) (v := .int .i64 s.b) rfl
  have s1 := blk_cell h.b2 (o := 1) (v := .bool s.o) rfl
  have s2 := blk_cell h.b2 (o := 2) (v := .int .i64 s.g) rfl
  have l0 := blk_cell h.b3 (o := 0) (v := .slice A n c) rfl
  have lt2 := blk_lt h.b2
  have lt3 := blk_lt h.b3
  clear h hP
  refine callsIn_of_wp Try.func18 rfl trivial ?_ rfl
  simp only [Try.ntmps18, List.size_toArray, List.length_cons, List.length_nil, Nat.reduceAdd, Nat.reduceSub, Array.replicate_succ, Array.replicate_zero, List.push_toArray, List.append_toArray, List.nil_append, List.cons_append]
  gi_wp2
  gi_loopw [11] (fun i wr => ∃ j : Nat, j ≤ n ∧ i = .int .i64 j ∧ RunAt w0 fn s A n c k (run s L k j) wr ∧ Blk wr (w0.heap.size + 7) (hc (run s L k j)) 23)
    (fun i _ => n - (intOf i).toNat)
  case atStart =>
    exact ⟨0, Nat.zero_le _, rfl, H.out.kept ((Below.refl _ W).alloc (by omega) _), by rw [← hW]; exact blk_alloc W _ _⟩
  case round =>
    obtain ⟨j, hj, rfl, hA, hM⟩ := hrel
    by_cases hlt : j < n
    · obtain ⟨b, off, rfl, hb, hc0⟩ := HP.out (by omega)
      have hcl := (hA.below.cell (p := ⟨b, off + j, none⟩) hb).trans (hc0 j hlt)
      have HE : Hid (run s L k (j + 1) = next (run s L k j) (L j) k) := show run s L k (j + 1) = _ from rfl
      have cN := (callsIn_wide (n := d - 1)).2 (nextC (run s L k j) (L j) k wr)
      generalize run s L k j = x at *
      generalize next x (L j) k = y at *
      have m0 := blk_cell hM (o := 0) (v := .int .i64 x.b) rfl
      have m1 := blk_cell hM (o := 1) (v := .bool x.o) rfl
      have m2 := blk_cell hM (o := 2) (v := .int .i64 x.g) rfl
      have k0 := blk_cell hA.b4 (o := 0) (v := .bool k) rfl
      have ltm := blk_lt hM
      have HA := Lib.hid hA
      have HM := Lib.hid hM
      clear hc0 hA hM
      gi_wp2_with (gi_at_call 9; refine cN.mono ?_; rintro e w1 ⟨rfl, b1⟩
                   have hA1 := HA.out.kept (b1.mono (by omega))
                   have hM1 := blk_kept HM.out b1
                   have n0 := blk_cell hM1 (o := 0) (v := .int .i64 x.b) rfl
                   have n1 := blk_cell hM1 (o := 1) (v := .bool x.o) rfl
                   have n2 := blk_cell hM1 (o := 2) (v := .int .i64 x.g) rfl
                   have f0 := blk_free hM1 0
                   have f1 := blk_free hM1 1
                   have f2 := blk_free hM1 2
                   obtain ⟨fn', tmps, asg, bd, hy, hR⟩ := ruRound w0 fn s _ n c k x y (w0.heap.size + 7) (hc y) 23 (Nat.le_refl _) (d - 1) _ (hA1.kept (below_put (Below.refl _ w1) (Nat.le_refl _) (.int .i64 y.b) (.bool y.o) (.int .i64 y.g))) (blk_put hM1 _ _ _)
                   clear b1 m0 m1 m2 hA1 hM1)
      refine hR.mono ?_
      rintro e W3 ⟨rfl, hA3, hM3⟩
      clear hR hy
      gi_wp2
      go_roundw
      case rel => exact ⟨j + 1, by omega, by go_num, by rw [HE.out]; exact hA3, by rw [HE.out]; exact hM3⟩
      case measure => simp [intOf]; omega
    · obtain rfl : j = n := by omega
      have HA := Lib.hid hA
      clear hA hM
      gi_wp2
      go_end0
      exact ⟨⟨_, rfl⟩, HA.out⟩

set_option maxHeartbeats 1000000 in
theorem healthsC (s : Hl) (A : Option Addr) (n c : Nat) (k : Bool) (w : World) :
    Calls Try.prog 17 #[hv s, .slice A n c, .bool k] w fun e w' => e = .returned (.func (.func 18) #[] #[.pointer (some ⟨w.heap.size, 0, none⟩), .pointer (some ⟨w.heap.size + 1, 0, none⟩), .pointer (some ⟨w.heap.size + 2, 0, none⟩)])
      ∧ w' = ((w.alloc (.cells (hc s) 23)).alloc (.cells #[.slice A n c] 24)).alloc (.cells #[.bool k] 4) := by
  have hmf : ∀ (fn : Fn) (first cap : Array Value) (w : World), (Instr.makeFunc fn first cap).run Try.prog w = .ok (.func fn first cap) w := fun _ _ _ _ => rfl
  go_enter Try.func17, Try.ntmps17
  go_wp2
  go_ret
  exact ⟨by simp, rfl⟩

theorem five (w : World) (o0 o1 o2 o3 o4 : Obj) : (((((w.alloc o0).alloc o1).alloc o2).alloc o3).alloc o4).heap[w.heap.size]? = some o0 ∧ (((((w.alloc o0).alloc o1).alloc o2).alloc o3).alloc o4).heap[w.heap.size + 1]? = some o1 ∧ (((((w.alloc o0).alloc o1).alloc o2).alloc o3).alloc o4).heap[w.heap.size + 2]? = some o2
    ∧ (((((w.alloc o0).alloc o1).alloc o2).alloc o3).alloc o4).heap[w.heap.size + 3]? = some o3 ∧ (((((w.alloc o0).alloc o1).alloc o2).alloc o3).alloc o4).heap[w.heap.size + 4]? = some o4 := by
  refine ⟨?_, ?_, ?_, ?_, ?_⟩ <;> (show (((((w.heap.push o0).push o1).push o2).push o3).push o4)[_]? = _; simp only [Array.getElem?_push, Array.size_push]; (repeat (first | rw [if_pos (by omega)] | rw [if_neg (by omega)])); exact if_pos trivial)
theorem below_five (w : World) (o0 o1 o2 o3 o4 : Obj) : Below w.heap.size w (((((w.alloc o0).alloc o1).alloc o2).alloc o3).alloc o4) :=
  (((((Below.refl _ w).alloc (Nat.le_refl _) _).alloc (by simp) _).alloc (by simp; omega) _).alloc (by simp; omega) _).alloc (by simp; omega) _

set_option maxRecDepth 100000 in
set_option maxHeartbeats 2000000 in
/-- persist.Run: P10.2. -/
theorem runC (s : Hl) (A : Option Addr) (n c : Nat) (k : Bool) (L : Nat → Bool) (w : World) (hn : n ≤ maxLen) (hP : Bls w w.heap.size A n L) :
    Calls Try.prog 11 #[hv s, .slice A n c, .bool k] w fun e w' => e = .returned (hv (run s L k n)) ∧ Below w.heap.size w w' := by
  refine (callsIn_wide (n := 3)).1 ?_
  have HN := Lib.hid hn
  have HP := Lib.hid hP
  clear hn hP
  have cH : ∀ W, CallsIn Fence.wide 2 Try.prog 17 #[hv s, .slice A n c, .bool k] W _ := fun W => (callsIn_wide (n := 2)).2 (healthsC s A n c k W)
  have hF : Fence.wide.fn 17 := trivial
  refine callsIn_of_wp_marks Try.func11 rfl trivial ?_ rfl
  simp only [Try.ntmps11, List.size_toArray, List.length_cons, List.length_nil, Nat.reduceAdd, Nat.reduceSub, Array.replicate_succ, Array.replicate_zero, List.push_toArray, List.append_toArray, List.nil_append, List.cons_append]
  gi_wp2_with (gi_at_call 17; refine (cH _).mono ?_; rintro e w' ⟨rfl, rfl⟩)
  refine wpIn_rangeFunc ?_
  intro fn hfn
  rw [show Fence.wide.round = none from rfl]
  obtain ⟨W0, hW0⟩ : ∃ W0, ((((w.alloc (.cells #[.int .i64 s.b, .bool s.o, .int .i64 s.g] 23)).alloc (.cells #[.int .i64 0, .bool false, .int .i64 0] 23)).alloc (.cells (hc s) 23)).alloc (.cells #[.slice A n c] 24)).alloc (.cells #[.bool k] 4) = W0 := ⟨_, rfl⟩
  have hs0 : W0.heap.size = w.heap.size + 5 := by rw [← hW0]; simp
  obtain ⟨p0, p1, p2, p3, p4⟩ := five w (.cells #[.int .i64 s.b, .bool s.o, .int .i64 s.g] 23) (.cells #[.int .i64 0, .bool false, .int .i64 0] 23) (.cells (hc s) 23) (.cells #[.slice A n c] 24) (.cells #[.bool k] 4)
  have hb0 : Below w.heap.size w W0 := by rw [← hW0]; exact below_five w _ _ _ _ _
  rw [hW0] at p0 p1 p2 p3 p4 ⊢
  clear hW0
  obtain ⟨W1, hW1⟩ : ∃ W1, (W0.alloc (.deferred (some []))).alloc (.loop (ruRec fn w.heap.size s A n c k .ready)) = W1 := ⟨_, rfl⟩
  have hs1 : W1.heap.size = w.heap.size + 7 := by rw [← hW1]; simp; omega
  have hold : ∀ j, j < W0.heap.size → W1.heap[j]? = W0.heap[j]? := fun j hj => by
    rw [← hW1]; exact (Below.heap_alloc _ _ j (by simp; omega)).trans (Below.heap_alloc _ _ j hj)
  have hb1 : Below w.heap.size w W1 := by rw [← hW1]; exact (hb0.alloc hb0.size _).alloc (by have := hb0.size; simp; omega) _
  have hK1 : W1.heap[w.heap.size + 5]? = some (.deferred (some [])) := by
    rw [← hW1, ← hs0]; exact (Below.heap_alloc _ _ _ (by simp)).trans (World.alloc_heap_new W0 _)
  have hL1 : W1.heap[w.heap.size + 6]? = some (.loop (ruRec fn w.heap.size s A n c k .ready)) := by
    rw [← hW1]; have h := World.alloc_heap_new (W0.alloc (.deferred (some []))) (.loop (ruRec fn w.heap.size s A n c k .ready)); rw [World.size_alloc, hs0] at h; exact h
  have hA : RunAt w fn s A n c k s W1 := ⟨(hold _ (by omega)).trans p0, (hold _ (by omega)).trans p1, (hold _ (by omega)).trans p2, (hold _ (by omega)).trans p3, (hold _ (by omega)).trans p4, hK1, hL1, hb1⟩
  refine ⟨w.heap.size + 6, [{ target := .collected (w.heap.size + 5), args := #[] }], W1, { target := .fn (.func 18) #[.pointer (some ⟨w.heap.size + 2, 0, none⟩), .pointer (some ⟨w.heap.size + 3, 0, none⟩), .pointer (some ⟨w.heap.size + 4, 0, none⟩)], args := #[.func (.yield (w.heap.size + 6)) #[] #[]] }, W1, 18,
    #[.func (.yield (w.heap.size + 6)) #[] #[], .pointer (some ⟨w.heap.size + 2, 0, none⟩), .pointer (some ⟨w.heap.size + 3, 0, none⟩), .pointer (some ⟨w.heap.size + 4, 0, none⟩)], W1, ?_, ?_, ?_, ?_, fun _ => by omega, ?_⟩
  · rw [← hW1]
    have h6 : w.heap.size + 6 = W0.heap.size + 1 := by omega
    unfold ruRec
    rw [h6, ← hs0]
    exact run_enterLoop_outer _ _ _ _ _
  · simp [resolve, go_sem]
  · intro f' _; trivial
  · simp [invoke, go_sem]
  · refine (iterC w fn s A n c k L HN.out HP.out 2 (by omega) W1 hs1 hA).mono ?_
    rintro e W2 ⟨⟨v0, rfl⟩, h2⟩
    have hend := run_endLoop (P := Try.prog) h2.L (by simp [ruRec])
    obtain ⟨W3, hW3⟩ : ∃ W3, W2.putObj (w.heap.size + 6) (.loop { ruRec fn w.heap.size s A n c k .ready with state := .exhausted }) = W3 := ⟨_, rfl⟩
    rw [hW3] at hend
    have hf3 : ∀ j, j ≠ w.heap.size + 6 → W3.heap[j]? = W2.heap[j]? := fun j hj => by rw [← hW3]; exact World.putObj_heap_other hj
    have hb3 : Below w.heap.size w W3 := by rw [← hW3]; exact h2.below.grown (grownBy_putObj_a _ _ _) h2.below.size (fun k e => by cases e; omega)
    have hx3 : Blk W3 w.heap.size (hc (run s L k n)) 23 := (hf3 _ (by omega)).trans h2.box
    have hr3 : Blk W3 (w.heap.size + 1) #[.int .i64 0, .bool false, .int .i64 0] 23 := (hf3 _ (by omega)).trans h2.res
    have hK3 : W3.heap[w.heap.size + 5]? = some (.deferred (some [])) := (hf3 _ (by omega)).trans h2.K
    clear hW3 h2 hf3
    generalize hE : run s L k n = y at *
    have HE := Lib.hid hE
    clear hE
    have x0 := blk_cell hx3 (o := 0) (v := .int .i64 y.b) rfl
    have x1 := blk_cell hx3 (o := 1) (v := .bool y.o) rfl
    have x2 := blk_cell hx3 (o := 2) (v := .int .i64 y.g) rfl
    have r0 := blk_cell hr3 (o := 0) (v := .int .i64 0) rfl
    have r1 := blk_cell hr3 (o := 1) (v := .bool false) rfl
    have r2 := blk_cell hr3 (o := 2) (v := .int .i64 0) rfl
    have f0 := blk_free hr3 0
    have f1 := blk_free hr3 1
    have f2 := blk_free hr3 2
    have HR := Lib.hid hr3
    have HB := Lib.hid hb3
    clear hx3 hr3 hb3
    refine ⟨none, W3, hend, ?_⟩
    clear hend
    gi_wp2
    obtain ⟨W4, hW4⟩ : ∃ W4, ((W3.setCell ⟨w.heap.size + 1, 0, none⟩ (.int .i64 y.b)).setCell ⟨w.heap.size + 1, 1, none⟩ (.bool y.o)).setCell ⟨w.heap.size + 1, 2, none⟩ (.int .i64 y.g) = W4 := ⟨_, rfl⟩
    have hR4 : Blk W4 (w.heap.size + 1) (hc y) 23 := by rw [← hW4]; exact blk_put HR.out _ _ _
    have hB4 : Below w.heap.size w W4 := by rw [← hW4]; exact below_put HB.out (Nat.le_succ _) _ _ _
    have hK4 : W4.heap[w.heap.size + 5]? = some (.deferred (some [])) := by
      rw [← hW4]
      exact (Below.heap_setCell _ ⟨w.heap.size + 1, 2, none⟩ _ _ (by show _ ≠ w.heap.size + 1; omega)).trans ((Below.heap_setCell _ ⟨w.heap.size + 1, 1, none⟩ _ _ (by show _ ≠ w.heap.size + 1; omega)).trans ((Below.heap_setCell _ ⟨w.heap.size + 1, 0, none⟩ _ _ (by show _ ≠ w.heap.size + 1; omega)).trans hK3))
    rw [hW4]
    clear hW4
    refine ⟨by simp, .inl ⟨_, _, rfl, run_takeDeferred hK4, ?_⟩⟩
    refine ⟨hv y, ?_, by rw [HE.out], hB4.grown (grownBy_putObj_a _ _ _) hB4.size (fun k e => by cases e; omega)⟩
    exact ret_hl Try.results11 _ _ (w.heap.size + 1) y rfl ((World.putObj_heap_other (by omega)).trans hR4)

end Go.Proofs.Ythdldifilehlpaa.Pers
