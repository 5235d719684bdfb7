/- Contract of out's Guide. Conditions: the table of bounds lies there; the signals' numbers and the command's are int64 numbers; a mode is a byte. -/
import Derived.Test.YtgmgpefegmlnoaaDoorOutGd
namespace Go.Proofs.YtgmgpefegmlnoaaDoor.Out
open Go.ChangeShapes Go.WideShapes Go.ChangeAt Go.RowKit Num Mem Band

/-- Its first region: its operations; what has come up; what may come up then. -/
abbrev grOps : Array Oper := #[
  { dst := some 11, op := Op.indexAddr 24 (Operand.tmp 4) (Operand.const (Value.int IntKind.i64 0)), type := 0, pos := "out.go:51", after := #[], guard := none },
  { dst := some 12, op := Op.load 23 (Operand.tmp 11), type := 23, pos := "out.go:51", after := #[{ on := 0, ground := Ground.data }], guard := none },
  { dst := some 13, op := Op.indexAddr 24 (Operand.tmp 4) (Operand.const (Value.int IntKind.i64 1)), type := 0, pos := "out.go:51", after := #[{ on := 12, ground := Ground.gcOnly Departure.lateStores }], guard := none },
  { dst := some 14, op := Op.load 23 (Operand.tmp 13), type := 23, pos := "out.go:51", after := #[{ on := 2, ground := Ground.data }, { on := 12, ground := Ground.gcOnly Departure.lateStores }], guard := none },
  { dst := some 15, op := Op.indexAddr 24 (Operand.tmp 4) (Operand.const (Value.int IntKind.i64 2)), type := 0, pos := "out.go:51", after := #[{ on := 13, ground := Ground.gcOnly Departure.lateStores }], guard := none },
  { dst := some 16, op := Op.load 23 (Operand.tmp 15), type := 23, pos := "out.go:51", after := #[{ on := 4, ground := Ground.data }, { on := 13, ground := Ground.gcOnly Departure.lateStores }], guard := none },
  { dst := some 17, op := Op.indexAddr 24 (Operand.tmp 4) (Operand.const (Value.int IntKind.i64 3)), type := 0, pos := "out.go:51", after := #[{ on := 14, ground := Ground.gcOnly Departure.lateStores }], guard := none },
  { dst := some 18, op := Op.load 23 (Operand.tmp 17), type := 23, pos := "out.go:51", after := #[{ on := 6, ground := Ground.data }, { on := 14, ground := Ground.gcOnly Departure.lateStores }], guard := none },
  { dst := some 7, op := Op.alloc 23, type := 0, pos := "out.go:51", after := #[], guard := none },
  { dst := some 8, op := Op.alloc 23, type := 0, pos := "out.go:51", after := #[], guard := none },
  { dst := some 9, op := Op.alloc 23, type := 0, pos := "out.go:51", after := #[], guard := none },
  { dst := some 10, op := Op.alloc 23, type := 0, pos := "out.go:51", after := #[], guard := none },
  { dst := none, op := Op.store 23 (Operand.tmp 7) (Operand.tmp 12), type := 0, pos := "out.go:51", after := #[{ on := 8, ground := Ground.data }, { on := 1, ground := Ground.data }, { on := 0, ground := Ground.phase }, { on := 1, ground := Ground.phase }, { on := 2, ground := Ground.textOnly Departure.lateStores }, { on := 3, ground := Ground.textOnly Departure.lateStores }, { on := 4, ground := Ground.textOnly Departure.lateStores }, { on := 5, ground := Ground.textOnly Departure.lateStores }, { on := 6, ground := Ground.textOnly Departure.lateStores }, { on := 7, ground := Ground.textOnly Departure.lateStores }, { on := 8, ground := Ground.phase }, { on := 9, ground := Ground.phase }, { on := 10, ground := Ground.phase }, { on := 11, ground := Ground.phase }], guard := none },
  { dst := none, op := Op.store 23 (Operand.tmp 8) (Operand.tmp 14), type := 0, pos := "out.go:51", after := #[{ on := 9, ground := Ground.data }, { on := 3, ground := Ground.data }, { on := 12, ground := Ground.chain }, { on := 0, ground := Ground.phase }, { on := 1, ground := Ground.phase }, { on := 2, ground := Ground.phase }, { on := 3, ground := Ground.phase }, { on := 4, ground := Ground.textOnly Departure.lateStores }, { on := 5, ground := Ground.textOnly Departure.lateStores }, { on := 6, ground := Ground.textOnly Departure.lateStores }, { on := 7, ground := Ground.textOnly Departure.lateStores }, { on := 8, ground := Ground.phase }, { on := 9, ground := Ground.phase }, { on := 10, ground := Ground.phase }, { on := 11, ground := Ground.phase }, { on := 12, ground := Ground.phase }], guard := none },
  { dst := none, op := Op.store 23 (Operand.tmp 9) (Operand.tmp 16), type := 0, pos := "out.go:51", after := #[{ on := 10, ground := Ground.data }, { on := 5, ground := Ground.data }, { on := 13, ground := Ground.chain }, { on := 0, ground := Ground.phase }, { on := 1, ground := Ground.phase }, { on := 2, ground := Ground.phase }, { on := 3, ground := Ground.phase }, { on := 4, ground := Ground.phase }, { on := 5, ground := Ground.phase }, { on := 6, ground := Ground.textOnly Departure.lateStores }, { on := 7, ground := Ground.textOnly Departure.lateStores }, { on := 8, ground := Ground.phase }, { on := 9, ground := Ground.phase }, { on := 10, ground := Ground.phase }, { on := 11, ground := Ground.phase }, { on := 12, ground := Ground.phase }, { on := 13, ground := Ground.phase }], guard := none },
  { dst := none, op := Op.store 23 (Operand.tmp 10) (Operand.tmp 18), type := 0, pos := "out.go:51", after := #[{ on := 11, ground := Ground.data }, { on := 7, ground := Ground.data }, { on := 14, ground := Ground.chain }, { on := 0, ground := Ground.phase }, { on := 1, ground := Ground.phase }, { on := 2, ground := Ground.phase }, { on := 3, ground := Ground.phase }, { on := 4, ground := Ground.phase }, { on := 5, ground := Ground.phase }, { on := 6, ground := Ground.phase }, { on := 7, ground := Ground.phase }, { on := 8, ground := Ground.phase }, { on := 9, ground := Ground.phase }, { on := 10, ground := Ground.phase }, { on := 11, ground := Ground.phase }, { on := 12, ground := Ground.phase }, { on := 13, ground := Ground.phase }, { on := 14, ground := Ground.phase }], guard := none }]
abbrev grL (k : Nat) (b0 b1 b2 b3 : Bool) : Array Bool := #[true, true, true, true, true, true, true, true, b0, b1, b2, b3, decide (1 ≤ k), decide (2 ≤ k), decide (3 ≤ k), decide (4 ≤ k)]
def grNx (k : Nat) (b0 b1 b2 b3 : Bool) (i : Nat) : Bool := decide ((i = 8 ∧ b0 = false) ∨ (i = 9 ∧ b1 = false) ∨ (i = 10 ∧ b2 = false) ∨ (i = 11 ∧ b3 = false) ∨ (i = 12 ∧ k = 0 ∧ b0 = true) ∨ (i = 13 ∧ k = 1 ∧ b1 = true) ∨ (i = 14 ∧ k = 2 ∧ b2 = true) ∨ (i = 15 ∧ k = 3 ∧ b3 = true))
theorem gr_nx : ∀ k : Fin 5, ∀ b0 b1 b2 b3 : Bool, ∀ i ∈ Region.ready .any grOps (grL k b0 b1 b2 b3), grNx k b0 b1 b2 b3 i = true := by decide +kernel
theorem gr_next (k : Fin 5) (b0 b1 b2 b3 : Bool) (i : Nat) (h : i ∈ Region.ready .any grOps (grL k b0 b1 b2 b3)) : (i = 8 ∧ b0 = false) ∨ (i = 9 ∧ b1 = false) ∨ (i = 10 ∧ b2 = false) ∨ (i = 11 ∧ b3 = false) ∨ (i = 12 ∧ k.val = 0 ∧ b0 = true) ∨ (i = 13 ∧ k.val = 1 ∧ b1 = true) ∨ (i = 14 ∧ k.val = 2 ∧ b2 = true) ∨ (i = 15 ∧ k.val = 3 ∧ b3 = true) := of_decide_eq_true (gr_nx k b0 b1 b2 b3 i h)
theorem gr_end : ∀ k : Fin 5, ∀ b0 b1 b2 b3 : Bool, Region.ready .any grOps (grL k b0 b1 b2 b3) = [] → k.val = 4 ∧ b0 = true ∧ b1 = true ∧ b2 = true ∧ b3 = true := by decide +kernel
/-- By place. -/
abbrev of4 {T : Type} (x0 x1 x2 x3 : T) : Nat → T
  | 0 => x0
  | 1 => x1
  | 2 => x2
  | _ => x3
def cv (X : Nat → Vt) (k i : Nat) : Vt := if i < k then X i else nV
/-- What lies in memory then: the signals' own blocks, once they are there. -/
structure Gr (w0 : World) (X : Nat → Vt) (p : Nat → Int) (k : Nat) (b : Nat → Bool) (g : Nat → Nat) (w : World) : Prop where
  gd : GdAt w0 X p zC w
  hb : ∀ i, i < 4 → b i = true → Blk w (g i) (vtA (cv X k i)) 23 ∧ w0.heap.size + 1 + 1 < g i
  ne : ∀ i j, i < 4 → j < 4 → b i = true → b j = true → i ≠ j → g i ≠ g j
def upT {T : Type} (f : Nat → T) (i : Nat) (v : T) (j : Nat) : T := if j = i then v else f j
theorem upT_at {T : Type} (f : Nat → T) (i : Nat) (v : T) : upT f i v i = v := if_pos rfl
theorem upT_off {T : Type} (f : Nat → T) {i j : Nat} (v : T) (h : j ≠ i) : upT f i v j = f j := if_neg h
section
variable {w0 w w1 : World} {X : Nat → Vt} {p : Nat → Int} {k : Nat} {b : Nat → Bool} {g : Nat → Nat}
theorem gr_call (h : Gr w0 X p k b g w) (bl : Below w.heap.size w w1) : Gr w0 X p k b g w1 := ⟨gd_call h.gd bl, fun i hi x => ⟨blk_kept (h.hb i hi x).1 bl, (h.hb i hi x).2⟩, h.ne⟩
theorem gr_new (h : Gr w0 X p k b g w) (i : Nat) (hki : k ≤ i) : Gr w0 X p k (upT b i true) (upT g i w.heap.size) (w.alloc (.cells (vtA nV) 23)) := by
  have q := gr_call h (allocs w (.cells (vtA nV) 23))
  have e : cv X k i = nV := if_neg (by omega)
  refine ⟨q.gd, fun j hj x => ?_, fun a c ha hc x y ne => ?_⟩
  · by_cases c : j = i
    · subst c; rw [upT_at, e]; exact ⟨blk_alloc w _ _, gd_lt h.gd⟩
    · rw [upT_off _ _ c] at x ⊢; exact q.hb j hj x
  · by_cases u : a = i
    · subst u
      rw [upT_at, upT_off _ _ (Ne.symm ne)]
      rw [upT_off _ _ (Ne.symm ne)] at y
      exact Nat.ne_of_gt (blk_lt (h.hb c hc y).1)
    · rw [upT_off _ _ u] at x ⊢
      by_cases v : c = i
      · subst v; rw [upT_at]; exact Nat.ne_of_lt (blk_lt (h.hb a ha x).1)
      · rw [upT_off _ _ v] at y ⊢; exact h.ne a c ha hc x y ne
theorem gr_put (h : Gr w0 X p k b g w) (hk : k < 4) (hb : b k = true) : Gr w0 X p (k + 1) b g (w.setRow (g k) (vtA (X k))) := by
  obtain ⟨q, l⟩ := h.hb k hk hb
  refine ⟨gd_far h.gd l _, fun j hj x => ⟨?_, (h.hb j hj x).2⟩, h.ne⟩
  by_cases c : j = k
  · subst c; rw [show cv X (j + 1) j = X j from if_pos (by omega)]; exact blk_row q _
  · have e : cv X (k + 1) j = cv X k j := by unfold cv; by_cases d : j < k; (rw [if_pos d, if_pos (by omega)]); rw [if_neg d, if_neg (by omega)]
    rw [e]
    exact blk_row_far (h.hb j hj x).1 (h.ne j k hj hk x hb c) _
theorem gr_as {c : Nat → Bool} {f : Nat → Nat} (h : Gr w0 X p k b g w) (e : ∀ i, i < 4 → b i = c i) (d : ∀ i, i < 4 → g i = f i) : Gr w0 X p k c f w :=
  ⟨h.gd, fun i hi x => by rw [← d i hi]; exact h.hb i hi (by rw [e i hi]; exact x), fun i j hi hj x y ne => by rw [← d i hi, ← d j hj]; exact h.ne i j hi hj (by rw [e i hi]; exact x) (by rw [e j hj]; exact y) ne⟩
end
theorem lt4 {Q : Nat → Prop} (h0 : Q 0) (h1 : Q 1) (h2 : Q 2) (h3 : Q 3) : ∀ i, i < 4 → Q i := fun i hi => match i, hi with
  | 0, _ => h0
  | 1, _ => h1
  | 2, _ => h2
  | 3, _ => h3
/-- Between two operations. -/
def GrI (w0 : World) (m : Int) (X : Nat → Vt) (p : Nat → Int) (n : Nat) (l : Array Bool) (a : Act) (w : World) : Prop :=
  ∃ (k : Nat) (b0 b1 b2 b3 : Bool) (g0 g1 g2 g3 : Nat), k ≤ 4 ∧ (1 ≤ k → b0 = true) ∧ (2 ≤ k → b1 = true) ∧ (3 ≤ k → b2 = true) ∧ (4 ≤ k → b3 = true) ∧ l = grL k b0 b1 b2 b3 ∧ n + k + b0.toNat + b1.toNat + b2.toNat + b3.toNat = 8 ∧
    a = { tmps := #[.int .u8 m, .agg (v12 X), .agg (cA p), undef, .pointer (some ⟨w0.heap.size, 0, none⟩), .pointer (some ⟨w0.heap.size + 1, 0, none⟩), .pointer (some ⟨w0.heap.size + 1 + 1, 0, none⟩), sl b0 (ptr g0), sl b1 (ptr g1), sl b2 (ptr g2), sl b3 (ptr g3), .pointer (some ⟨w0.heap.size, 0, none⟩), .agg (vtA (X 0)), .pointer (some ⟨w0.heap.size, 3, none⟩), .agg (vtA (X 1)), .pointer (some ⟨w0.heap.size, 6, none⟩), .agg (vtA (X 2)), .pointer (some ⟨w0.heap.size, 9, none⟩), .agg (vtA (X 3)), undef, undef, undef, undef, undef, undef, undef, undef, undef, undef, undef, undef, undef, undef, undef, undef, undef, undef, undef, undef], defers := [] } ∧ Gr w0 X p k (of4 b0 b1 b2 b3) (of4 g0 g1 g2 g3) w

/-- At its end. -/
structure GeAt (w0 : World) (X : Nat → Vt) (p R : Nat → Int) (g0 g1 g2 g3 : Nat) (w : World) : Prop where
  gd : GdAt w0 X p R w
  h0 : Blk w g0 (vtA (X 0)) 23 ∧ w0.heap.size + 1 + 1 < g0
  h1 : Blk w g1 (vtA (X 1)) 23 ∧ w0.heap.size + 1 + 1 < g1
  h2 : Blk w g2 (vtA (X 2)) 23 ∧ w0.heap.size + 1 + 1 < g2
  h3 : Blk w g3 (vtA (X 3)) 23 ∧ w0.heap.size + 1 + 1 < g3
section
variable {w0 w w1 : World} {X : Nat → Vt} {p R : Nat → Int} {g0 g1 g2 g3 : Nat}
theorem ge_of (h : Gr w0 X p 4 (of4 true true true true) (of4 g0 g1 g2 g3) w) : GeAt w0 X p zC g0 g1 g2 g3 w := ⟨h.gd, h.hb 0 (by decide) rfl, h.hb 1 (by decide) rfl, h.hb 2 (by decide) rfl, h.hb 3 (by decide) rfl⟩
theorem ge_drew (h : GeAt w0 X p R g0 g1 g2 g3 w) : GeAt w0 X p R g0 g1 g2 g3 w.drew := ⟨gd_drew h.gd, h.h0, h.h1, h.h2, h.h3⟩
theorem ge_call (h : GeAt w0 X p R g0 g1 g2 g3 w) (b : Below w.heap.size w w1) : GeAt w0 X p R g0 g1 g2 g3 w1 := ⟨gd_call h.gd b, ⟨blk_kept h.h0.1 b, h.h0.2⟩, ⟨blk_kept h.h1.1 b, h.h1.2⟩, ⟨blk_kept h.h2.1 b, h.h2.2⟩, ⟨blk_kept h.h3.1 b, h.h3.2⟩⟩
theorem ge_set (h : GeAt w0 X p R g0 g1 g2 g3 w) (d : Nat → Int) : GeAt w0 X p d g0 g1 g2 g3 (w.setRow (w0.heap.size + 1 + 1) (cA d)) :=
  ⟨gd_set h.gd d, ⟨blk_row_far h.h0.1 (by have := h.h0.2; omega) _, h.h0.2⟩, ⟨blk_row_far h.h1.1 (by have := h.h1.2; omega) _, h.h1.2⟩, ⟨blk_row_far h.h2.1 (by have := h.h2.2; omega) _, h.h2.2⟩, ⟨blk_row_far h.h3.1 (by have := h.h3.2; omega) _, h.h3.2⟩⟩
theorem ge_s (r : Nat → Int) (h : GeAt w0 X p R g0 g1 g2 g3 w) : (ldC (.pointer (some ⟨w0.heap.size + 1, 0, none⟩))).run Tryd.prog w = .ok (.agg (cA p)) w ∧ (ldV (.pointer (some ⟨g0, 0, none⟩))).run Tryd.prog w = .ok (.agg (vtA (X 0))) w ∧ (ldV (.pointer (some ⟨g1, 0, none⟩))).run Tryd.prog w = .ok (.agg (vtA (X 1))) w ∧ (ldV (.pointer (some ⟨g2, 0, none⟩))).run Tryd.prog w = .ok (.agg (vtA (X 2))) w ∧ (ldV (.pointer (some ⟨g3, 0, none⟩))).run Tryd.prog w = .ok (.agg (vtA (X 3))) w ∧ w.cell? ⟨w0.heap.size + 1, 0, none⟩ = some (.int .i64 (p 0)) ∧ w.cell? ⟨w0.heap.size + 1, 1, none⟩ = some (.int .i64 (p 1)) ∧ w.cell? ⟨w0.heap.size + 1, 2, none⟩ = some (.int .i64 (p 2)) ∧ (stC (.pointer (some ⟨w0.heap.size + 1 + 1, 0, none⟩)) (.agg (cA r))).run Tryd.prog w = .ok () (w.setRow (w0.heap.size + 1 + 1) (cA r)) :=
  ⟨ldC_blk h.gd.hl, ldV_part (range_of h.h0.1 fun j _ => by rw [Nat.zero_add]; simp), ldV_part (range_of h.h1.1 fun j _ => by rw [Nat.zero_add]; simp), ldV_part (range_of h.h2.1 fun j _ => by rw [Nat.zero_add]; simp), ldV_part (range_of h.h3.1 fun j _ => by rw [Nat.zero_add]; simp), blk_cell h.gd.hl rfl, blk_cell h.gd.hl rfl, blk_cell h.gd.hl rfl, stC_blk r h.gd.hr⟩
end

section
attribute [local go_sem ↓] ldC_eq stC_eq ldV_eq stW_eq
set_option maxRecDepth 100000 in
set_option maxHeartbeats 4000000 in
theorem guideC (m : Int) (X : Nat → Vt) (p : Nat → Int) (hX : InX X) (hp : InC p) (w : World) (T : BdAt w) : Calls Tryd.prog 9 #[.int .u8 m, .agg (v12 X), .agg (cA p)] w fun e w' => e = .returned (.agg (cA (gd m X p))) ∧ Below w.heap.size w w' := by
  have K0 := Lib.hid (gd_box w X p)
  have HT := Lib.hid T
  have SD : Hid (∀ W, Calls Tryd.prog 18 #[.int .u8 m, .agg (vtA (X 0)), .agg (vtA (X 2)), .int .i64 (p 0)] W fun e w' => e = .returned (.int .i64 (want m X p 0)) ∧ Below W.heap.size W w') := Lib.hid fun W => Sd.sideC m (X 0) (X 2) (p 0) (hX 0 (by decide)) (hp 0 (by decide)) W
  have SK : Hid (∀ W, Calls Tryd.prog 19 #[.int .u8 m, .agg (vtA (X 1)), .agg (vtA (X 2)), .int .i64 (p 1)] W fun e w' => e = .returned (.int .i64 (want m X p 1)) ∧ Below W.heap.size W w') := Lib.hid fun W => Sk.sinkC m (X 1) (X 2) (p 1) (hX 1 (by decide)) (hX 2 (by decide)) (hp 1 (by decide)) W
  have TN : Hid (∀ W, Calls Tryd.prog 20 #[.int .u8 m, .agg (vtA (X 3)), .int .i64 (p 2)] W fun e w' => e = .returned (.int .i64 (want m X p 2)) ∧ Below W.heap.size W w') := Lib.hid fun W => Sd.turnC m (X 3) (p 2) (hX 3 (by decide)) (hp 2 (by decide)) W
  have LC := Lib.hid (fun W (U : BdAt W) => limC p (want m X p) hp (want_In m X p) W U)
  rw [show gd m X p = lim p (want m X p) from rfl]
  generalize want m X p = q at *
  generalize lim p q = r at *
  clear hX hp T
  go_enter Tryd.func9, Tryd.ntmps9
  go_upto_region 1 with (fail)
  generalize World.alloc _ _ = W at *
  refine wp_region_held_drew (S := fun w' => (ldV (.pointer (some ⟨w.heap.size, 0, none⟩))).run Tryd.prog w' = .ok (.agg (vtA (X 0))) w' ∧ (ldV (.pointer (some ⟨w.heap.size, 3, none⟩))).run Tryd.prog w' = .ok (.agg (vtA (X 1))) w' ∧ (ldV (.pointer (some ⟨w.heap.size, 6, none⟩))).run Tryd.prog w' = .ok (.agg (vtA (X 2))) w' ∧ (ldV (.pointer (some ⟨w.heap.size, 9, none⟩))).run Tryd.prog w' = .ok (.agg (vtA (X 3))) w') (by kernel_rfl) (gd_v (gd_drew K0.out)) (fun hHeld => ?_)
  refine wpAnyH_take (i := 0) (oi := { dst := some 11, op := Op.indexAddr 24 (Operand.tmp 4) (Operand.const (Value.int IntKind.i64 0)), type := 0, pos := "out.go:51", after := #[], guard := none }) (v := .pointer (some ⟨w.heap.size, 0, none⟩)) rfl (by kernel_rfl) (by kernel_rfl) (by kernel_rfl) (fun _ _ _ h => h) (Or.inl ⟨by rfl, ?_⟩) (by assumption) ?_
  · intro w hSw
    (try dsimp only at hSw)
    go_simp
  try simp only [Act.put, List.setIfInBounds_toArray, List.set_cons_zero, List.set_cons_succ]
  refine wpAnyH_take (i := 1) (oi := { dst := some 12, op := Op.load 23 (Operand.tmp 11), type := 23, pos := "out.go:51", after := #[{ on := 0, ground := Ground.data }], guard := none }) (v := .agg (vtA (X 0))) rfl (by kernel_rfl) (by kernel_rfl) (by kernel_rfl) (fun _ _ _ h => h) (Or.inl ⟨by rfl, ?_⟩) (by assumption) ?_
  · intro w hSw
    (try dsimp only at hSw)
    go_simp
  try simp only [Act.put, List.setIfInBounds_toArray, List.set_cons_zero, List.set_cons_succ]
  refine wpAnyH_take (i := 2) (oi := { dst := some 13, op := Op.indexAddr 24 (Operand.tmp 4) (Operand.const (Value.int IntKind.i64 1)), type := 0, pos := "out.go:51", after := #[{ on := 12, ground := Ground.gcOnly Departure.lateStores }], guard := none }) (v := .pointer (some ⟨w.heap.size, 3, none⟩)) rfl (by kernel_rfl) (by kernel_rfl) (by kernel_rfl) (fun _ _ _ h => h) (Or.inl ⟨by rfl, ?_⟩) (by assumption) ?_
  · intro w hSw
    (try dsimp only at hSw)
    go_simp
  try simp only [Act.put, List.setIfInBounds_toArray, List.set_cons_zero, List.set_cons_succ]
  refine wpAnyH_take (i := 3) (oi := { dst := some 14, op := Op.load 23 (Operand.tmp 13), type := 23, pos := "out.go:51", after := #[{ on := 2, ground := Ground.data }, { on := 12, ground := Ground.gcOnly Departure.lateStores }], guard := none }) (v := .agg (vtA (X 1))) rfl (by kernel_rfl) (by kernel_rfl) (by kernel_rfl) (fun _ _ _ h => h) (Or.inl ⟨by rfl, ?_⟩) (by assumption) ?_
  · intro w hSw
    (try dsimp only at hSw)
    go_simp
  try simp only [Act.put, List.setIfInBounds_toArray, List.set_cons_zero, List.set_cons_succ]
  refine wpAnyH_take (i := 4) (oi := { dst := some 15, op := Op.indexAddr 24 (Operand.tmp 4) (Operand.const (Value.int IntKind.i64 2)), type := 0, pos := "out.go:51", after := #[{ on := 13, ground := Ground.gcOnly Departure.lateStores }], guard := none }) (v := .pointer (some ⟨w.heap.size, 6, none⟩)) rfl (by kernel_rfl) (by kernel_rfl) (by kernel_rfl) (fun _ _ _ h => h) (Or.inl ⟨by rfl, ?_⟩) (by assumption) ?_
  · intro w hSw
    (try dsimp only at hSw)
    go_simp
  try simp only [Act.put, List.setIfInBounds_toArray, List.set_cons_zero, List.set_cons_succ]
  refine wpAnyH_take (i := 5) (oi := { dst := some 16, op := Op.load 23 (Operand.tmp 15), type := 23, pos := "out.go:51", after := #[{ on := 4, ground := Ground.data }, { on := 13, ground := Ground.gcOnly Departure.lateStores }], guard := none }) (v := .agg (vtA (X 2))) rfl (by kernel_rfl) (by kernel_rfl) (by kernel_rfl) (fun _ _ _ h => h) (Or.inl ⟨by rfl, ?_⟩) (by assumption) ?_
  · intro w hSw
    (try dsimp only at hSw)
    go_simp
  try simp only [Act.put, List.setIfInBounds_toArray, List.set_cons_zero, List.set_cons_succ]
  refine wpAnyH_take (i := 6) (oi := { dst := some 17, op := Op.indexAddr 24 (Operand.tmp 4) (Operand.const (Value.int IntKind.i64 3)), type := 0, pos := "out.go:51", after := #[{ on := 14, ground := Ground.gcOnly Departure.lateStores }], guard := none }) (v := .pointer (some ⟨w.heap.size, 9, none⟩)) rfl (by kernel_rfl) (by kernel_rfl) (by kernel_rfl) (fun _ _ _ h => h) (Or.inl ⟨by rfl, ?_⟩) (by assumption) ?_
  · intro w hSw
    (try dsimp only at hSw)
    go_simp
  try simp only [Act.put, List.setIfInBounds_toArray, List.set_cons_zero, List.set_cons_succ]
  refine wpAnyH_take (i := 7) (oi := { dst := some 18, op := Op.load 23 (Operand.tmp 17), type := 23, pos := "out.go:51", after := #[{ on := 6, ground := Ground.data }, { on := 14, ground := Ground.gcOnly Departure.lateStores }], guard := none }) (v := .agg (vtA (X 3))) rfl (by kernel_rfl) (by kernel_rfl) (by kernel_rfl) (fun _ _ _ h => h) (Or.inl ⟨by rfl, ?_⟩) (by assumption) ?_
  · intro w hSw
    (try dsimp only at hSw)
    go_simp
  try simp only [Act.put, List.setIfInBounds_toArray, List.set_cons_zero, List.set_cons_succ]
  refine Inv.any_inv_at (n' := 8) (l' := grL 0 false false false false) (I := GrI w m X p) (by kernel_rfl) (by kernel_rfl) ?_ ?_ ?_
  case refine_3 => exact ⟨0, false, false, false, false, 0, 0, 0, 0, by omega, by omega, by omega, by omega, by omega, rfl, rfl, rfl, gd_drew K0.out, lt4 (fun x => by cases x) (fun x => by cases x) (fun x => by cases x) (fun x => by cases x), fun i j hi _ x _ _ => absurd x (by match i, hi with | 0, _ => simp | 1, _ => simp | 2, _ => simp | 3, _ => simp)⟩
  case refine_2 =>
    rintro n l a v ⟨k, b0, b1, b2, b3, g0, g1, g2, g3, hk, h0, h1, h2, h3, rfl, hn, rfl, R⟩ i hi
    have HR := Lib.hid R
    clear R
    have t0 := Bool.toNat_le b0
    have t1 := Bool.toNat_le b1
    have t2 := Bool.toNat_le b2
    have t3 := Bool.toNat_le b3
    rcases gr_next ⟨k, by omega⟩ b0 b1 b2 b3 i hi with ⟨rfl, rfl⟩ | ⟨rfl, rfl⟩ | ⟨rfl, rfl⟩ | ⟨rfl, rfl⟩ | ⟨rfl, e, rfl⟩ | ⟨rfl, e, rfl⟩ | ⟨rfl, e, rfl⟩ | ⟨rfl, e, rfl⟩
    · have hki : k ≤ 0 := by
        rcases Nat.lt_or_ge k 1 with x | x
        · omega
        · cases h0 x
      have q0 : false.toNat = 0 := rfl
      obtain ⟨m', rfl⟩ : ∃ m', n = m' + 1 := ⟨n - 1, by omega⟩
      clear q0
      refine ⟨m', rfl, wpOp_step (o := { dst := some 7, op := Op.alloc 23, type := 0, pos := "out.go:51", after := #[], guard := none }) rfl fun K' hK => ?_⟩
      have HK := Lib.hid hK
      clear hK
      go_simp
      have R1 := gr_as (c := of4 true b1 b2 b3) (f := of4 v.heap.size g1 g2 g3) (gr_new HR.out 0 hki) (lt4 rfl rfl rfl rfl) (lt4 rfl rfl rfl rfl)
      exact HK.out _ _ ⟨gd_v R1.gd, k, true, b1, b2, b3, v.heap.size, g1, g2, g3, hk, (fun _ => rfl), h1, h2, h3, rfl, (by have q0 : false.toNat = 0 := rfl; have q1 : true.toNat = 1 := rfl; omega), rfl, R1⟩
    · have hki : k ≤ 1 := by
        rcases Nat.lt_or_ge k 2 with x | x
        · omega
        · cases h1 x
      have q0 : false.toNat = 0 := rfl
      obtain ⟨m', rfl⟩ : ∃ m', n = m' + 1 := ⟨n - 1, by omega⟩
      clear q0
      refine ⟨m', rfl, wpOp_step (o := { dst := some 8, op := Op.alloc 23, type := 0, pos := "out.go:51", after := #[], guard := none }) rfl fun K' hK => ?_⟩
      have HK := Lib.hid hK
      clear hK
      go_simp
      have R1 := gr_as (c := of4 b0 true b2 b3) (f := of4 g0 v.heap.size g2 g3) (gr_new HR.out 1 hki) (lt4 rfl rfl rfl rfl) (lt4 rfl rfl rfl rfl)
      exact HK.out _ _ ⟨gd_v R1.gd, k, b0, true, b2, b3, g0, v.heap.size, g2, g3, hk, h0, (fun _ => rfl), h2, h3, rfl, (by have q0 : false.toNat = 0 := rfl; have q1 : true.toNat = 1 := rfl; omega), rfl, R1⟩
    · have hki : k ≤ 2 := by
        rcases Nat.lt_or_ge k 3 with x | x
        · omega
        · cases h2 x
      have q0 : false.toNat = 0 := rfl
      obtain ⟨m', rfl⟩ : ∃ m', n = m' + 1 := ⟨n - 1, by omega⟩
      clear q0
      refine ⟨m', rfl, wpOp_step (o := { dst := some 9, op := Op.alloc 23, type := 0, pos := "out.go:51", after := #[], guard := none }) rfl fun K' hK => ?_⟩
      have HK := Lib.hid hK
      clear hK
      go_simp
      have R1 := gr_as (c := of4 b0 b1 true b3) (f := of4 g0 g1 v.heap.size g3) (gr_new HR.out 2 hki) (lt4 rfl rfl rfl rfl) (lt4 rfl rfl rfl rfl)
      exact HK.out _ _ ⟨gd_v R1.gd, k, b0, b1, true, b3, g0, g1, v.heap.size, g3, hk, h0, h1, (fun _ => rfl), h3, rfl, (by have q0 : false.toNat = 0 := rfl; have q1 : true.toNat = 1 := rfl; omega), rfl, R1⟩
    · have hki : k ≤ 3 := by
        rcases Nat.lt_or_ge k 4 with x | x
        · omega
        · cases h3 x
      have q0 : false.toNat = 0 := rfl
      obtain ⟨m', rfl⟩ : ∃ m', n = m' + 1 := ⟨n - 1, by omega⟩
      clear q0
      refine ⟨m', rfl, wpOp_step (o := { dst := some 10, op := Op.alloc 23, type := 0, pos := "out.go:51", after := #[], guard := none }) rfl fun K' hK => ?_⟩
      have HK := Lib.hid hK
      clear hK
      go_simp
      have R1 := gr_as (c := of4 b0 b1 b2 true) (f := of4 g0 g1 g2 v.heap.size) (gr_new HR.out 3 hki) (lt4 rfl rfl rfl rfl) (lt4 rfl rfl rfl rfl)
      exact HK.out _ _ ⟨gd_v R1.gd, k, b0, b1, b2, true, g0, g1, g2, v.heap.size, hk, h0, h1, h2, (fun _ => rfl), rfl, (by have q0 : false.toNat = 0 := rfl; have q1 : true.toNat = 1 := rfl; omega), rfl, R1⟩
    · obtain rfl : k = 0 := e
      have q1 : true.toNat = 1 := rfl
      obtain ⟨m', rfl⟩ : ∃ m', n = m' + 1 := ⟨n - 1, by omega⟩
      clear q1
      have s5 : (stW (.pointer (some ⟨g0, 0, none⟩)) (.agg (vtA (X 0)))).run Tryd.prog v = .ok () (v.setRow g0 (vtA (X 0))) := stW_blk (X 0) (HR.out.hb 0 (by decide) rfl).1
      rw [show sl true (ptr g0) = .pointer (some ⟨g0, 0, none⟩) from rfl]
      refine ⟨m', rfl, wpOp_step (o := { dst := none, op := Op.store 23 (Operand.tmp 7) (Operand.tmp 12), type := 0, pos := "out.go:51", after := #[{ on := 8, ground := Ground.data }, { on := 1, ground := Ground.data }, { on := 0, ground := Ground.phase }, { on := 1, ground := Ground.phase }, { on := 2, ground := Ground.textOnly Departure.lateStores }, { on := 3, ground := Ground.textOnly Departure.lateStores }, { on := 4, ground := Ground.textOnly Departure.lateStores }, { on := 5, ground := Ground.textOnly Departure.lateStores }, { on := 6, ground := Ground.textOnly Departure.lateStores }, { on := 7, ground := Ground.textOnly Departure.lateStores }, { on := 8, ground := Ground.phase }, { on := 9, ground := Ground.phase }, { on := 10, ground := Ground.phase }, { on := 11, ground := Ground.phase }], guard := none }) rfl fun K' hK => ?_⟩
      have HK := Lib.hid hK
      clear hK
      go_simp
      clear s5
      have R1 := gr_put HR.out (by decide) rfl
      exact HK.out _ _ ⟨gd_v R1.gd, 1, true, b1, b2, b3, g0, g1, g2, g3, by omega, (fun _ => rfl), by omega, by omega, by omega, rfl, (by have q0 : false.toNat = 0 := rfl; have q1 : true.toNat = 1 := rfl; omega), rfl, R1⟩
    · obtain rfl : k = 1 := e
      obtain rfl : b0 = true := h0 (by omega)
      have q1 : true.toNat = 1 := rfl
      obtain ⟨m', rfl⟩ : ∃ m', n = m' + 1 := ⟨n - 1, by omega⟩
      clear q1
      have s5 : (stW (.pointer (some ⟨g1, 0, none⟩)) (.agg (vtA (X 1)))).run Tryd.prog v = .ok () (v.setRow g1 (vtA (X 1))) := stW_blk (X 1) (HR.out.hb 1 (by decide) rfl).1
      rw [show sl true (ptr g1) = .pointer (some ⟨g1, 0, none⟩) from rfl]
      refine ⟨m', rfl, wpOp_step (o := { dst := none, op := Op.store 23 (Operand.tmp 8) (Operand.tmp 14), type := 0, pos := "out.go:51", after := #[{ on := 9, ground := Ground.data }, { on := 3, ground := Ground.data }, { on := 12, ground := Ground.chain }, { on := 0, ground := Ground.phase }, { on := 1, ground := Ground.phase }, { on := 2, ground := Ground.phase }, { on := 3, ground := Ground.phase }, { on := 4, ground := Ground.textOnly Departure.lateStores }, { on := 5, ground := Ground.textOnly Departure.lateStores }, { on := 6, ground := Ground.textOnly Departure.lateStores }, { on := 7, ground := Ground.textOnly Departure.lateStores }, { on := 8, ground := Ground.phase }, { on := 9, ground := Ground.phase }, { on := 10, ground := Ground.phase }, { on := 11, ground := Ground.phase }, { on := 12, ground := Ground.phase }], guard := none }) rfl fun K' hK => ?_⟩
      have HK := Lib.hid hK
      clear hK
      go_simp
      clear s5
      have R1 := gr_put HR.out (by decide) rfl
      exact HK.out _ _ ⟨gd_v R1.gd, 2, true, true, b2, b3, g0, g1, g2, g3, by omega, (fun _ => rfl), (fun _ => rfl), by omega, by omega, rfl, (by have q0 : false.toNat = 0 := rfl; have q1 : true.toNat = 1 := rfl; omega), rfl, R1⟩
    · obtain rfl : k = 2 := e
      obtain rfl : b0 = true := h0 (by omega)
      obtain rfl : b1 = true := h1 (by omega)
      have q1 : true.toNat = 1 := rfl
      obtain ⟨m', rfl⟩ : ∃ m', n = m' + 1 := ⟨n - 1, by omega⟩
      clear q1
      have s5 : (stW (.pointer (some ⟨g2, 0, none⟩)) (.agg (vtA (X 2)))).run Tryd.prog v = .ok () (v.setRow g2 (vtA (X 2))) := stW_blk (X 2) (HR.out.hb 2 (by decide) rfl).1
      rw [show sl true (ptr g2) = .pointer (some ⟨g2, 0, none⟩) from rfl]
      refine ⟨m', rfl, wpOp_step (o := { dst := none, op := Op.store 23 (Operand.tmp 9) (Operand.tmp 16), type := 0, pos := "out.go:51", after := #[{ on := 10, ground := Ground.data }, { on := 5, ground := Ground.data }, { on := 13, ground := Ground.chain }, { on := 0, ground := Ground.phase }, { on := 1, ground := Ground.phase }, { on := 2, ground := Ground.phase }, { on := 3, ground := Ground.phase }, { on := 4, ground := Ground.phase }, { on := 5, ground := Ground.phase }, { on := 6, ground := Ground.textOnly Departure.lateStores }, { on := 7, ground := Ground.textOnly Departure.lateStores }, { on := 8, ground := Ground.phase }, { on := 9, ground := Ground.phase }, { on := 10, ground := Ground.phase }, { on := 11, ground := Ground.phase }, { on := 12, ground := Ground.phase }, { on := 13, ground := Ground.phase }], guard := none }) rfl fun K' hK => ?_⟩
      have HK := Lib.hid hK
      clear hK
      go_simp
      clear s5
      have R1 := gr_put HR.out (by decide) rfl
      exact HK.out _ _ ⟨gd_v R1.gd, 3, true, true, true, b3, g0, g1, g2, g3, by omega, (fun _ => rfl), (fun _ => rfl), (fun _ => rfl), by omega, rfl, (by have q0 : false.toNat = 0 := rfl; have q1 : true.toNat = 1 := rfl; omega), rfl, R1⟩
    · obtain rfl : k = 3 := e
      obtain rfl : b0 = true := h0 (by omega)
      obtain rfl : b1 = true := h1 (by omega)
      obtain rfl : b2 = true := h2 (by omega)
      have q1 : true.toNat = 1 := rfl
      obtain ⟨m', rfl⟩ : ∃ m', n = m' + 1 := ⟨n - 1, by omega⟩
      clear q1
      have s5 : (stW (.pointer (some ⟨g3, 0, none⟩)) (.agg (vtA (X 3)))).run Tryd.prog v = .ok () (v.setRow g3 (vtA (X 3))) := stW_blk (X 3) (HR.out.hb 3 (by decide) rfl).1
      rw [show sl true (ptr g3) = .pointer (some ⟨g3, 0, none⟩) from rfl]
      refine ⟨m', rfl, wpOp_step (o := { dst := none, op := Op.store 23 (Operand.tmp 10) (Operand.tmp 18), type := 0, pos := "out.go:51", after := #[{ on := 11, ground := Ground.data }, { on := 7, ground := Ground.data }, { on := 14, ground := Ground.chain }, { on := 0, ground := Ground.phase }, { on := 1, ground := Ground.phase }, { on := 2, ground := Ground.phase }, { on := 3, ground := Ground.phase }, { on := 4, ground := Ground.phase }, { on := 5, ground := Ground.phase }, { on := 6, ground := Ground.phase }, { on := 7, ground := Ground.phase }, { on := 8, ground := Ground.phase }, { on := 9, ground := Ground.phase }, { on := 10, ground := Ground.phase }, { on := 11, ground := Ground.phase }, { on := 12, ground := Ground.phase }, { on := 13, ground := Ground.phase }, { on := 14, ground := Ground.phase }], guard := none }) rfl fun K' hK => ?_⟩
      have HK := Lib.hid hK
      clear hK
      go_simp
      clear s5
      have R1 := gr_put HR.out (by decide) rfl
      exact HK.out _ _ ⟨gd_v R1.gd, 4, true, true, true, true, g0, g1, g2, g3, by omega, (fun _ => rfl), (fun _ => rfl), (fun _ => rfl), (fun _ => rfl), rfl, (by have q0 : false.toNat = 0 := rfl; have q1 : true.toNat = 1 := rfl; omega), rfl, R1⟩
  case refine_1 =>
    rintro n l a v ⟨k, b0, b1, b2, b3, g0, g1, g2, g3, hk, h0, h1, h2, h3, rfl, hn, rfl, R⟩ he
    obtain ⟨e, rfl, rfl, rfl, rfl⟩ := gr_end ⟨k, by omega⟩ b0 b1 b2 b3 he
    obtain rfl : k = 4 := e
    have TA := Lib.hid (ge_of R)
    clear R he hn h0 h1 h2 h3 hk K0
    rw [show sl true (ptr g0) = .pointer (some ⟨g0, 0, none⟩) from rfl, show sl true (ptr g1) = .pointer (some ⟨g1, 0, none⟩) from rfl, show sl true (ptr g2) = .pointer (some ⟨g2, 0, none⟩) from rfl, show sl true (ptr g3) = .pointer (some ⟨g3, 0, none⟩) from rfl]
    go_upto_region 2 with (fail)
    replace TA := Lib.hid (ge_drew TA.out)
    go_region_held3 (fun w' => (ldC (.pointer (some ⟨w.heap.size + 1, 0, none⟩))).run Tryd.prog w' = .ok (.agg (cA p)) w' ∧ (ldV (.pointer (some ⟨g0, 0, none⟩))).run Tryd.prog w' = .ok (.agg (vtA (X 0))) w' ∧ (ldV (.pointer (some ⟨g1, 0, none⟩))).run Tryd.prog w' = .ok (.agg (vtA (X 1))) w' ∧ (ldV (.pointer (some ⟨g2, 0, none⟩))).run Tryd.prog w' = .ok (.agg (vtA (X 2))) w' ∧ (ldV (.pointer (some ⟨g3, 0, none⟩))).run Tryd.prog w' = .ok (.agg (vtA (X 3))) w' ∧ w'.cell? ⟨w.heap.size + 1, 0, none⟩ = some (.int .i64 (p 0)) ∧ w'.cell? ⟨w.heap.size + 1, 1, none⟩ = some (.int .i64 (p 1)) ∧ w'.cell? ⟨w.heap.size + 1, 2, none⟩ = some (.int .i64 (p 2)) ∧ (stC (.pointer (some ⟨w.heap.size + 1 + 1, 0, none⟩)) (.agg (cA r))).run Tryd.prog w' = .ok () (w'.setRow (w.heap.size + 1 + 1) (cA r)))
      (first
        | (with_reducible assumption)
        | exact ge_s r TA.out
        | exact ge_s r (ge_set TA.out r))
      (first
      | ((with_reducible refine (SD.out _).mono ?_); rintro e u ⟨rfl, bb⟩; replace TA := Lib.hid (ge_call TA.out bb); clear bb)
      | ((with_reducible refine (SK.out _).mono ?_); rintro e u ⟨rfl, bb⟩; replace TA := Lib.hid (ge_call TA.out bb); clear bb)
      | ((with_reducible refine (TN.out _).mono ?_); rintro e u ⟨rfl, bb⟩; replace TA := Lib.hid (ge_call TA.out bb); clear bb)
      | ((with_reducible refine (LC.out _ (bd_kept HT.out TA.out.gd.below)).mono ?_); rintro e u ⟨rfl, bb⟩; replace TA := Lib.hid (ge_call TA.out bb); clear bb))
    all_goals
      have TB := Lib.hid (ge_set TA.out r)
      go_wp2
      refine bodyPost_ret (v := .agg (cA r)) ?_ rfl ⟨rfl, TB.out.gd.below⟩
      exact ret_c Tryd.results9 _ _ (w.heap.size + 1 + 1) r rfl TB.out.gd.hr
end

end Go.Proofs.YtgmgpefegmlnoaaDoor.Out
