/- Contract of the document's own Guide. Conditions: the signals' numbers and the command's are int64 numbers; a mode is a byte. -/
import Derived.Test.YtgmgpefegmlnoaaDoorOutGd
namespace Go.Proofs.YtgmgpefegmlnoaaDoor.Out
open Go.ChangeShapes Go.WideShapes Go.ChangeAt Go.RowKit Num Mem Band

/-- Its first region: its operations; what has come up; what may come up then. -/
abbrev riOps : Array Oper := #[
  { dst := some 8, op := Op.move (Operand.tmp 0), type := 5, pos := "ref.go:27", after := #[], guard := none },
  { dst := some 9, op := Op.indexAddr 24 (Operand.tmp 4) (Operand.const (Value.int IntKind.i64 0)), type := 0, pos := "ref.go:27", after := #[], guard := none },
  { dst := some 10, op := Op.load 23 (Operand.tmp 9), type := 23, pos := "ref.go:27", after := #[{ on := 1, ground := Ground.data }], guard := none },
  { dst := some 11, op := Op.indexAddr 24 (Operand.tmp 4) (Operand.const (Value.int IntKind.i64 2)), type := 0, pos := "ref.go:27", after := #[], guard := none },
  { dst := some 12, op := Op.load 23 (Operand.tmp 11), type := 23, pos := "ref.go:27", after := #[{ on := 3, ground := Ground.data }], guard := none },
  { dst := some 13, op := Op.fieldAddr 26 (Operand.tmp 5) 0, type := 0, pos := "ref.go:27", after := #[], guard := none },
  { dst := some 14, op := Op.load 2 (Operand.tmp 13), type := 2, pos := "ref.go:27", after := #[{ on := 5, ground := Ground.data }], guard := none },
  { dst := some 15, op := Op.call { callee := Callee.value (Operand.func 21), args := #[Operand.tmp 8, Operand.tmp 10, Operand.tmp 12, Operand.tmp 14], argTypes := #[5, 23, 23, 2] }, type := 2, pos := "ref.go:27", after := #[{ on := 0, ground := Ground.data }, { on := 2, ground := Ground.data }, { on := 4, ground := Ground.data }, { on := 6, ground := Ground.data }], guard := none },
  { dst := some 16, op := Op.move (Operand.tmp 0), type := 5, pos := "ref.go:27", after := #[], guard := none },
  { dst := some 17, op := Op.indexAddr 24 (Operand.tmp 4) (Operand.const (Value.int IntKind.i64 1)), type := 0, pos := "ref.go:27", after := #[], guard := none },
  { dst := some 18, op := Op.load 23 (Operand.tmp 17), type := 23, pos := "ref.go:27", after := #[{ on := 9, ground := Ground.data }], guard := none },
  { dst := some 19, op := Op.indexAddr 24 (Operand.tmp 4) (Operand.const (Value.int IntKind.i64 2)), type := 0, pos := "ref.go:27", after := #[], guard := none },
  { dst := some 20, op := Op.load 23 (Operand.tmp 19), type := 23, pos := "ref.go:27", after := #[{ on := 11, ground := Ground.data }], guard := none },
  { dst := some 21, op := Op.fieldAddr 26 (Operand.tmp 5) 1, type := 0, pos := "ref.go:27", after := #[], guard := none },
  { dst := some 22, op := Op.load 2 (Operand.tmp 21), type := 2, pos := "ref.go:27", after := #[{ on := 13, ground := Ground.data }], guard := none },
  { dst := some 23, op := Op.call { callee := Callee.value (Operand.func 22), args := #[Operand.tmp 16, Operand.tmp 18, Operand.tmp 20, Operand.tmp 22], argTypes := #[5, 23, 23, 2] }, type := 2, pos := "ref.go:27", after := #[{ on := 8, ground := Ground.data }, { on := 10, ground := Ground.data }, { on := 12, ground := Ground.data }, { on := 14, ground := Ground.data }, { on := 7, ground := Ground.chain }], guard := none },
  { dst := some 24, op := Op.move (Operand.tmp 0), type := 5, pos := "ref.go:27", after := #[], guard := none },
  { dst := some 25, op := Op.indexAddr 24 (Operand.tmp 4) (Operand.const (Value.int IntKind.i64 3)), type := 0, pos := "ref.go:27", after := #[], guard := none },
  { dst := some 26, op := Op.load 23 (Operand.tmp 25), type := 23, pos := "ref.go:27", after := #[{ on := 17, ground := Ground.data }], guard := none },
  { dst := some 27, op := Op.fieldAddr 26 (Operand.tmp 5) 2, type := 0, pos := "ref.go:27", after := #[], guard := none },
  { dst := some 28, op := Op.load 2 (Operand.tmp 27), type := 2, pos := "ref.go:27", after := #[{ on := 19, ground := Ground.data }], guard := none },
  { dst := some 29, op := Op.call { callee := Callee.value (Operand.func 23), args := #[Operand.tmp 24, Operand.tmp 26, Operand.tmp 28], argTypes := #[5, 23, 2] }, type := 2, pos := "ref.go:27", after := #[{ on := 16, ground := Ground.data }, { on := 18, ground := Ground.data }, { on := 20, ground := Ground.data }, { on := 15, ground := Ground.chain }], guard := none },
  { dst := some 30, op := Op.build 26 #[(0, Operand.tmp 15), (1, Operand.tmp 23), (2, Operand.tmp 29)], type := 26, pos := "ref.go:27", after := #[{ on := 7, ground := Ground.data }, { on := 15, ground := Ground.data }, { on := 21, ground := Ground.data }], guard := none },
  { dst := some 7, op := Op.alloc 26, type := 0, pos := "ref.go:27", after := #[], guard := none },
  { dst := none, op := Op.store 26 (Operand.tmp 7) (Operand.tmp 30), type := 0, pos := "ref.go:27", after := #[{ on := 23, ground := Ground.data }, { on := 22, ground := Ground.data }, { on := 21, ground := Ground.chain }, { on := 0, ground := Ground.phase }, { on := 1, ground := Ground.phase }, { on := 2, ground := Ground.phase }, { on := 3, ground := Ground.phase }, { on := 4, ground := Ground.phase }, { on := 5, ground := Ground.phase }, { on := 6, ground := Ground.phase }, { on := 7, ground := Ground.phase }, { on := 8, ground := Ground.phase }, { on := 9, ground := Ground.phase }, { on := 10, ground := Ground.phase }, { on := 11, ground := Ground.phase }, { on := 12, ground := Ground.phase }, { on := 13, ground := Ground.phase }, { on := 14, ground := Ground.phase }, { on := 15, ground := Ground.phase }, { on := 16, ground := Ground.phase }, { on := 17, ground := Ground.phase }, { on := 18, ground := Ground.phase }, { on := 19, ground := Ground.phase }, { on := 20, ground := Ground.phase }, { on := 21, ground := Ground.phase }, { on := 22, ground := Ground.phase }, { on := 23, ground := Ground.phase }], guard := none }]
abbrev riL (c : Nat) (b : Bool) : Array Bool := #[true, true, true, true, true, true, true, decide (1 ≤ c), true, true, true, true, true, true, true, decide (2 ≤ c), true, true, true, true, true, decide (3 ≤ c), decide (4 ≤ c), b, decide (5 ≤ c)]
theorem ri_next : ∀ c : Fin 6, ∀ b : Bool, ∀ i ∈ Region.ready .any riOps (riL c b), (i = 7 ∧ c.val = 0) ∨ (i = 15 ∧ c.val = 1) ∨ (i = 21 ∧ c.val = 2) ∨ (i = 22 ∧ c.val = 3) ∨ (i = 23 ∧ b = false) ∨ (i = 24 ∧ c.val = 4 ∧ b = true) := by decide +kernel
theorem ri_end : ∀ c : Fin 6, ∀ b : Bool, Region.ready .any riOps (riL c b) = [] → c.val = 5 ∧ b = true := by decide +kernel
/-- What lies in memory then: what is wanted, once it is there. -/
structure Ri (w0 : World) (X : Nat → Vt) (p q : Nat → Int) (c : Nat) (b : Bool) (g : Nat) (w : World) : Prop where
  gd : GdAt w0 X p zC w
  hb : b = true → Blk w g (cA (ca c 5 q)) 26 ∧ w0.heap.size + 1 + 1 < g
section
variable {w0 w w1 : World} {X : Nat → Vt} {p q R : Nat → Int} {c g : Nat} {b : Bool}
theorem ri_call (h : Ri w0 X p q c b g w) (bl : Below w.heap.size w w1) : Ri w0 X p q c b g w1 := ⟨gd_call h.gd bl, fun x => ⟨blk_kept (h.hb x).1 bl, (h.hb x).2⟩⟩
theorem ri_as (d : Nat) (h : Ri w0 X p q c b g w) (e : ca c 5 q = ca d 5 q) : Ri w0 X p q d b g w := ⟨h.gd, fun x => by rw [← e]; exact h.hb x⟩
theorem ri_new (h : Ri w0 X p q c false g w) (hc : c ≤ 4) : Ri w0 X p q c true w.heap.size (w.alloc (.cells (cA zC) 26)) := by
  have k := ri_call h (allocs w (.cells (cA zC) 26))
  have e : ca c 5 q = zC := if_neg (by omega)
  exact ⟨k.gd, fun _ => ⟨by rw [e]; exact blk_alloc w _ _, gd_lt h.gd⟩⟩
theorem ri_put (h : Ri w0 X p q 4 true g w) : Ri w0 X p q 5 true g (w.setRow g (cA q)) := by
  obtain ⟨k, l⟩ := h.hb rfl
  exact ⟨gd_far h.gd l _, fun _ => ⟨blk_row k _, l⟩⟩
end
/-- Between two operations. -/
def RiI (w0 : World) (m : Int) (X : Nat → Vt) (p q : Nat → Int) (n : Nat) (l : Array Bool) (a : Act) (w : World) : Prop :=
  ∃ (c : Nat) (b : Bool) (g : Nat), c ≤ 5 ∧ (5 ≤ c → b = true) ∧ l = riL c b ∧ n + c + b.toNat = 6 ∧
    a = { tmps := #[.int .u8 m, .agg (v12 X), .agg (cA p), undef, .pointer (some ⟨w0.heap.size, 0, none⟩), .pointer (some ⟨w0.heap.size + 1, 0, none⟩), .pointer (some ⟨w0.heap.size + 1 + 1, 0, none⟩), sl b (ptr g), .int .u8 m, .pointer (some ⟨w0.heap.size, 0, none⟩), .agg (vtA (X 0)), .pointer (some ⟨w0.heap.size, 6, none⟩), .agg (vtA (X 2)), .pointer (some ⟨w0.heap.size + 1, 0, none⟩), .int .i64 (p 0), sc c 1 (.int .i64 (q 0)), .int .u8 m, .pointer (some ⟨w0.heap.size, 3, none⟩), .agg (vtA (X 1)), .pointer (some ⟨w0.heap.size, 6, none⟩), .agg (vtA (X 2)), .pointer (some ⟨w0.heap.size + 1, 1, none⟩), .int .i64 (p 1), sc c 2 (.int .i64 (q 1)), .int .u8 m, .pointer (some ⟨w0.heap.size, 9, none⟩), .agg (vtA (X 3)), .pointer (some ⟨w0.heap.size + 1, 2, none⟩), .int .i64 (p 2), sc c 3 (.int .i64 (q 2)), sc c 4 (.agg (cA q)), undef, undef, undef], defers := [] } ∧ Ri w0 X p q c b g w

section
attribute [local go_sem ↓] ldC_eq stC_eq ldV_eq
set_option maxRecDepth 100000 in
set_option maxHeartbeats 4000000 in
theorem rGuideC (m : Int) (X : Nat → Vt) (p : Nat → Int) (hX : InX X) (hp : InC p) (w : World) : Calls Tryd.prog 10 #[.int .u8 m, .agg (v12 X), .agg (cA p)] w fun e w' => e = .returned (.agg (cA (gd m X p))) ∧ Below w.heap.size w w' := by
  have K0 := Lib.hid (gd_box w X p)
  have SD : Hid (∀ W, Calls Tryd.prog 21 #[.int .u8 m, .agg (vtA (X 0)), .agg (vtA (X 2)), .int .i64 (p 0)] W fun e w' => e = .returned (.int .i64 (want m X p 0)) ∧ Below W.heap.size W w') := Lib.hid fun W => Sd.rSideC m (X 0) (X 2) (p 0) (hX 0 (by decide)) (hp 0 (by decide)) W
  have SK : Hid (∀ W, Calls Tryd.prog 22 #[.int .u8 m, .agg (vtA (X 1)), .agg (vtA (X 2)), .int .i64 (p 1)] W fun e w' => e = .returned (.int .i64 (want m X p 1)) ∧ Below W.heap.size W w') := Lib.hid fun W => Sk.rSinkC m (X 1) (X 2) (p 1) (hX 1 (by decide)) (hX 2 (by decide)) (hp 1 (by decide)) W
  have TN : Hid (∀ W, Calls Tryd.prog 23 #[.int .u8 m, .agg (vtA (X 3)), .int .i64 (p 2)] W fun e w' => e = .returned (.int .i64 (want m X p 2)) ∧ Below W.heap.size W w') := Lib.hid fun W => Sd.rTurnC m (X 3) (p 2) (hX 3 (by decide)) (hp 2 (by decide)) W
  have LC := Lib.hid (fun W => rLimC p (want m X p) hp (want_In m X p) W)
  rw [show gd m X p = lim p (want m X p) from rfl]
  generalize want m X p = q at *
  generalize lim p q = r at *
  clear hX hp
  go_enter Tryd.func10, Tryd.ntmps10
  go_upto_region 1 with (fail)
  generalize World.alloc _ _ = W at *
  refine wp_region_held_drew (S := fun w' => (ldV (.pointer (some ⟨w.heap.size, 0, none⟩))).run Tryd.prog w' = .ok (.agg (vtA (X 0))) w' ∧ (ldV (.pointer (some ⟨w.heap.size, 3, none⟩))).run Tryd.prog w' = .ok (.agg (vtA (X 1))) w' ∧ (ldV (.pointer (some ⟨w.heap.size, 6, none⟩))).run Tryd.prog w' = .ok (.agg (vtA (X 2))) w' ∧ (ldV (.pointer (some ⟨w.heap.size, 9, none⟩))).run Tryd.prog w' = .ok (.agg (vtA (X 3))) w' ∧ w'.cell? ⟨w.heap.size + 1, 0, none⟩ = some (.int .i64 (p 0)) ∧ w'.cell? ⟨w.heap.size + 1, 1, none⟩ = some (.int .i64 (p 1)) ∧ w'.cell? ⟨w.heap.size + 1, 2, none⟩ = some (.int .i64 (p 2))) (by kernel_rfl) (gd_s (gd_drew K0.out)) (fun hHeld => ?_)
  refine wpAnyH_take (i := 0) (oi := { dst := some 8, op := Op.move (Operand.tmp 0), type := 5, pos := "ref.go:27", after := #[], guard := none }) (v := .int .u8 m) rfl (by kernel_rfl) (by kernel_rfl) (by kernel_rfl) (fun _ _ _ h => h) (Or.inl ⟨by rfl, ?_⟩) (by assumption) ?_
  · intro w hSw
    (try dsimp only at hSw)
    go_simp
  try simp only [Act.put, List.setIfInBounds_toArray, List.set_cons_zero, List.set_cons_succ]
  refine wpAnyH_take (i := 1) (oi := { dst := some 9, op := Op.indexAddr 24 (Operand.tmp 4) (Operand.const (Value.int IntKind.i64 0)), type := 0, pos := "ref.go:27", after := #[], guard := none }) (v := .pointer (some ⟨w.heap.size, 0, none⟩)) rfl (by kernel_rfl) (by kernel_rfl) (by kernel_rfl) (fun _ _ _ h => h) (Or.inl ⟨by rfl, ?_⟩) (by assumption) ?_
  · intro w hSw
    (try dsimp only at hSw)
    go_simp
  try simp only [Act.put, List.setIfInBounds_toArray, List.set_cons_zero, List.set_cons_succ]
  refine wpAnyH_take (i := 2) (oi := { dst := some 10, op := Op.load 23 (Operand.tmp 9), type := 23, pos := "ref.go:27", after := #[{ on := 1, ground := Ground.data }], guard := none }) (v := .agg (vtA (X 0))) rfl (by kernel_rfl) (by kernel_rfl) (by kernel_rfl) (fun _ _ _ h => h) (Or.inl ⟨by rfl, ?_⟩) (by assumption) ?_
  · intro w hSw
    (try dsimp only at hSw)
    go_simp
  try simp only [Act.put, List.setIfInBounds_toArray, List.set_cons_zero, List.set_cons_succ]
  refine wpAnyH_take (i := 3) (oi := { dst := some 11, op := Op.indexAddr 24 (Operand.tmp 4) (Operand.const (Value.int IntKind.i64 2)), type := 0, pos := "ref.go:27", after := #[], guard := none }) (v := .pointer (some ⟨w.heap.size, 6, none⟩)) rfl (by kernel_rfl) (by kernel_rfl) (by kernel_rfl) (fun _ _ _ h => h) (Or.inl ⟨by rfl, ?_⟩) (by assumption) ?_
  · intro w hSw
    (try dsimp only at hSw)
    go_simp
  try simp only [Act.put, List.setIfInBounds_toArray, List.set_cons_zero, List.set_cons_succ]
  refine wpAnyH_take (i := 4) (oi := { dst := some 12, op := Op.load 23 (Operand.tmp 11), type := 23, pos := "ref.go:27", after := #[{ on := 3, ground := Ground.data }], guard := none }) (v := .agg (vtA (X 2))) rfl (by kernel_rfl) (by kernel_rfl) (by kernel_rfl) (fun _ _ _ h => h) (Or.inl ⟨by rfl, ?_⟩) (by assumption) ?_
  · intro w hSw
    (try dsimp only at hSw)
    go_simp
  try simp only [Act.put, List.setIfInBounds_toArray, List.set_cons_zero, List.set_cons_succ]
  refine wpAnyH_take (i := 5) (oi := { dst := some 13, op := Op.fieldAddr 26 (Operand.tmp 5) 0, type := 0, pos := "ref.go:27", after := #[], guard := none }) (v := .pointer (some ⟨w.heap.size + 1, 0, none⟩)) rfl (by kernel_rfl) (by kernel_rfl) (by kernel_rfl) (fun _ _ _ h => h) (Or.inl ⟨by rfl, ?_⟩) (by assumption) ?_
  · intro w hSw
    (try dsimp only at hSw)
    go_simp
  try simp only [Act.put, List.setIfInBounds_toArray, List.set_cons_zero, List.set_cons_succ]
  refine wpAnyH_take (i := 6) (oi := { dst := some 14, op := Op.load 2 (Operand.tmp 13), type := 2, pos := "ref.go:27", after := #[{ on := 5, ground := Ground.data }], guard := none }) (v := .int .i64 (p 0)) rfl (by kernel_rfl) (by kernel_rfl) (by kernel_rfl) (fun _ _ _ h => h) (Or.inl ⟨by rfl, ?_⟩) (by assumption) ?_
  · intro w hSw
    (try dsimp only at hSw)
    go_simp
  try simp only [Act.put, List.setIfInBounds_toArray, List.set_cons_zero, List.set_cons_succ]
  refine wpAnyH_take (i := 8) (oi := { dst := some 16, op := Op.move (Operand.tmp 0), type := 5, pos := "ref.go:27", after := #[], guard := none }) (v := .int .u8 m) rfl (by kernel_rfl) (by kernel_rfl) (by kernel_rfl) (fun _ _ _ h => h) (Or.inl ⟨by rfl, ?_⟩) (by assumption) ?_
  · intro w hSw
    (try dsimp only at hSw)
    go_simp
  try simp only [Act.put, List.setIfInBounds_toArray, List.set_cons_zero, List.set_cons_succ]
  refine wpAnyH_take (i := 9) (oi := { dst := some 17, op := Op.indexAddr 24 (Operand.tmp 4) (Operand.const (Value.int IntKind.i64 1)), type := 0, pos := "ref.go:27", after := #[], guard := none }) (v := .pointer (some ⟨w.heap.size, 3, none⟩)) rfl (by kernel_rfl) (by kernel_rfl) (by kernel_rfl) (fun _ _ _ h => h) (Or.inl ⟨by rfl, ?_⟩) (by assumption) ?_
  · intro w hSw
    (try dsimp only at hSw)
    go_simp
  try simp only [Act.put, List.setIfInBounds_toArray, List.set_cons_zero, List.set_cons_succ]
  refine wpAnyH_take (i := 10) (oi := { dst := some 18, op := Op.load 23 (Operand.tmp 17), type := 23, pos := "ref.go:27", after := #[{ on := 9, ground := Ground.data }], guard := none }) (v := .agg (vtA (X 1))) rfl (by kernel_rfl) (by kernel_rfl) (by kernel_rfl) (fun _ _ _ h => h) (Or.inl ⟨by rfl, ?_⟩) (by assumption) ?_
  · intro w hSw
    (try dsimp only at hSw)
    go_simp
  try simp only [Act.put, List.setIfInBounds_toArray, List.set_cons_zero, List.set_cons_succ]
  refine wpAnyH_take (i := 11) (oi := { dst := some 19, op := Op.indexAddr 24 (Operand.tmp 4) (Operand.const (Value.int IntKind.i64 2)), type := 0, pos := "ref.go:27", after := #[], guard := none }) (v := .pointer (some ⟨w.heap.size, 6, none⟩)) rfl (by kernel_rfl) (by kernel_rfl) (by kernel_rfl) (fun _ _ _ h => h) (Or.inl ⟨by rfl, ?_⟩) (by assumption) ?_
  · intro w hSw
    (try dsimp only at hSw)
    go_simp
  try simp only [Act.put, List.setIfInBounds_toArray, List.set_cons_zero, List.set_cons_succ]
  refine wpAnyH_take (i := 12) (oi := { dst := some 20, op := Op.load 23 (Operand.tmp 19), type := 23, pos := "ref.go:27", after := #[{ on := 11, ground := Ground.data }], guard := none }) (v := .agg (vtA (X 2))) rfl (by kernel_rfl) (by kernel_rfl) (by kernel_rfl) (fun _ _ _ h => h) (Or.inl ⟨by rfl, ?_⟩) (by assumption) ?_
  · intro w hSw
    (try dsimp only at hSw)
    go_simp
  try simp only [Act.put, List.setIfInBounds_toArray, List.set_cons_zero, List.set_cons_succ]
  refine wpAnyH_take (i := 13) (oi := { dst := some 21, op := Op.fieldAddr 26 (Operand.tmp 5) 1, type := 0, pos := "ref.go:27", after := #[], guard := none }) (v := .pointer (some ⟨w.heap.size + 1, 1, none⟩)) rfl (by kernel_rfl) (by kernel_rfl) (by kernel_rfl) (fun _ _ _ h => h) (Or.inl ⟨by rfl, ?_⟩) (by assumption) ?_
  · intro w hSw
    (try dsimp only at hSw)
    go_simp
  try simp only [Act.put, List.setIfInBounds_toArray, List.set_cons_zero, List.set_cons_succ]
  refine wpAnyH_take (i := 14) (oi := { dst := some 22, op := Op.load 2 (Operand.tmp 21), type := 2, pos := "ref.go:27", after := #[{ on := 13, ground := Ground.data }], guard := none }) (v := .int .i64 (p 1)) rfl (by kernel_rfl) (by kernel_rfl) (by kernel_rfl) (fun _ _ _ h => h) (Or.inl ⟨by rfl, ?_⟩) (by assumption) ?_
  · intro w hSw
    (try dsimp only at hSw)
    go_simp
  try simp only [Act.put, List.setIfInBounds_toArray, List.set_cons_zero, List.set_cons_succ]
  refine wpAnyH_take (i := 16) (oi := { dst := some 24, op := Op.move (Operand.tmp 0), type := 5, pos := "ref.go:27", after := #[], guard := none }) (v := .int .u8 m) rfl (by kernel_rfl) (by kernel_rfl) (by kernel_rfl) (fun _ _ _ h => h) (Or.inl ⟨by rfl, ?_⟩) (by assumption) ?_
  · intro w hSw
    (try dsimp only at hSw)
    go_simp
  try simp only [Act.put, List.setIfInBounds_toArray, List.set_cons_zero, List.set_cons_succ]
  refine wpAnyH_take (i := 17) (oi := { dst := some 25, op := Op.indexAddr 24 (Operand.tmp 4) (Operand.const (Value.int IntKind.i64 3)), type := 0, pos := "ref.go:27", after := #[], guard := none }) (v := .pointer (some ⟨w.heap.size, 9, none⟩)) rfl (by kernel_rfl) (by kernel_rfl) (by kernel_rfl) (fun _ _ _ h => h) (Or.inl ⟨by rfl, ?_⟩) (by assumption) ?_
  · intro w hSw
    (try dsimp only at hSw)
    go_simp
  try simp only [Act.put, List.setIfInBounds_toArray, List.set_cons_zero, List.set_cons_succ]
  refine wpAnyH_take (i := 18) (oi := { dst := some 26, op := Op.load 23 (Operand.tmp 25), type := 23, pos := "ref.go:27", after := #[{ on := 17, ground := Ground.data }], guard := none }) (v := .agg (vtA (X 3))) rfl (by kernel_rfl) (by kernel_rfl) (by kernel_rfl) (fun _ _ _ h => h) (Or.inl ⟨by rfl, ?_⟩) (by assumption) ?_
  · intro w hSw
    (try dsimp only at hSw)
    go_simp
  try simp only [Act.put, List.setIfInBounds_toArray, List.set_cons_zero, List.set_cons_succ]
  refine wpAnyH_take (i := 19) (oi := { dst := some 27, op := Op.fieldAddr 26 (Operand.tmp 5) 2, type := 0, pos := "ref.go:27", after := #[], guard := none }) (v := .pointer (some ⟨w.heap.size + 1, 2, none⟩)) rfl (by kernel_rfl) (by kernel_rfl) (by kernel_rfl) (fun _ _ _ h => h) (Or.inl ⟨by rfl, ?_⟩) (by assumption) ?_
  · intro w hSw
    (try dsimp only at hSw)
    go_simp
  try simp only [Act.put, List.setIfInBounds_toArray, List.set_cons_zero, List.set_cons_succ]
  refine wpAnyH_take (i := 20) (oi := { dst := some 28, op := Op.load 2 (Operand.tmp 27), type := 2, pos := "ref.go:27", after := #[{ on := 19, ground := Ground.data }], guard := none }) (v := .int .i64 (p 2)) rfl (by kernel_rfl) (by kernel_rfl) (by kernel_rfl) (fun _ _ _ h => h) (Or.inl ⟨by rfl, ?_⟩) (by assumption) ?_
  · intro w hSw
    (try dsimp only at hSw)
    go_simp
  try simp only [Act.put, List.setIfInBounds_toArray, List.set_cons_zero, List.set_cons_succ]
  refine Inv.any_inv_at (n' := 6) (l' := riL 0 false) (I := RiI w m X p q) (by kernel_rfl) (by kernel_rfl) ?_ ?_ ?_
  case refine_3 => exact ⟨0, false, 0, by omega, by omega, rfl, rfl, rfl, gd_drew K0.out, fun x => by cases x⟩
  case refine_2 =>
    rintro n l a v ⟨c, b, g, hc, h5, rfl, hn, rfl, R⟩ i hi
    have HR := Lib.hid R
    clear R
    have t0 := Bool.toNat_le b
    rcases ri_next ⟨c, by omega⟩ b i hi with ⟨rfl, e⟩ | ⟨rfl, e⟩ | ⟨rfl, e⟩ | ⟨rfl, e⟩ | ⟨rfl, rfl⟩ | ⟨rfl, e, rfl⟩
    · obtain rfl : c = 0 := e
      obtain ⟨m', rfl⟩ : ∃ m', n = m' + 1 := ⟨n - 1, by omega⟩
      refine ⟨m', rfl, wpOp_step (o := { dst := some 15, op := Op.call { callee := Callee.value (Operand.func 21), args := #[Operand.tmp 8, Operand.tmp 10, Operand.tmp 12, Operand.tmp 14], argTypes := #[5, 23, 23, 2] }, type := 2, pos := "ref.go:27", after := #[{ on := 0, ground := Ground.data }, { on := 2, ground := Ground.data }, { on := 4, ground := Ground.data }, { on := 6, ground := Ground.data }], guard := none }) rfl fun K' hK => ?_⟩
      have HK := Lib.hid hK
      clear hK
      go_simp
      refine (SD.out _).mono ?_
      rintro e u ⟨rfl, bb⟩
      have R1 := ri_as 1 (ri_call HR.out bb) rfl
      exact HK.out _ _ ⟨gd_s R1.gd, 1, b, g, by omega, by omega, rfl, by omega, rfl, R1⟩
    · obtain rfl : c = 1 := e
      obtain ⟨m', rfl⟩ : ∃ m', n = m' + 1 := ⟨n - 1, by omega⟩
      refine ⟨m', rfl, wpOp_step (o := { dst := some 23, op := Op.call { callee := Callee.value (Operand.func 22), args := #[Operand.tmp 16, Operand.tmp 18, Operand.tmp 20, Operand.tmp 22], argTypes := #[5, 23, 23, 2] }, type := 2, pos := "ref.go:27", after := #[{ on := 8, ground := Ground.data }, { on := 10, ground := Ground.data }, { on := 12, ground := Ground.data }, { on := 14, ground := Ground.data }, { on := 7, ground := Ground.chain }], guard := none }) rfl fun K' hK => ?_⟩
      have HK := Lib.hid hK
      clear hK
      go_simp
      refine (SK.out _).mono ?_
      rintro e u ⟨rfl, bb⟩
      have R1 := ri_as 2 (ri_call HR.out bb) rfl
      exact HK.out _ _ ⟨gd_s R1.gd, 2, b, g, by omega, by omega, rfl, by omega, rfl, R1⟩
    · obtain rfl : c = 2 := e
      obtain ⟨m', rfl⟩ : ∃ m', n = m' + 1 := ⟨n - 1, by omega⟩
      refine ⟨m', rfl, wpOp_step (o := { dst := some 29, op := Op.call { callee := Callee.value (Operand.func 23), args := #[Operand.tmp 24, Operand.tmp 26, Operand.tmp 28], argTypes := #[5, 23, 2] }, type := 2, pos := "ref.go:27", after := #[{ on := 16, ground := Ground.data }, { on := 18, ground := Ground.data }, { on := 20, ground := Ground.data }, { on := 15, ground := Ground.chain }], guard := none }) rfl fun K' hK => ?_⟩
      have HK := Lib.hid hK
      clear hK
      go_simp
      refine (TN.out _).mono ?_
      rintro e u ⟨rfl, bb⟩
      have R1 := ri_as 3 (ri_call HR.out bb) rfl
      exact HK.out _ _ ⟨gd_s R1.gd, 3, b, g, by omega, by omega, rfl, by omega, rfl, R1⟩
    · obtain rfl : c = 3 := e
      obtain ⟨m', rfl⟩ : ∃ m', n = m' + 1 := ⟨n - 1, by omega⟩
      rw [show sc 3 1 (.int .i64 (q 0)) = .int .i64 (q 0) from rfl, show sc 3 2 (.int .i64 (q 1)) = .int .i64 (q 1) from rfl, show sc 3 3 (.int .i64 (q 2)) = .int .i64 (q 2) from rfl]
      refine ⟨m', rfl, wpOp_step (o := { dst := some 30, op := Op.build 26 #[(0, Operand.tmp 15), (1, Operand.tmp 23), (2, Operand.tmp 29)], type := 26, pos := "ref.go:27", after := #[{ on := 7, ground := Ground.data }, { on := 15, ground := Ground.data }, { on := 21, ground := Ground.data }], guard := none }) rfl fun K' hK => ?_⟩
      have HK := Lib.hid hK
      clear hK
      go_simp
      have R1 := ri_as 4 HR.out rfl
      exact HK.out _ _ ⟨gd_s R1.gd, 4, b, g, by omega, by omega, rfl, by omega, rfl, R1⟩
    · have hc4 : c ≤ 4 := by
        rcases Nat.lt_or_ge c 5 with x | x
        · omega
        · cases h5 x
      have q0 : false.toNat = 0 := rfl
      obtain ⟨m', rfl⟩ : ∃ m', n = m' + 1 := ⟨n - 1, by omega⟩
      clear q0
      refine ⟨m', rfl, wpOp_step (o := { dst := some 7, op := Op.alloc 26, type := 0, pos := "ref.go:27", after := #[], guard := none }) rfl fun K' hK => ?_⟩
      have HK := Lib.hid hK
      clear hK
      go_simp
      have R1 := ri_new HR.out hc4
      exact HK.out _ _ ⟨gd_s R1.gd, c, true, v.heap.size, hc, (fun _ => rfl), rfl, (by have q0 : false.toNat = 0 := rfl; have q1 : true.toNat = 1 := rfl; omega), rfl, R1⟩
    · obtain rfl : c = 4 := e
      have q1 : true.toNat = 1 := rfl
      obtain ⟨m', rfl⟩ : ∃ m', n = m' + 1 := ⟨n - 1, by omega⟩
      clear q1
      have s5 := stC_blk q (HR.out.hb rfl).1
      rw [show sl true (ptr g) = .pointer (some ⟨g, 0, none⟩) from rfl, show sc 4 4 (.agg (cA q)) = .agg (cA q) from rfl]
      refine ⟨m', rfl, wpOp_step (o := { dst := none, op := Op.store 26 (Operand.tmp 7) (Operand.tmp 30), type := 0, pos := "ref.go:27", after := #[{ on := 23, ground := Ground.data }, { on := 22, ground := Ground.data }, { on := 21, ground := Ground.chain }, { on := 0, ground := Ground.phase }, { on := 1, ground := Ground.phase }, { on := 2, ground := Ground.phase }, { on := 3, ground := Ground.phase }, { on := 4, ground := Ground.phase }, { on := 5, ground := Ground.phase }, { on := 6, ground := Ground.phase }, { on := 7, ground := Ground.phase }, { on := 8, ground := Ground.phase }, { on := 9, ground := Ground.phase }, { on := 10, ground := Ground.phase }, { on := 11, ground := Ground.phase }, { on := 12, ground := Ground.phase }, { on := 13, ground := Ground.phase }, { on := 14, ground := Ground.phase }, { on := 15, ground := Ground.phase }, { on := 16, ground := Ground.phase }, { on := 17, ground := Ground.phase }, { on := 18, ground := Ground.phase }, { on := 19, ground := Ground.phase }, { on := 20, ground := Ground.phase }, { on := 21, ground := Ground.phase }, { on := 22, ground := Ground.phase }, { on := 23, ground := Ground.phase }], guard := none }) rfl fun K' hK => ?_⟩
      have HK := Lib.hid hK
      clear hK
      go_simp
      clear s5
      have R1 := ri_put HR.out
      exact HK.out _ _ ⟨gd_s R1.gd, 5, true, g, by omega, (fun _ => rfl), rfl, (by have q0 : false.toNat = 0 := rfl; have q1 : true.toNat = 1 := rfl; omega), rfl, R1⟩
  case refine_1 =>
    rintro n l a v ⟨c, b, g, hc, h5, rfl, hn, rfl, R⟩ he
    obtain ⟨e, rfl⟩ := ri_end ⟨c, by omega⟩ b he
    obtain rfl : c = 5 := e
    have TA := Lib.hid R.gd
    have G := Lib.hid (R.hb rfl)
    have q1 := ldC_blk R.gd.hl
    have q2 : (ldC (.pointer (some ⟨g, 0, none⟩))).run Tryd.prog v = .ok (.agg (cA q)) v := ldC_blk (R.hb rfl).1
    clear R he hn h5 hc K0
    rw [show sl true (ptr g) = .pointer (some ⟨g, 0, none⟩) from rfl]
    go_wp2_with fail
    refine (LC.out _).mono ?_
    rintro e u ⟨rfl, bb⟩
    replace TA := Lib.hid (gd_call TA.out bb)
    have TB := Lib.hid (gd_set TA.out r)
    have s2 := stC_blk r TA.out.hr
    clear bb q1 q2
    go_wp2
    refine bodyPost_ret (v := .agg (cA r)) ?_ rfl ⟨rfl, TB.out.below⟩
    exact ret_c Tryd.results10 _ _ (w.heap.size + 1 + 1) r rfl TB.out.hr
end

end Go.Proofs.YtgmgpefegmlnoaaDoor.Out
