/- The contract of mode.rows: ten rows in a block, each with its questions. Conditions: none. -/
import Derived.Test.YtbifknihkjjhcaaModeAll
namespace Go.Proofs.Ytbifknihkjjhcaa.Md
open Go.ChangeShapes Go.WideShapes Go.ChangeAt Go.RowKit Num Mem Band

theorem gives_new {q : Q} {w : World} {o : Obj} {e : Ending} {w' : World} (h : Gives q (w.alloc o) e w') : Gives q w e w' := by
  obtain ⟨k, cap, he, ha, hb⟩ := h
  exact ⟨k, cap, he, ha, below_alloc hb⟩
theorem lt_new (w : World) (o : Obj) : w.heap.size < (w.alloc o).heap.size := by simp
theorem atA3 : ∀ i : Nat, i < 3 → (#[.int .u8 2, .int .u8 3, .int .u8 4] : Array Value)[i]? = some (.int .u8 (lsA i)) := fun i h => match i, h with
  | 0, _ => rfl
  | 1, _ => rfl
  | 2, _ => rfl
theorem inA3 (w : World) : Calls Try.prog 28 #[.slice (some ⟨w.heap.size, 0, none⟩) 3 3] (w.alloc (.cells #[.int .u8 2, .int .u8 3, .int .u8 4] 5)) (Gives (inQ lsA 3) w) :=
  (inC w.heap.size 3 3 lsA (w.alloc (.cells #[.int .u8 2, .int .u8 3, .int .u8 4] 5)) (by decide) (lt_new _ _) fun i hi => blk_cell (blk_alloc w _ _) (atA3 i hi)).mono fun _ _ h => gives_new h
theorem bandA3 (w : World) : Calls Try.prog 33 #[.slice (some ⟨w.heap.size, 0, none⟩) 3 3] (w.alloc (.cells #[.int .u8 2, .int .u8 3, .int .u8 4] 5)) (Gives (bandQ lsA 3) w) :=
  (bandC w.heap.size 3 3 lsA (w.alloc (.cells #[.int .u8 2, .int .u8 3, .int .u8 4] 5)) (by decide) (lt_new _ _) fun i hi => blk_cell (blk_alloc w _ _) (atA3 i hi)).mono fun _ _ h => gives_new h
theorem atA4 : ∀ i : Nat, i < 4 → (#[.int .u8 2, .int .u8 3, .int .u8 4, .int .u8 5] : Array Value)[i]? = some (.int .u8 (lsA i)) := fun i h => match i, h with
  | 0, _ => rfl
  | 1, _ => rfl
  | 2, _ => rfl
  | 3, _ => rfl
theorem inA4 (w : World) : Calls Try.prog 28 #[.slice (some ⟨w.heap.size, 0, none⟩) 4 4] (w.alloc (.cells #[.int .u8 2, .int .u8 3, .int .u8 4, .int .u8 5] 5)) (Gives (inQ lsA 4) w) :=
  (inC w.heap.size 4 4 lsA (w.alloc (.cells #[.int .u8 2, .int .u8 3, .int .u8 4, .int .u8 5] 5)) (by decide) (lt_new _ _) fun i hi => blk_cell (blk_alloc w _ _) (atA4 i hi)).mono fun _ _ h => gives_new h
theorem bandA4 (w : World) : Calls Try.prog 33 #[.slice (some ⟨w.heap.size, 0, none⟩) 4 4] (w.alloc (.cells #[.int .u8 2, .int .u8 3, .int .u8 4, .int .u8 5] 5)) (Gives (bandQ lsA 4) w) :=
  (bandC w.heap.size 4 4 lsA (w.alloc (.cells #[.int .u8 2, .int .u8 3, .int .u8 4, .int .u8 5] 5)) (by decide) (lt_new _ _) fun i hi => blk_cell (blk_alloc w _ _) (atA4 i hi)).mono fun _ _ h => gives_new h
theorem atB2 : ∀ i : Nat, i < 2 → (#[.int .u8 3, .int .u8 4] : Array Value)[i]? = some (.int .u8 (lsB i)) := fun i h => match i, h with
  | 0, _ => rfl
  | 1, _ => rfl
theorem inB2 (w : World) : Calls Try.prog 28 #[.slice (some ⟨w.heap.size, 0, none⟩) 2 2] (w.alloc (.cells #[.int .u8 3, .int .u8 4] 5)) (Gives (inQ lsB 2) w) :=
  (inC w.heap.size 2 2 lsB (w.alloc (.cells #[.int .u8 3, .int .u8 4] 5)) (by decide) (lt_new _ _) fun i hi => blk_cell (blk_alloc w _ _) (atB2 i hi)).mono fun _ _ h => gives_new h
theorem bandB2 (w : World) : Calls Try.prog 33 #[.slice (some ⟨w.heap.size, 0, none⟩) 2 2] (w.alloc (.cells #[.int .u8 3, .int .u8 4] 5)) (Gives (bandQ lsB 2) w) :=
  (bandC w.heap.size 2 2 lsB (w.alloc (.cells #[.int .u8 3, .int .u8 4] 5)) (by decide) (lt_new _ _) fun i hi => blk_cell (blk_alloc w _ _) (atB2 i hi)).mono fun _ _ h => gives_new h
theorem atC0 : ∀ i : Nat, i < 1 → (#[.int .u8 0] : Array Value)[i]? = some (.int .u8 ((lsC 0) i)) := fun i h => match i, h with
  | 0, _ => rfl
theorem inC0 (w : World) : Calls Try.prog 28 #[.slice (some ⟨w.heap.size, 0, none⟩) 1 1] (w.alloc (.cells #[.int .u8 0] 5)) (Gives (inQ (lsC 0) 1) w) :=
  (inC w.heap.size 1 1 (lsC 0) (w.alloc (.cells #[.int .u8 0] 5)) (by decide) (lt_new _ _) fun i hi => blk_cell (blk_alloc w _ _) (atC0 i hi)).mono fun _ _ h => gives_new h
theorem bandC0 (w : World) : Calls Try.prog 33 #[.slice (some ⟨w.heap.size, 0, none⟩) 1 1] (w.alloc (.cells #[.int .u8 0] 5)) (Gives (bandQ (lsC 0) 1) w) :=
  (bandC w.heap.size 1 1 (lsC 0) (w.alloc (.cells #[.int .u8 0] 5)) (by decide) (lt_new _ _) fun i hi => blk_cell (blk_alloc w _ _) (atC0 i hi)).mono fun _ _ h => gives_new h
theorem atC1 : ∀ i : Nat, i < 1 → (#[.int .u8 1] : Array Value)[i]? = some (.int .u8 ((lsC 1) i)) := fun i h => match i, h with
  | 0, _ => rfl
theorem inC1 (w : World) : Calls Try.prog 28 #[.slice (some ⟨w.heap.size, 0, none⟩) 1 1] (w.alloc (.cells #[.int .u8 1] 5)) (Gives (inQ (lsC 1) 1) w) :=
  (inC w.heap.size 1 1 (lsC 1) (w.alloc (.cells #[.int .u8 1] 5)) (by decide) (lt_new _ _) fun i hi => blk_cell (blk_alloc w _ _) (atC1 i hi)).mono fun _ _ h => gives_new h
theorem bandC1 (w : World) : Calls Try.prog 33 #[.slice (some ⟨w.heap.size, 0, none⟩) 1 1] (w.alloc (.cells #[.int .u8 1] 5)) (Gives (bandQ (lsC 1) 1) w) :=
  (bandC w.heap.size 1 1 (lsC 1) (w.alloc (.cells #[.int .u8 1] 5)) (by decide) (lt_new _ _) fun i hi => blk_cell (blk_alloc w _ _) (atC1 i hi)).mono fun _ _ h => gives_new h
theorem atC2 : ∀ i : Nat, i < 1 → (#[.int .u8 2] : Array Value)[i]? = some (.int .u8 ((lsC 2) i)) := fun i h => match i, h with
  | 0, _ => rfl
theorem inC2 (w : World) : Calls Try.prog 28 #[.slice (some ⟨w.heap.size, 0, none⟩) 1 1] (w.alloc (.cells #[.int .u8 2] 5)) (Gives (inQ (lsC 2) 1) w) :=
  (inC w.heap.size 1 1 (lsC 2) (w.alloc (.cells #[.int .u8 2] 5)) (by decide) (lt_new _ _) fun i hi => blk_cell (blk_alloc w _ _) (atC2 i hi)).mono fun _ _ h => gives_new h
theorem bandC2 (w : World) : Calls Try.prog 33 #[.slice (some ⟨w.heap.size, 0, none⟩) 1 1] (w.alloc (.cells #[.int .u8 2] 5)) (Gives (bandQ (lsC 2) 1) w) :=
  (bandC w.heap.size 1 1 (lsC 2) (w.alloc (.cells #[.int .u8 2] 5)) (by decide) (lt_new _ _) fun i hi => blk_cell (blk_alloc w _ _) (atC2 i hi)).mono fun _ _ h => gives_new h
theorem atC3 : ∀ i : Nat, i < 1 → (#[.int .u8 3] : Array Value)[i]? = some (.int .u8 ((lsC 3) i)) := fun i h => match i, h with
  | 0, _ => rfl
theorem inC3 (w : World) : Calls Try.prog 28 #[.slice (some ⟨w.heap.size, 0, none⟩) 1 1] (w.alloc (.cells #[.int .u8 3] 5)) (Gives (inQ (lsC 3) 1) w) :=
  (inC w.heap.size 1 1 (lsC 3) (w.alloc (.cells #[.int .u8 3] 5)) (by decide) (lt_new _ _) fun i hi => blk_cell (blk_alloc w _ _) (atC3 i hi)).mono fun _ _ h => gives_new h
theorem bandC3 (w : World) : Calls Try.prog 33 #[.slice (some ⟨w.heap.size, 0, none⟩) 1 1] (w.alloc (.cells #[.int .u8 3] 5)) (Gives (bandQ (lsC 3) 1) w) :=
  (bandC w.heap.size 1 1 (lsC 3) (w.alloc (.cells #[.int .u8 3] 5)) (by decide) (lt_new _ _) fun i hi => blk_cell (blk_alloc w _ _) (atC3 i hi)).mono fun _ _ h => gives_new h
theorem atC4 : ∀ i : Nat, i < 1 → (#[.int .u8 4] : Array Value)[i]? = some (.int .u8 ((lsC 4) i)) := fun i h => match i, h with
  | 0, _ => rfl
theorem inC4 (w : World) : Calls Try.prog 28 #[.slice (some ⟨w.heap.size, 0, none⟩) 1 1] (w.alloc (.cells #[.int .u8 4] 5)) (Gives (inQ (lsC 4) 1) w) :=
  (inC w.heap.size 1 1 (lsC 4) (w.alloc (.cells #[.int .u8 4] 5)) (by decide) (lt_new _ _) fun i hi => blk_cell (blk_alloc w _ _) (atC4 i hi)).mono fun _ _ h => gives_new h
theorem bandC4 (w : World) : Calls Try.prog 33 #[.slice (some ⟨w.heap.size, 0, none⟩) 1 1] (w.alloc (.cells #[.int .u8 4] 5)) (Gives (bandQ (lsC 4) 1) w) :=
  (bandC w.heap.size 1 1 (lsC 4) (w.alloc (.cells #[.int .u8 4] 5)) (by decide) (lt_new _ _) fun i hi => blk_cell (blk_alloc w _ _) (atC4 i hi)).mono fun _ _ h => gives_new h
theorem atC6 : ∀ i : Nat, i < 1 → (#[.int .u8 6] : Array Value)[i]? = some (.int .u8 ((lsC 6) i)) := fun i h => match i, h with
  | 0, _ => rfl
theorem inC6 (w : World) : Calls Try.prog 28 #[.slice (some ⟨w.heap.size, 0, none⟩) 1 1] (w.alloc (.cells #[.int .u8 6] 5)) (Gives (inQ (lsC 6) 1) w) :=
  (inC w.heap.size 1 1 (lsC 6) (w.alloc (.cells #[.int .u8 6] 5)) (by decide) (lt_new _ _) fun i hi => blk_cell (blk_alloc w _ _) (atC6 i hi)).mono fun _ _ h => gives_new h
theorem bandC6 (w : World) : Calls Try.prog 33 #[.slice (some ⟨w.heap.size, 0, none⟩) 1 1] (w.alloc (.cells #[.int .u8 6] 5)) (Gives (bandQ (lsC 6) 1) w) :=
  (bandC w.heap.size 1 1 (lsC 6) (w.alloc (.cells #[.int .u8 6] 5)) (by decide) (lt_new _ _) fun i hi => blk_cell (blk_alloc w _ _) (atC6 i hi)).mono fun _ _ h => gives_new h
def two' (a b : Value) : Nat → Value := fun i => match i with
  | 0 => a
  | _ => b
def three' (a b c : Value) : Nat → Value := fun i => match i with
  | 0 => a
  | 1 => b
  | _ => c
theorem all2 (w : World) (a b : Value) (p q : Q) (ha : Ask w a p) (hb : Ask w b q) : Calls Try.prog 29 #[.slice (some ⟨w.heap.size, 0, none⟩) 2 2] (w.alloc (.cells #[a, b] 41)) (Gives (allQ (two p q) 2) w) :=
  (allC w.heap.size 2 2 (two' a b) (two p q) (w.alloc (.cells #[a, b] 41)) (by decide) (lt_new _ _) (fun i hi => blk_cell (blk_alloc w _ _) (match i, hi with
    | 0, _ => rfl
    | 1, _ => rfl)) fun i hi => ask_kept (match i, hi with
    | 0, _ => ha
    | 1, _ => hb) (allocs w _)).mono fun _ _ h => gives_new h
theorem all3 (w : World) (a b c : Value) (p q r : Q) (ha : Ask w a p) (hb : Ask w b q) (hc : Ask w c r) : Calls Try.prog 29 #[.slice (some ⟨w.heap.size, 0, none⟩) 3 3] (w.alloc (.cells #[a, b, c] 41)) (Gives (allQ (three p q r) 3) w) :=
  (allC w.heap.size 3 3 (three' a b c) (three p q r) (w.alloc (.cells #[a, b, c] 41)) (by decide) (lt_new _ _) (fun i hi => blk_cell (blk_alloc w _ _) (match i, hi with
    | 0, _ => rfl
    | 1, _ => rfl
    | 2, _ => rfl)) fun i hi => ask_kept (match i, hi with
    | 0, _ => ha
    | 1, _ => hb
    | 2, _ => hc) (allocs w _)).mono fun _ _ h => gives_new h

/-- Ten values, by their places; the rows' cells. -/
def ten (a0 a1 a2 a3 a4 a5 a6 a7 a8 a9 : Value) : Nat → Value := fun i => match i with
  | 0 => a0
  | 1 => a1
  | 2 => a2
  | 3 => a3
  | 4 => a4
  | 5 => a5
  | 6 => a6
  | 7 => a7
  | 8 => a8
  | _ => a9
theorem ten_all {P : Nat → Value → Prop} {a0 a1 a2 a3 a4 a5 a6 a7 a8 a9 : Value} (h0 : P 0 a0) (h1 : P 1 a1) (h2 : P 2 a2) (h3 : P 3 a3) (h4 : P 4 a4) (h5 : P 5 a5) (h6 : P 6 a6) (h7 : P 7 a7) (h8 : P 8 a8) (h9 : P 9 a9) : ∀ j, j < 10 → P j (ten a0 a1 a2 a3 a4 a5 a6 a7 a8 a9 j) := fun j hj => match j, hj with
  | 0, _ => h0
  | 1, _ => h1
  | 2, _ => h2
  | 3, _ => h3
  | 4, _ => h4
  | 5, _ => h5
  | 6, _ => h6
  | 7, _ => h7
  | 8, _ => h8
  | 9, _ => h9
abbrev rwA (F H : Nat → Value) : Array Value := #[F 0, H 0, .int .u8 (too 0), F 1, H 1, .int .u8 (too 1), F 2, H 2, .int .u8 (too 2), F 3, H 3, .int .u8 (too 3), F 4, H 4, .int .u8 (too 4), F 5, H 5, .int .u8 (too 5), F 6, H 6, .int .u8 (too 6), F 7, H 7, .int .u8 (too 7), F 8, H 8, .int .u8 (too 8), F 9, H 9, .int .u8 (too 9)]
/-- A value is a function. -/
def IsFn (v : Value) : Prop := ∃ k cap, v = .func (.func k) #[] cap
structure RwAt (g : Nat) (F H : Nat → Value) (w : World) : Prop where
  row : Blk w g (rwA F H) 43
  from_ : ∀ j, j < 10 → Ask w (F j) (fr j)
  holds : ∀ j, j < 10 → Ask w (H j) (ho j)
theorem rw_kept {g : Nat} {F H : Nat → Value} {w w1 : World} (h : RwAt g F H w) (b : Below w.heap.size w w1) : RwAt g F H w1 :=
  ⟨blk_kept h.row b, fun j hj => ask_kept (h.from_ j hj) b, fun j hj => ask_kept (h.holds j hj) b⟩
def RowsIs (w : World) (e : Ending) (w' : World) : Prop := ∃ g F H, e = .returned (.slice (some ⟨g, 0, none⟩) 10 10) ∧ RwAt g F H w' ∧ Below w.heap.size w w'

set_option maxRecDepth 100000 in
set_option maxHeartbeats 8000000 in
theorem rowsC (w : World) : Calls Try.prog 23 #[] w (RowsIs w) := by
  go_enter Try.func23, Try.ntmps23
  go_wp2_with fail
  with_reducible refine (exceptC 0 w).mono ?_
  rintro e w1 ⟨k1, p1, rfl, a, b⟩
  have A1 := Lib.hid a
  have B1 := Lib.hid b
  clear a b
  go_wp2_with fail
  with_reducible refine (crewC 4 w1).mono ?_
  rintro e w2 ⟨k2, p2, rfl, a, b⟩
  have A2 := Lib.hid a
  have B2 := Lib.hid b
  clear a b
  go_wp2_with fail
  with_reducible refine (inA3 w2).mono ?_
  rintro e w3 ⟨k3, p3, rfl, a, b⟩
  have A3 := Lib.hid a
  have B3 := Lib.hid b
  clear a b
  go_wp2_with fail
  with_reducible refine (crewC 2 w3).mono ?_
  rintro e w4 ⟨k4, p4, rfl, a, b⟩
  have A4 := Lib.hid a
  have B4 := Lib.hid b
  clear a b
  go_wp2_with fail
  with_reducible refine (all2 w4 (.func (.func k4) #[] p4) (.func (.func 30) #[] #[]) (crewQ 2) armQ A4.out (ask_arm _)).mono ?_
  rintro e w5 ⟨k5, p5, rfl, a, b⟩
  have A5 := Lib.hid a
  have B5 := Lib.hid b
  clear a b
  go_wp2_with fail
  with_reducible refine (inA4 w5).mono ?_
  rintro e w6 ⟨k6, p6, rfl, a, b⟩
  have A6 := Lib.hid a
  have B6 := Lib.hid b
  clear a b
  go_wp2_with fail
  with_reducible refine (inC0 w6).mono ?_
  rintro e w7 ⟨k7, p7, rfl, a, b⟩
  have A7 := Lib.hid a
  have B7 := Lib.hid b
  clear a b
  go_wp2_with fail
  with_reducible refine (crewC 1 w7).mono ?_
  rintro e w8 ⟨k8, p8, rfl, a, b⟩
  have A8 := Lib.hid a
  have B8 := Lib.hid b
  clear a b
  go_wp2_with fail
  with_reducible refine (bandC0 w8).mono ?_
  rintro e w9 ⟨k9, p9, rfl, a, b⟩
  have A9 := Lib.hid a
  have B9 := Lib.hid b
  clear a b
  go_wp2_with fail
  with_reducible refine (all3 w9 (.func (.func k8) #[] p8) (.func (.func 32) #[] #[]) (.func (.func k9) #[] p9) (crewQ 1) levQ (bandQ (lsC 0) 1) (ask_kept A8.out B9.out) (ask_lev _) A9.out).mono ?_
  rintro e w10 ⟨k10, p10, rfl, a, b⟩
  have A10 := Lib.hid a
  have B10 := Lib.hid b
  clear a b
  go_wp2_with fail
  with_reducible refine (inC1 w10).mono ?_
  rintro e w11 ⟨k11, p11, rfl, a, b⟩
  have A11 := Lib.hid a
  have B11 := Lib.hid b
  clear a b
  go_wp2_with fail
  with_reducible refine (inC1 w11).mono ?_
  rintro e w12 ⟨k12, p12, rfl, a, b⟩
  have A12 := Lib.hid a
  have B12 := Lib.hid b
  clear a b
  go_wp2_with fail
  with_reducible refine (all2 w12 (.func (.func 34) #[] #[]) (.func (.func 35) #[] #[]) locQ glideQ (ask_loc _) (ask_glide _)).mono ?_
  rintro e w13 ⟨k13, p13, rfl, a, b⟩
  have A13 := Lib.hid a
  have B13 := Lib.hid b
  clear a b
  go_wp2_with fail
  with_reducible refine (inC2 w13).mono ?_
  rintro e w14 ⟨k14, p14, rfl, a, b⟩
  have A14 := Lib.hid a
  have B14 := Lib.hid b
  clear a b
  go_wp2_with fail
  with_reducible refine (bandA3 w14).mono ?_
  rintro e w15 ⟨k15, p15, rfl, a, b⟩
  have A15 := Lib.hid a
  have B15 := Lib.hid b
  clear a b
  go_wp2_with fail
  with_reducible refine (inC3 w15).mono ?_
  rintro e w16 ⟨k16, p16, rfl, a, b⟩
  have A16 := Lib.hid a
  have B16 := Lib.hid b
  clear a b
  go_wp2_with fail
  with_reducible refine (bandB2 w16).mono ?_
  rintro e w17 ⟨k17, p17, rfl, a, b⟩
  have A17 := Lib.hid a
  have B17 := Lib.hid b
  clear a b
  go_wp2_with fail
  with_reducible refine (inC4 w17).mono ?_
  rintro e w18 ⟨k18, p18, rfl, a, b⟩
  have A18 := Lib.hid a
  have B18 := Lib.hid b
  clear a b
  go_wp2_with fail
  with_reducible refine (bandC4 w18).mono ?_
  rintro e w19 ⟨k19, p19, rfl, a, b⟩
  have A19 := Lib.hid a
  have B19 := Lib.hid b
  clear a b
  go_wp2_with fail
  with_reducible refine (all2 w19 (.func (.func k19) #[] p19) (.func (.func 36) #[] #[]) (bandQ (lsC 4) 1) wheelQ A19.out (ask_wheel _)).mono ?_
  rintro e w20 ⟨k20, p20, rfl, a, b⟩
  have A20 := Lib.hid a
  have B20 := Lib.hid b
  clear a b
  go_wp2_with fail
  with_reducible refine (inC6 w20).mono ?_
  rintro e w21 ⟨k21, p21, rfl, a, b⟩
  have A21 := Lib.hid a
  have B21 := Lib.hid b
  clear a b
  go_wp2_with fail
  with_reducible refine (crewC 8 w21).mono ?_
  rintro e w22 ⟨k22, p22, rfl, a, b⟩
  have A22 := Lib.hid a
  have B22 := Lib.hid b
  clear a b
  go_wp2_with fail
  with_reducible refine (bandC0 w22).mono ?_
  rintro e w23 ⟨k23, p23, rfl, a, b⟩
  have A23 := Lib.hid a
  have B23 := Lib.hid b
  clear a b
  go_wp2_with fail
  with_reducible refine (all2 w23 (.func (.func k22) #[] p22) (.func (.func k23) #[] p23) (crewQ 8) (bandQ (lsC 0) 1) (ask_kept A22.out B23.out) A23.out).mono ?_
  rintro e w24 ⟨k24, p24, rfl, a, b⟩
  have A24 := Lib.hid a
  have B24 := Lib.hid b
  clear a b
  go_wp2
  go_ret
  have C24 := Lib.hid (allocs w24 (.cells (rwA (ten (.func (.func k1) #[] p1) (.func (.func k3) #[] p3) (.func (.func k6) #[] p6) (.func (.func k7) #[] p7) (.func (.func k11) #[] p11) (.func (.func k12) #[] p12) (.func (.func k14) #[] p14) (.func (.func k16) #[] p16) (.func (.func k18) #[] p18) (.func (.func k21) #[] p21)) (ten (.func (.func k2) #[] p2) (.func (.func k5) #[] p5) (.func (.func 31) #[] #[]) (.func (.func k10) #[] p10) (.func (.func 31) #[] #[]) (.func (.func k13) #[] p13) (.func (.func k15) #[] p15) (.func (.func k17) #[] p17) (.func (.func k20) #[] p20) (.func (.func k24) #[] p24))) 43))
  have C23 := Lib.hid (bthen B24.out C24.out)
  have C22 := Lib.hid (bthen B23.out C23.out)
  have C21 := Lib.hid (bthen B22.out C22.out)
  have C20 := Lib.hid (bthen B21.out C21.out)
  have C19 := Lib.hid (bthen B20.out C20.out)
  have C18 := Lib.hid (bthen B19.out C19.out)
  have C17 := Lib.hid (bthen B18.out C18.out)
  have C16 := Lib.hid (bthen B17.out C17.out)
  have C15 := Lib.hid (bthen B16.out C16.out)
  have C14 := Lib.hid (bthen B15.out C15.out)
  have C13 := Lib.hid (bthen B14.out C14.out)
  have C12 := Lib.hid (bthen B13.out C13.out)
  have C11 := Lib.hid (bthen B12.out C12.out)
  have C10 := Lib.hid (bthen B11.out C11.out)
  have C9 := Lib.hid (bthen B10.out C10.out)
  have C8 := Lib.hid (bthen B9.out C9.out)
  have C7 := Lib.hid (bthen B8.out C8.out)
  have C6 := Lib.hid (bthen B7.out C7.out)
  have C5 := Lib.hid (bthen B6.out C6.out)
  have C4 := Lib.hid (bthen B5.out C5.out)
  have C3 := Lib.hid (bthen B4.out C4.out)
  have C2 := Lib.hid (bthen B3.out C3.out)
  have C1 := Lib.hid (bthen B2.out C2.out)
  have C0 := Lib.hid (bthen B1.out C1.out)
  refine ⟨_, ten (.func (.func k1) #[] p1) (.func (.func k3) #[] p3) (.func (.func k6) #[] p6) (.func (.func k7) #[] p7) (.func (.func k11) #[] p11) (.func (.func k12) #[] p12) (.func (.func k14) #[] p14) (.func (.func k16) #[] p16) (.func (.func k18) #[] p18) (.func (.func k21) #[] p21), ten (.func (.func k2) #[] p2) (.func (.func k5) #[] p5) (.func (.func 31) #[] #[]) (.func (.func k10) #[] p10) (.func (.func 31) #[] #[]) (.func (.func k13) #[] p13) (.func (.func k15) #[] p15) (.func (.func k17) #[] p17) (.func (.func k20) #[] p20) (.func (.func k24) #[] p24), rfl, ⟨blk_alloc _ _ _, ?_, ?_⟩, C0.out⟩
  · exact ten_all (P := fun j v => Ask _ v (fr j)) (ask_kept A1.out C1.out) (ask_kept A3.out C3.out) (ask_kept A6.out C6.out) (ask_kept A7.out C7.out) (ask_kept A11.out C11.out) (ask_kept A12.out C12.out) (ask_kept A14.out C14.out) (ask_kept A16.out C16.out) (ask_kept A18.out C18.out) (ask_kept A21.out C21.out)
  · exact ten_all (P := fun j v => Ask _ v (ho j)) (ask_kept A2.out C2.out) (ask_kept A5.out C5.out) (ask_no _) (ask_kept A10.out C10.out) (ask_no _) (ask_kept A13.out C13.out) (ask_kept A15.out C15.out) (ask_kept A17.out C17.out) (ask_kept A20.out C20.out) (ask_kept A24.out C24.out)

end Go.Proofs.Ytbifknihkjjhcaa.Md
