/- The contract of the reference's Read. Conditions: words are from 0 to 2^32 - 1. -/
import Derived.Test.YtjkfpnplocmhiaaPortRead
import Derived.Test.YtjkfpnplocmhiaaPortPut
namespace Go.Proofs.Ytjkfpnplocmhiaa.Port
open Go.ChangeShapes Go.WideShapes Go.ChangeAt Go.RowKit Num Word Go.Proofs.Ytjkfpnplocmhiaa.Field Dict

set_option linter.unusedVariables false
theorem lt_none {q : Nat → Bool} : ∀ j, j < 0 → q j = true := fun j hj => by omega
theorem lt_more {q : Nat → Bool} {n : Nat} (h : ∀ j, j < n → q j = true) (hn : q n = true) : ∀ j, j < n + 1 → q j = true := fun j hj => by
  rcases Nat.lt_or_eq_of_le (Nat.le_of_lt_succ hj) with a | rfl
  · exact h j a
  · exact hn
theorem in_tests {lo hi v : Int} (g : inB lo hi v = true) : decide (v < lo) = false ∧ decide (hi < v) = false := by
  have h := of_decide_eq_true g
  exact ⟨decide_eq_false (by omega), decide_eq_false (by omega)⟩
theorem gE_no {x : Int} (h : oddB x = false) : gE x = 6 := by rw [gE, if_neg (by simp [h])]
theorem gE_yes {x : Int} (h : oddB x = true) : gE x = 0 := by rw [gE, if_pos h]
theorem beq_swap {a b : Int} {r : Bool} (h : (a == b) = r) : (b != a) = !r := by
  subst h; rw [Bool.eq_iff_iff]; simp; constructor
  · intro h e; exact h e.symm
  · intro h e; exact h e.symm
theorem beq_not {a b : Int} {r : Bool} (h : (a == b) = r) : (a != b) = !r := by subst h; rfl

set_option maxHeartbeats 1000000 in
theorem rReadNo (s o x : Int) (x0 : 0 ≤ x) (x1 : x < 4294967296) (h : there s o = false) (w : World) :
    Calls Try.prog 8 #[.int .i64 s, .int .i64 o, .int .u32 x] w (Reads s o x w) := by
  have HE := Lib.hid (rd_no (x := x) h)
  have G := Lib.hid h
  clear h
  go_enter Try.func8, Try.ntmps8
  go_wp2_with fail
  refine (rThere s o _).mono ?_
  rintro e w0 ⟨rfl, rfl⟩
  rw [G.out]
  go_wp2
  exact bodyPost_ret (v := .tuple #[.agg #[.bool (rdB s o x), .int .i64 (rdV s o x)], .int .i64 (rdE s o x)]) (by rw [HE.out.1, HE.out.2.1, HE.out.2.2]; simp [results, Try.results8, go_sem]) rfl ⟨rfl,  below_new (Below.refl _ _) _⟩

set_option maxHeartbeats 1000000 in
theorem rRead0 (s o x : Int) (x0 : 0 ≤ x) (x1 : x < 4294967296) (h : there s o = true) (h0 : okQ s o x 0 = false) (w : World) :
    Calls Try.prog 8 #[.int .i64 s, .int .i64 o, .int .u32 x] w (Reads s o x w) := by
  have HE := Lib.hid (rd_bad h 0 (by omega) (fun j hj => by omega) h0)
  have G := Lib.hid h
  obtain rfl : x = 0 := by simpa [okQ] using h0
  clear h h0 x0 x1
  go_enter Try.func8, Try.ntmps8
  go_wp2_with fail
  refine (rThere s o _).mono ?_
  rintro e w0 ⟨rfl, rfl⟩
  rw [G.out]
  go_wp2
  exact bodyPost_ret (v := .tuple #[.agg #[.bool (rdB s o 0), .int .i64 (rdV s o 0)], .int .i64 (rdE s o 0)]) (by rw [HE.out.1, HE.out.2.1, HE.out.2.2]; simp [results, Try.results8, go_sem, erQ]) rfl ⟨rfl,  below_new (Below.refl _ _) _⟩

set_option maxHeartbeats 1000000 in
theorem rRead1 (s o x : Int) (x0 : 0 ≤ x) (x1 : x < 4294967296) (h : there s o = true) (h0 : okQ s o x 0 = true) (h1 : okQ s o x 1 = false) (w : World) :
    Calls Try.prog 8 #[.int .i64 s, .int .i64 o, .int .u32 x] w (Reads s o x w) := by
  have HE := Lib.hid (rd_bad h 1 (by omega) (lt_more (lt_none) h0) h1)
  have G := Lib.hid h
  have ho := of_decide_eq_true h
  have o0 := ho.2.2.1
  have o1 := ho.2.2.2
  have I := Lib.hid (got_in x)
  have gs0 := I.out.2.2.1
  have gs1 := I.out.2.2.2.1
  have gd0 := I.out.2.2.2.2.1
  have gd1 := I.out.2.2.2.2.2.1
  have e0 : (x == 0) = false := by simpa [okQ] using h0
  have HG := Lib.hid (gE_no h1)
  clear h ho h0 h1
  go_enter Try.func8, Try.ntmps8
  go_wp2_with fail
  refine (rThere s o _).mono ?_
  rintro e w0 ⟨rfl, rfl⟩
  rw [G.out]
  have R0 := Lib.hid (blk_alloc w #[.bool false, .int .i64 0] 24)
  go_wp2_with fail
  refine (rGet x x0 x1 _).mono ?_
  rintro e w1 ⟨rfl, b1⟩
  rw [HG.out]
  have R1 := Lib.hid (blk_new b1)
  have B1 := Lib.hid (below_alloc b1)
  clear b1 R0
  have r0 := blk_cell R1.out (o := 0) (v := .bool false) rfl
  have r1 := blk_cell R1.out (o := 1) (v := .int .i64 0) rfl
  have fz := blk_free R1.out
  have lt := blk_lt R1.out
  have B9 := Lib.hid (((B1.out).setCell (p := ⟨w.heap.size, 0, none⟩) (Nat.le_refl _) (.bool false)).setCell (p := ⟨w.heap.size, 1, none⟩) (Nat.le_refl _) (.int .i64 0))
  go_wp2
  exact bodyPost_ret (v := .tuple #[.agg #[.bool (rdB s o x), .int .i64 (rdV s o x)], .int .i64 (rdE s o x)]) (by rw [HE.out.1, HE.out.2.1, HE.out.2.2]; simp [results, Try.results8, go_sem, r0, r1, lt, erQ]) rfl ⟨rfl, below_new B9.out _⟩

set_option maxHeartbeats 1000000 in
theorem rRead2 (s o x : Int) (x0 : 0 ≤ x) (x1 : x < 4294967296) (h : there s o = true) (h0 : okQ s o x 0 = true) (h1 : okQ s o x 1 = true) (h2 : okQ s o x 2 = false) (w : World) :
    Calls Try.prog 8 #[.int .i64 s, .int .i64 o, .int .u32 x] w (Reads s o x w) := by
  have HE := Lib.hid (rd_bad h 2 (by omega) (lt_more (lt_more (lt_none) h0) h1) h2)
  have G := Lib.hid h
  have ho := of_decide_eq_true h
  have o0 := ho.2.2.1
  have o1 := ho.2.2.2
  have I := Lib.hid (got_in x)
  have gs0 := I.out.2.2.1
  have gs1 := I.out.2.2.2.1
  have gd0 := I.out.2.2.2.2.1
  have gd1 := I.out.2.2.2.2.2.1
  have e0 : (x == 0) = false := by simpa [okQ] using h0
  have HG := Lib.hid (gE_yes h1)
  have H2 := Lib.hid (beq_swap h2)
  clear h ho h0 h1 h2
  go_enter Try.func8, Try.ntmps8
  go_wp2_with fail
  refine (rThere s o _).mono ?_
  rintro e w0 ⟨rfl, rfl⟩
  rw [G.out]
  have R0 := Lib.hid (blk_alloc w #[.bool false, .int .i64 0] 24)
  go_wp2_with fail
  refine (rGet x x0 x1 _).mono ?_
  rintro e w1 ⟨rfl, b1⟩
  rw [HG.out]
  have R1 := Lib.hid (blk_new b1)
  have B1 := Lib.hid (below_alloc b1)
  clear b1 R0
  go_wp2_with fail
  refine (rLabel s _).mono ?_
  rintro e w2 ⟨rfl, b2⟩
  have A2 := Lib.hid (blk_new b2)
  have R2 := Lib.hid (blk_kept R1.out (below_alloc b2))
  have B2 := Lib.hid (bthen B1.out (below_alloc b2))
  clear b2 R1 B1
  have c0 := blk_cell A2.out (o := 0) (v := .int .u8 (gl x)) rfl
  have c1 := blk_cell A2.out (o := 1) (v := .int .u8 (gs x)) rfl
  have c2 := blk_cell A2.out (o := 2) (v := .int .u32 (gd x)) rfl
  have c3 := blk_cell A2.out (o := 3) (v := .int .u8 (gt x)) rfl
  have e2 := H2.out
  simp only [Bool.not_false] at e2
  have r0 := blk_cell R2.out (o := 0) (v := .bool false) rfl
  have r1 := blk_cell R2.out (o := 1) (v := .int .i64 0) rfl
  have fz := blk_free R2.out
  have lt := blk_lt R2.out
  have B9 := Lib.hid (((B2.out).setCell (p := ⟨w.heap.size, 0, none⟩) (Nat.le_refl _) (.bool false)).setCell (p := ⟨w.heap.size, 1, none⟩) (Nat.le_refl _) (.int .i64 0))
  go_wp2
  exact bodyPost_ret (v := .tuple #[.agg #[.bool (rdB s o x), .int .i64 (rdV s o x)], .int .i64 (rdE s o x)]) (by rw [HE.out.1, HE.out.2.1, HE.out.2.2]; simp [results, Try.results8, go_sem, r0, r1, erQ]) rfl ⟨rfl, B9.out⟩

set_option maxHeartbeats 1000000 in
theorem rRead3 (s o x : Int) (x0 : 0 ≤ x) (x1 : x < 4294967296) (h : there s o = true) (h0 : okQ s o x 0 = true) (h1 : okQ s o x 1 = true) (h2 : okQ s o x 2 = true) (h3 : okQ s o x 3 = false) (w : World) :
    Calls Try.prog 8 #[.int .i64 s, .int .i64 o, .int .u32 x] w (Reads s o x w) := by
  have HE := Lib.hid (rd_bad h 3 (by omega) (lt_more (lt_more (lt_more (lt_none) h0) h1) h2) h3)
  have G := Lib.hid h
  have ho := of_decide_eq_true h
  have o0 := ho.2.2.1
  have o1 := ho.2.2.2
  have I := Lib.hid (got_in x)
  have gs0 := I.out.2.2.1
  have gs1 := I.out.2.2.2.1
  have gd0 := I.out.2.2.2.2.1
  have gd1 := I.out.2.2.2.2.2.1
  have e0 : (x == 0) = false := by simpa [okQ] using h0
  have HG := Lib.hid (gE_yes h1)
  have H2 := Lib.hid (beq_swap h2)
  have e3 := beq_not h3
  simp only [Bool.not_false] at e3
  clear h ho h0 h1 h2 h3
  go_enter Try.func8, Try.ntmps8
  go_wp2_with fail
  refine (rThere s o _).mono ?_
  rintro e w0 ⟨rfl, rfl⟩
  rw [G.out]
  have R0 := Lib.hid (blk_alloc w #[.bool false, .int .i64 0] 24)
  go_wp2_with fail
  refine (rGet x x0 x1 _).mono ?_
  rintro e w1 ⟨rfl, b1⟩
  rw [HG.out]
  have R1 := Lib.hid (blk_new b1)
  have B1 := Lib.hid (below_alloc b1)
  clear b1 R0
  go_wp2_with fail
  refine (rLabel s _).mono ?_
  rintro e w2 ⟨rfl, b2⟩
  have A2 := Lib.hid (blk_new b2)
  have R2 := Lib.hid (blk_kept R1.out (below_alloc b2))
  have B2 := Lib.hid (bthen B1.out (below_alloc b2))
  clear b2 R1 B1
  have c0 := blk_cell A2.out (o := 0) (v := .int .u8 (gl x)) rfl
  have c1 := blk_cell A2.out (o := 1) (v := .int .u8 (gs x)) rfl
  have c2 := blk_cell A2.out (o := 2) (v := .int .u32 (gd x)) rfl
  have c3 := blk_cell A2.out (o := 3) (v := .int .u8 (gt x)) rfl
  have e2 := H2.out
  simp only [Bool.not_true] at e2
  have r0 := blk_cell R2.out (o := 0) (v := .bool false) rfl
  have r1 := blk_cell R2.out (o := 1) (v := .int .i64 0) rfl
  have fz := blk_free R2.out
  have lt := blk_lt R2.out
  have B9 := Lib.hid (((B2.out).setCell (p := ⟨w.heap.size, 0, none⟩) (Nat.le_refl _) (.bool false)).setCell (p := ⟨w.heap.size, 1, none⟩) (Nat.le_refl _) (.int .i64 0))
  go_wp2
  exact bodyPost_ret (v := .tuple #[.agg #[.bool (rdB s o x), .int .i64 (rdV s o x)], .int .i64 (rdE s o x)]) (by rw [HE.out.1, HE.out.2.1, HE.out.2.2]; simp [results, Try.results8, go_sem, r0, r1, erQ]) rfl ⟨rfl, B9.out⟩

set_option maxHeartbeats 1000000 in
theorem rRead4 (s o x : Int) (x0 : 0 ≤ x) (x1 : x < 4294967296) (h : there s o = true) (h0 : okQ s o x 0 = true) (h1 : okQ s o x 1 = true) (h2 : okQ s o x 2 = true) (h3 : okQ s o x 3 = true) (h4 : okQ s o x 4 = false) (w : World) :
    Calls Try.prog 8 #[.int .i64 s, .int .i64 o, .int .u32 x] w (Reads s o x w) := by
  have HE := Lib.hid (rd_bad h 4 (by omega) (lt_more (lt_more (lt_more (lt_more (lt_none) h0) h1) h2) h3) h4)
  have G := Lib.hid h
  have ho := of_decide_eq_true h
  have o0 := ho.2.2.1
  have o1 := ho.2.2.2
  have I := Lib.hid (got_in x)
  have gs0 := I.out.2.2.1
  have gs1 := I.out.2.2.2.1
  have gd0 := I.out.2.2.2.2.1
  have gd1 := I.out.2.2.2.2.2.1
  have e0 : (x == 0) = false := by simpa [okQ] using h0
  have HG := Lib.hid (gE_yes h1)
  have H2 := Lib.hid (beq_swap h2)
  have e3 := beq_not h3
  simp only [Bool.not_true] at e3
  have e4 := beq_not h4
  simp only [Bool.not_false] at e4
  clear h ho h0 h1 h2 h3 h4
  go_enter Try.func8, Try.ntmps8
  go_wp2_with fail
  refine (rThere s o _).mono ?_
  rintro e w0 ⟨rfl, rfl⟩
  rw [G.out]
  have R0 := Lib.hid (blk_alloc w #[.bool false, .int .i64 0] 24)
  go_wp2_with fail
  refine (rGet x x0 x1 _).mono ?_
  rintro e w1 ⟨rfl, b1⟩
  rw [HG.out]
  have R1 := Lib.hid (blk_new b1)
  have B1 := Lib.hid (below_alloc b1)
  clear b1 R0
  go_wp2_with fail
  refine (rLabel s _).mono ?_
  rintro e w2 ⟨rfl, b2⟩
  have A2 := Lib.hid (blk_new b2)
  have R2 := Lib.hid (blk_kept R1.out (below_alloc b2))
  have B2 := Lib.hid (bthen B1.out (below_alloc b2))
  clear b2 R1 B1
  have c0 := blk_cell A2.out (o := 0) (v := .int .u8 (gl x)) rfl
  have c1 := blk_cell A2.out (o := 1) (v := .int .u8 (gs x)) rfl
  have c2 := blk_cell A2.out (o := 2) (v := .int .u32 (gd x)) rfl
  have c3 := blk_cell A2.out (o := 3) (v := .int .u8 (gt x)) rfl
  have e2 := H2.out
  simp only [Bool.not_true] at e2
  have r0 := blk_cell R2.out (o := 0) (v := .bool false) rfl
  have r1 := blk_cell R2.out (o := 1) (v := .int .i64 0) rfl
  have fz := blk_free R2.out
  have lt := blk_lt R2.out
  have B9 := Lib.hid (((B2.out).setCell (p := ⟨w.heap.size, 0, none⟩) (Nat.le_refl _) (.bool false)).setCell (p := ⟨w.heap.size, 1, none⟩) (Nat.le_refl _) (.int .i64 0))
  go_wp2
  exact bodyPost_ret (v := .tuple #[.agg #[.bool (rdB s o x), .int .i64 (rdV s o x)], .int .i64 (rdE s o x)]) (by rw [HE.out.1, HE.out.2.1, HE.out.2.2]; simp [results, Try.results8, go_sem, r0, r1, erQ]) rfl ⟨rfl, B9.out⟩

set_option maxHeartbeats 1000000 in
theorem rRead5 (s o x : Int) (x0 : 0 ≤ x) (x1 : x < 4294967296) (h : there s o = true) (h0 : okQ s o x 0 = true) (h1 : okQ s o x 1 = true) (h2 : okQ s o x 2 = true) (h3 : okQ s o x 3 = true) (h4 : okQ s o x 4 = true) (h5 : okQ s o x 5 = false) (w : World) :
    Calls Try.prog 8 #[.int .i64 s, .int .i64 o, .int .u32 x] w (Reads s o x w) := by
  have HE := Lib.hid (rd_bad h 5 (by omega) (lt_more (lt_more (lt_more (lt_more (lt_more (lt_none) h0) h1) h2) h3) h4) h5)
  have G := Lib.hid h
  have ho := of_decide_eq_true h
  have o0 := ho.2.2.1
  have o1 := ho.2.2.2
  have I := Lib.hid (got_in x)
  have gs0 := I.out.2.2.1
  have gs1 := I.out.2.2.2.1
  have gd0 := I.out.2.2.2.2.1
  have gd1 := I.out.2.2.2.2.2.1
  have e0 : (x == 0) = false := by simpa [okQ] using h0
  have HG := Lib.hid (gE_yes h1)
  have H2 := Lib.hid (beq_swap h2)
  have e3 := beq_not h3
  simp only [Bool.not_true] at e3
  have e4 := beq_not h4
  simp only [Bool.not_true] at e4
  have hs := out_cases h5
  clear h ho h0 h1 h2 h3 h4 h5
  rcases hs with a5 | ⟨l5, a5⟩
  all_goals
    go_enter Try.func8, Try.ntmps8
    go_wp2_with fail
    refine (rThere s o _).mono ?_
    rintro e w0 ⟨rfl, rfl⟩
    rw [G.out]
    have R0 := Lib.hid (blk_alloc w #[.bool false, .int .i64 0] 24)
    go_wp2_with fail
    refine (rGet x x0 x1 _).mono ?_
    rintro e w1 ⟨rfl, b1⟩
    rw [HG.out]
    have R1 := Lib.hid (blk_new b1)
    have B1 := Lib.hid (below_alloc b1)
    clear b1 R0
    go_wp2_with fail
    refine (rLabel s _).mono ?_
    rintro e w2 ⟨rfl, b2⟩
    have A2 := Lib.hid (blk_new b2)
    have R2 := Lib.hid (blk_kept R1.out (below_alloc b2))
    have B2 := Lib.hid (bthen B1.out (below_alloc b2))
    clear b2 R1 B1
    have c0 := blk_cell A2.out (o := 0) (v := .int .u8 (gl x)) rfl
    have c1 := blk_cell A2.out (o := 1) (v := .int .u8 (gs x)) rfl
    have c2 := blk_cell A2.out (o := 2) (v := .int .u32 (gd x)) rfl
    have c3 := blk_cell A2.out (o := 3) (v := .int .u8 (gt x)) rfl
    have e2 := H2.out
    simp only [Bool.not_true] at e2
    go_wp2_with fail
    refine (rNumber (gd x) gd0 (by omega) _).mono ?_
    rintro e w3 ⟨rfl, rfl⟩
    go_wp2_with fail
    refine (rKindOf s _).mono ?_
    rintro e w3 ⟨rfl, b3⟩
    have R3 := Lib.hid (blk_kept R2.out b3)
    have B3 := Lib.hid (bthen B2.out b3)
    clear b3 R2 B2 A2 c0 c1 c2 c3
    unfold kA
    have r0 := blk_cell R3.out (o := 0) (v := .bool false) rfl
    have r1 := blk_cell R3.out (o := 1) (v := .int .i64 0) rfl
    have fz := blk_free R3.out
    have lt := blk_lt R3.out
    have B9 := Lib.hid (((B3.out).setCell (p := ⟨w.heap.size, 0, none⟩) (Nat.le_refl _) (.bool false)).setCell (p := ⟨w.heap.size, 1, none⟩) (Nat.le_refl _) (.int .i64 0))
    go_wp2
    exact bodyPost_ret (v := .tuple #[.agg #[.bool (rdB s o x), .int .i64 (rdV s o x)], .int .i64 (rdE s o x)]) (by rw [HE.out.1, HE.out.2.1, HE.out.2.2]; simp [results, Try.results8, go_sem, r0, r1, lt, erQ]) rfl ⟨rfl, below_new B9.out _⟩

set_option maxHeartbeats 1000000 in
theorem rRead6 (s o x : Int) (x0 : 0 ≤ x) (x1 : x < 4294967296) (h : there s o = true) (h0 : okQ s o x 0 = true) (h1 : okQ s o x 1 = true) (h2 : okQ s o x 2 = true) (h3 : okQ s o x 3 = true) (h4 : okQ s o x 4 = true) (h5 : okQ s o x 5 = true) (w : World) :
    Calls Try.prog 8 #[.int .i64 s, .int .i64 o, .int .u32 x] w (Reads s o x w) := by
  have HE := Lib.hid (rd_ok (x := x) h (lt_more (lt_more (lt_more (lt_more (lt_more (lt_more (lt_none) h0) h1) h2) h3) h4) h5))
  have G := Lib.hid h
  have ho := of_decide_eq_true h
  have o0 := ho.2.2.1
  have o1 := ho.2.2.2
  have I := Lib.hid (got_in x)
  have gs0 := I.out.2.2.1
  have gs1 := I.out.2.2.2.1
  have gd0 := I.out.2.2.2.2.1
  have gd1 := I.out.2.2.2.2.2.1
  have e0 : (x == 0) = false := by simpa [okQ] using h0
  have HG := Lib.hid (gE_yes h1)
  have H2 := Lib.hid (beq_swap h2)
  have e3 := beq_not h3
  simp only [Bool.not_true] at e3
  have e4 := beq_not h4
  simp only [Bool.not_true] at e4
  have l5 := (in_tests (show inB (kLo (sL s)) (kHi (sL s)) (nmN (gd x)) = true from h5)).1
  have g5 := (in_tests (show inB (kLo (sL s)) (kHi (sL s)) (nmN (gd x)) = true from h5)).2
  clear h ho h0 h1 h2 h3 h4 h5
  go_enter Try.func8, Try.ntmps8
  go_wp2_with fail
  refine (rThere s o _).mono ?_
  rintro e w0 ⟨rfl, rfl⟩
  rw [G.out]
  have R0 := Lib.hid (blk_alloc w #[.bool false, .int .i64 0] 24)
  go_wp2_with fail
  refine (rGet x x0 x1 _).mono ?_
  rintro e w1 ⟨rfl, b1⟩
  rw [HG.out]
  have R1 := Lib.hid (blk_new b1)
  have B1 := Lib.hid (below_alloc b1)
  clear b1 R0
  go_wp2_with fail
  refine (rLabel s _).mono ?_
  rintro e w2 ⟨rfl, b2⟩
  have A2 := Lib.hid (blk_new b2)
  have R2 := Lib.hid (blk_kept R1.out (below_alloc b2))
  have B2 := Lib.hid (bthen B1.out (below_alloc b2))
  clear b2 R1 B1
  have c0 := blk_cell A2.out (o := 0) (v := .int .u8 (gl x)) rfl
  have c1 := blk_cell A2.out (o := 1) (v := .int .u8 (gs x)) rfl
  have c2 := blk_cell A2.out (o := 2) (v := .int .u32 (gd x)) rfl
  have c3 := blk_cell A2.out (o := 3) (v := .int .u8 (gt x)) rfl
  have e2 := H2.out
  simp only [Bool.not_true] at e2
  go_wp2_with fail
  refine (rNumber (gd x) gd0 (by omega) _).mono ?_
  rintro e w3 ⟨rfl, rfl⟩
  go_wp2_with fail
  refine (rKindOf s _).mono ?_
  rintro e w3 ⟨rfl, b3⟩
  have R3 := Lib.hid (blk_kept R2.out b3)
  have B3 := Lib.hid (bthen B2.out b3)
  clear b3 R2 B2 A2 c0 c1 c2 c3
  unfold kA
  have r0 := blk_cell R3.out (o := 0) (v := .bool false) rfl
  have r1 := blk_cell R3.out (o := 1) (v := .int .i64 0) rfl
  have fz := blk_free R3.out
  have lt := blk_lt R3.out
  have B9 := Lib.hid (((B3.out).setCell (p := ⟨w.heap.size, 0, none⟩) (Nat.le_refl _) (.bool true)).setCell (p := ⟨w.heap.size, 1, none⟩) (Nat.le_refl _) (.int .i64 (nmN (gd x))))
  go_wp2
  exact bodyPost_ret (v := .tuple #[.agg #[.bool (rdB s o x), .int .i64 (rdV s o x)], .int .i64 (rdE s o x)]) (by rw [HE.out.1, HE.out.2.1, HE.out.2.2]; simp [results, Try.results8, go_sem, r0, r1, lt]) rfl ⟨rfl, below_new B9.out _⟩

theorem rRead (s o x : Int) (x0 : 0 ≤ x) (x1 : x < 4294967296) (w : World) :
    Calls Try.prog 8 #[.int .i64 s, .int .i64 o, .int .u32 x] w (Reads s o x w) := by
  cases h : there s o
  · exact rReadNo s o x x0 x1 h w
  cases h0 : okQ s o x 0
  · exact rRead0 s o x x0 x1 h h0 w
  cases h1 : okQ s o x 1
  · exact rRead1 s o x x0 x1 h h0 h1 w
  cases h2 : okQ s o x 2
  · exact rRead2 s o x x0 x1 h h0 h1 h2 w
  cases h3 : okQ s o x 3
  · exact rRead3 s o x x0 x1 h h0 h1 h2 h3 w
  cases h4 : okQ s o x 4
  · exact rRead4 s o x x0 x1 h h0 h1 h2 h3 h4 w
  cases h5 : okQ s o x 5
  · exact rRead5 s o x x0 x1 h h0 h1 h2 h3 h4 h5 w
  · exact rRead6 s o x x0 x1 h h0 h1 h2 h3 h4 h5 w

end Go.Proofs.Ytjkfpnplocmhiaa.Port
