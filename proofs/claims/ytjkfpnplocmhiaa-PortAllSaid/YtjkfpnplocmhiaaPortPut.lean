/- Contracts of port.Put, port.Broken, port.Failed and of the reference's there, Put, Broken and Failed. Conditions: words are from 0 to 2^32 - 1. -/
import Derived.Test.YtjkfpnplocmhiaaPortDue
namespace Go.Proofs.Ytjkfpnplocmhiaa.Port
open Go.ChangeShapes Go.WideShapes Go.ChangeAt Go.RowKit Num Word Go.Proofs.Ytjkfpnplocmhiaa.Field Dict

theorem sL_in (s : Int) : 0 ≤ sL s ∧ sL s < 256 := by unfold sL; split; omega; split; omega; split; omega; split <;> omega
theorem kind_in (l : Int) : -262144 ≤ kLo l ∧ kHi l < 262144 := by
  unfold kLo kHi; split; omega; split; omega; split; omega; split <;> omega
theorem pn_in {n : Int} (h : -262144 ≤ n ∧ n < 262144) : 0 ≤ pnN n ∧ pnN n < 524288 := by rw [(pn_yes h).1]; omega

/-- What Put tells: the error, the word. -/
def ptE (s o v : Int) : Int := if there s o then (if inB (kLo (sL s)) (kHi (sL s)) v then 0 else 9) else 2
def ptN (s o v : Int) : Int := if ptE s o v = 0 then putN (sL s) (o + 1) (pnN v) 3 else 0
theorem pt_no {s o v : Int} (h : there s o = false) : ptE s o v = 2 ∧ ptN s o v = 0 := by
  have e : ptE s o v = 2 := by rw [ptE, if_neg (by simp [h])]
  exact ⟨e, by rw [ptN, if_neg (by rw [e]; decide)]⟩
theorem pt_out {s o v : Int} (h : there s o = true) (g : inB (kLo (sL s)) (kHi (sL s)) v = false) : ptE s o v = 9 ∧ ptN s o v = 0 := by
  have e : ptE s o v = 9 := by rw [ptE, if_pos h, if_neg (by simp [g])]
  exact ⟨e, by rw [ptN, if_neg (by rw [e]; decide)]⟩
theorem pt_yes {s o v : Int} (h : there s o = true) (g : inB (kLo (sL s)) (kHi (sL s)) v = true) : ptE s o v = 0 ∧ ptN s o v = putN (sL s) (o + 1) (pnN v) 3 := by
  have e : ptE s o v = 0 := by rw [ptE, if_pos h, if_pos g]
  exact ⟨e, by rw [ptN, if_pos e]⟩
/-- The contract's post. -/
def Puts (s o v : Int) (w : World) (e : Ending) (w' : World) : Prop := e = .returned (.tuple #[.int .u32 (ptN s o v), .int .i64 (ptE s o v)]) ∧ Below w.heap.size w w'

set_option maxHeartbeats 1000000 in
theorem portPutNo (s o v : Int) (h : there s o = false) (w : World) :
    Calls Try.prog 9 #[.int .i64 s, .int .i64 o, .int .i64 v] w (Puts s o v w) := by
  have H := Lib.hid (pt_no (v := v) h)
  go_enter Try.func9, Try.ntmps9
  go_wp2_with fail
  refine (dueNo s o h _).mono ?_
  rintro e w1 ⟨rfl, b1⟩
  have B1 := Lib.hid b1
  clear b1 h
  unfold noneA
  go_wp2
  go_ret2
  exact ⟨ret_two H.out.2 H.out.1, below_new B1.out _⟩

set_option maxHeartbeats 1000000 in
theorem portPutOut (s o v : Int) (h : there s o = true) (g : inB (kLo (sL s)) (kHi (sL s)) v = false) (w : World) :
    Calls Try.prog 9 #[.int .i64 s, .int .i64 o, .int .i64 v] w (Puts s o v w) := by
  have H := Lib.hid (pt_out h g)
  have G := Lib.hid g
  clear g
  go_enter Try.func9, Try.ntmps9
  go_wp2_with fail
  refine (dueYes s o h _).mono ?_
  rintro e w1 ⟨rfl, b1⟩
  have B1 := Lib.hid b1
  clear b1 h
  unfold dueA
  go_wp2_with fail
  refine (holds _ _ _ _ _ _ _ _ _ _).mono ?_
  rintro e w2 ⟨rfl, b2⟩
  rw [G.out]
  have B2 := Lib.hid (bthen B1.out (below_alloc b2))
  clear b2
  go_wp2
  go_ret2
  exact ⟨ret_two H.out.2 H.out.1, B2.out⟩

set_option maxHeartbeats 1000000 in
theorem portPutYes (s o v : Int) (h : there s o = true) (g : inB (kLo (sL s)) (kHi (sL s)) v = true) (w : World) :
    Calls Try.prog 9 #[.int .i64 s, .int .i64 o, .int .i64 v] w (Puts s o v w) := by
  have H := Lib.hid (pt_yes h g)
  have G := Lib.hid g
  have hv : -262144 ≤ v ∧ v < 262144 := by
    have a := of_decide_eq_true g
    have b := kind_in (sL s)
    omega
  have hE := Lib.hid (pn_yes hv).2
  have hn := Lib.hid (pn_in hv)
  have hs := Lib.hid (sL_in s)
  have ho := of_decide_eq_true h
  have hF := Lib.hid (show putE (o + 1) (pnN v) 3 = 0 from if_pos ⟨by omega, by decide, hn.out.2⟩)
  clear g hv
  go_enter Try.func9, Try.ntmps9
  go_wp2_with fail
  refine (dueYes s o h _).mono ?_
  rintro e w1 ⟨rfl, b1⟩
  have B1 := Lib.hid b1
  clear b1 h
  unfold dueA
  go_wp2_with fail
  refine (holds _ _ _ _ _ _ _ _ _ _).mono ?_
  rintro e w2 ⟨rfl, b2⟩
  rw [G.out]
  have R2 := blk_new b2
  have B2 := Lib.hid (bthen B1.out (below_alloc b2))
  have c0 := blk_cell R2 (o := 0) (v := .int .u8 (sL s)) rfl
  have c1 := blk_cell R2 (o := 1) (v := .int .u8 (o + 1)) rfl
  have c2 := blk_cell R2 (o := 2) (v := .int .u32 0) rfl
  have c3 := blk_cell R2 (o := 3) (v := .int .u8 3) rfl
  clear b2 R2
  go_wp2_with fail
  refine (putNumber v _).mono ?_
  rw [hE.out]
  rintro e w3 ⟨rfl, rfl⟩
  go_wp2_with fail
  refine (Word.put (sL s) (o + 1) (pnN v) 3 hs.out.1 hs.out.2 (by omega) hn.out.1 (by decide) _).mono ?_
  rw [hF.out]
  rintro e w4 ⟨rfl, b4⟩
  have B4 := Lib.hid (bthen B2.out (below_alloc b4))
  clear b4
  go_wp2
  go_ret2
  exact ⟨ret_two H.out.2 H.out.1, B4.out⟩

theorem portPut (s o v : Int) (w : World) :
    Calls Try.prog 9 #[.int .i64 s, .int .i64 o, .int .i64 v] w (Puts s o v w) := by
  cases h : there s o
  · exact portPutNo s o v h w
  · cases g : inB (kLo (sL s)) (kHi (sL s)) v
    · exact portPutOut s o v h g w
    · exact portPutYes s o v h g w

theorem there_cases (s o : Int) : (there s o = false ∧ s < 0) ∨ (there s o = false ∧ 0 ≤ s ∧ 4 ≤ s) ∨ (there s o = false ∧ 0 ≤ s ∧ s < 4 ∧ o < 0) ∨ (there s o = false ∧ 0 ≤ s ∧ s < 4 ∧ 0 ≤ o ∧ 3 ≤ o) ∨ (there s o = true ∧ 0 ≤ s ∧ s < 4 ∧ 0 ≤ o ∧ o < 3) := by
  have hf : ¬ (0 ≤ s ∧ s < 4 ∧ 0 ≤ o ∧ o < 3) → there s o = false := fun h => decide_eq_false h
  have ht : (0 ≤ s ∧ s < 4 ∧ 0 ≤ o ∧ o < 3) → there s o = true := fun h => decide_eq_true h
  by_cases a : s < 0
  · exact .inl ⟨hf (by omega), a⟩
  by_cases b : 4 ≤ s
  · exact .inr (.inl ⟨hf (by omega), by omega, b⟩)
  by_cases c : o < 0
  · exact .inr (.inr (.inl ⟨hf (by omega), by omega, by omega, c⟩))
  by_cases d : 3 ≤ o
  · exact .inr (.inr (.inr (.inl ⟨hf (by omega), by omega, by omega, by omega, d⟩)))
  · exact .inr (.inr (.inr (.inr ⟨ht (by omega), by omega, by omega, by omega, by omega⟩)))

theorem rThere (s o : Int) (w : World) : Calls Try.prog 24 #[.int .i64 s, .int .i64 o] w fun e w' => e = .returned (.bool (there s o)) ∧ w = w' := by
  rcases there_cases s o with ⟨h, a⟩ | ⟨h, a, b⟩ | ⟨h, a, b, c⟩ | ⟨h, a, b, c, d⟩ | ⟨h, a, b, c, d⟩
  all_goals
    have H := Lib.hid h
    clear h
    go_enter Try.func24, Try.ntmps24
    go_wp2
    go_ret
    exact ⟨ret_bool (by first | exact H.out | exact H.out.trans (by simp; omega)), rfl⟩

theorem rPutNo (s o v : Int) (h : there s o = false) (w : World) :
    Calls Try.prog 10 #[.int .i64 s, .int .i64 o, .int .i64 v] w (Puts s o v w) := by
  have H := Lib.hid (pt_no (v := v) h)
  have G := Lib.hid h
  clear h
  go_enter Try.func10, Try.ntmps10
  go_wp2_with fail
  refine (rThere s o _).mono ?_
  rintro e w1 ⟨rfl, rfl⟩
  rw [G.out]
  go_wp2
  go_ret2
  exact ⟨ret_two H.out.2 H.out.1, Below.refl _ _⟩

theorem out_cases {lo hi v : Int} (g : inB lo hi v = false) : v < lo ∨ (lo ≤ v ∧ hi < v) := by
  have := of_decide_eq_false g
  omega

set_option maxHeartbeats 1000000 in
theorem rPutOut (s o v : Int) (h : there s o = true) (g : inB (kLo (sL s)) (kHi (sL s)) v = false) (w : World) :
    Calls Try.prog 10 #[.int .i64 s, .int .i64 o, .int .i64 v] w (Puts s o v w) := by
  have H := Lib.hid (pt_out h g)
  have G := Lib.hid h
  have gc := out_cases g
  clear h g
  rcases gc with a | ⟨a, b⟩
  all_goals
    go_enter Try.func10, Try.ntmps10
    go_wp2_with fail
    refine (rThere s o _).mono ?_
    rintro e w1 ⟨rfl, rfl⟩
    rw [G.out]
    go_wp2_with fail
    refine (rKindOf s _).mono ?_
    rintro e w2 ⟨rfl, b2⟩
    have B2 := Lib.hid b2
    clear b2
    unfold kA
    go_wp2
    go_ret2
    exact ⟨ret_two H.out.2 H.out.1, below_new B2.out _⟩

set_option maxHeartbeats 1000000 in
theorem rPutYes (s o v : Int) (h : there s o = true) (g : inB (kLo (sL s)) (kHi (sL s)) v = true) (w : World) :
    Calls Try.prog 10 #[.int .i64 s, .int .i64 o, .int .i64 v] w (Puts s o v w) := by
  have H := Lib.hid (pt_yes h g)
  have G := Lib.hid h
  have hv : -262144 ≤ v ∧ v < 262144 := by
    have a := of_decide_eq_true g
    have b := kind_in (sL s)
    omega
  have hE := Lib.hid (pn_yes hv).2
  have hn := Lib.hid (pn_in hv)
  have hs := Lib.hid (sL_in s)
  have ho := of_decide_eq_true h
  have o0 := ho.2.2.1
  have o1 := ho.2.2.2
  have hF := Lib.hid (show putE (o + 1) (pnN v) 3 = 0 from if_pos ⟨by omega, by decide, hn.out.2⟩)
  have gr := of_decide_eq_true g
  have g0 := gr.1
  have g1 := gr.2
  clear g gr hv h ho
  go_enter Try.func10, Try.ntmps10
  go_wp2_with fail
  refine (rThere s o _).mono ?_
  rintro e w1 ⟨rfl, rfl⟩
  rw [G.out]
  go_wp2_with fail
  refine (rKindOf s _).mono ?_
  rintro e w2 ⟨rfl, b2⟩
  have B2 := Lib.hid b2
  clear b2
  unfold kA
  go_wp2_with fail
  refine (rLabel s _).mono ?_
  rintro e w3 ⟨rfl, b3⟩
  have B3 := Lib.hid (bthen B2.out (below_alloc b3))
  clear b3 B2
  go_wp2_with fail
  refine (rPutNumber v _).mono ?_
  rw [hE.out]
  rintro e w4 ⟨rfl, rfl⟩
  go_wp2_with fail
  refine (Word.rPut (sL s) (o + 1) (pnN v) 3 hs.out.1 hs.out.2 (by omega) hn.out.1 (by decide) _).mono ?_
  rw [hF.out]
  rintro e w4 ⟨rfl, b4⟩
  have B4 := Lib.hid (bthen B3.out b4)
  clear b4 B3
  go_wp2
  go_ret2
  exact ⟨ret_two H.out.2 H.out.1, B4.out⟩

theorem rPortPut (s o v : Int) (w : World) :
    Calls Try.prog 10 #[.int .i64 s, .int .i64 o, .int .i64 v] w (Puts s o v w) := by
  cases h : there s o
  · exact rPutNo s o v h w
  · cases g : inB (kLo (sL s)) (kHi (sL s)) v
    · exact rPutOut s o v h g w
    · exact rPutYes s o v h g w

/-- The highest bit the other way round. -/
def brN (x : Int) : Int := bits .xor .u32 x 2147483648
theorem broken (x : Int) (w : World) : Calls Try.prog 11 #[.int .u32 x] w fun e w' => e = .returned (.int .u32 (brN x)) ∧ w = w' := by
  go_enter Try.func11, Try.ntmps11
  go_wp2
  go_ret
  exact ⟨rfl, rfl⟩
theorem rBroken (x : Int) (w : World) : Calls Try.prog 12 #[.int .u32 x] w fun e w' => e = .returned (.int .u32 (brN x)) ∧ w = w' := by
  go_enter Try.func12, Try.ntmps12
  go_wp2
  go_ret
  exact ⟨rfl, rfl⟩

/-- The status 0, of odd parity. -/
def flN (x : Int) : Int := if oddB x then putN (gl x) (gs x) (gd x) 0 else x
theorem fl_no {x : Int} (h : oddB x = false) : flN x = x ∧ gE x = 6 := ⟨by rw [flN, if_neg (by simp [h])], by rw [gE, if_neg (by simp [h])]⟩
theorem fl_yes {x : Int} (h : oddB x = true) : flN x = putN (gl x) (gs x) (gd x) 0 ∧ gE x = 0 := ⟨by rw [flN, if_pos h], by rw [gE, if_pos h]⟩
theorem got_in (x : Int) : 0 ≤ gl x ∧ gl x < 256 ∧ 0 ≤ gs x ∧ gs x < 4 ∧ 0 ≤ gd x ∧ gd x < 524288 ∧ 0 ≤ gt x ∧ gt x < 4 := by
  have := tn_lo (x % 256)
  have := tn_hi (x % 256)
  unfold gl gs gd gt
  split <;> omega

set_option maxHeartbeats 1000000 in
theorem failed (x : Int) (x0 : 0 ≤ x) (x1 : x < 4294967296) (w : World) :
    Calls Try.prog 13 #[.int .u32 x] w fun e w' => e = .returned (.int .u32 (flN x)) ∧ Below w.heap.size w w' := by
  cases h : oddB x
  · have H := Lib.hid (fl_no h)
    clear h
    go_enter Try.func13, Try.ntmps13
    go_wp2_with fail
    refine (get x x0 x1 _).mono ?_
    rw [H.out.2]
    rintro e w1 ⟨rfl, b1⟩
    have B1 := Lib.hid b1
    clear b1
    go_wp2
    go_ret
    exact ⟨ret_int H.out.1, below_new B1.out _⟩
  · have H := Lib.hid (fl_yes h)
    have I := Lib.hid (got_in x)
    have hF := Lib.hid (show putE (gs x) (gd x) 0 = 0 from if_pos ⟨by have := I.out; omega, by decide, by have := I.out; omega⟩)
    clear h
    go_enter Try.func13, Try.ntmps13
    go_wp2_with fail
    refine (get x x0 x1 _).mono ?_
    rw [H.out.2]
    rintro e w1 ⟨rfl, b1⟩
    have B1 := Lib.hid b1
    clear b1
    go_wp2_with fail
    refine (Word.put (gl x) (gs x) (gd x) 0 I.out.1 I.out.2.1 I.out.2.2.1 I.out.2.2.2.2.1 (by decide) _).mono ?_
    rw [hF.out]
    rintro e w2 ⟨rfl, b2⟩
    have B2 := Lib.hid (bthen B1.out (below_alloc b2))
    clear b2
    go_wp2
    go_ret
    exact ⟨ret_int H.out.1, B2.out⟩

set_option maxHeartbeats 1000000 in
theorem rFailed (x : Int) (x0 : 0 ≤ x) (x1 : x < 4294967296) (w : World) :
    Calls Try.prog 14 #[.int .u32 x] w fun e w' => e = .returned (.int .u32 (flN x)) ∧ Below w.heap.size w w' := by
  cases h : oddB x
  · have H := Lib.hid (fl_no h)
    clear h
    go_enter Try.func14, Try.ntmps14
    go_wp2_with fail
    refine (rGet x x0 x1 _).mono ?_
    rw [H.out.2]
    rintro e w1 ⟨rfl, b1⟩
    have B1 := Lib.hid b1
    clear b1
    go_wp2
    go_ret
    exact ⟨ret_int H.out.1, below_new B1.out _⟩
  · have H := Lib.hid (fl_yes h)
    have I := Lib.hid (got_in x)
    have hF := Lib.hid (show putE (gs x) (gd x) 0 = 0 from if_pos ⟨by have := I.out; omega, by decide, by have := I.out; omega⟩)
    clear h
    go_enter Try.func14, Try.ntmps14
    go_wp2_with fail
    refine (rGet x x0 x1 _).mono ?_
    rw [H.out.2]
    rintro e w1 ⟨rfl, b1⟩
    have B1 := Lib.hid b1
    clear b1
    go_wp2_with fail
    refine (Word.rPut (gl x) (gs x) (gd x) 0 I.out.1 I.out.2.1 I.out.2.2.1 I.out.2.2.2.2.1 (by decide) _).mono ?_
    rw [hF.out]
    rintro e w2 ⟨rfl, b2⟩
    have B2 := Lib.hid (bthen B1.out (below_alloc b2))
    clear b2
    go_wp2
    go_ret
    exact ⟨ret_int H.out.1, B2.out⟩

end Go.Proofs.Ytjkfpnplocmhiaa.Port
