/- The signals that the document tells of: the laws' 'lives'. Conditions: none. -/
import Derived.Test.YtafifglfbebhaaaVoteStep
namespace Go.Proofs.Ytafifglfbebhaaa.Vote
open Go.ChangeShapes Go.WideShapes Go.ChangeAt Go.RowKit Num Bl Pers Mid

/-- Two results laid in blocks of their own. -/
theorem two_new {W v : World} {U V : Array Value} {T1 T2 : TypeId} (b : Below ((W.alloc (.cells U T1)).alloc (.cells V T2)).heap.size ((W.alloc (.cells U T1)).alloc (.cells V T2)) v) : Blk v W.heap.size U T1 ∧ Blk v (W.heap.size + 1) V T2 ∧ Below W.heap.size W v :=
  ⟨blk_kept (blk_kept (blk_alloc W _ _) ((Below.refl _ _).alloc (Nat.le_refl _) _)) b, blk_kept (blk_alloc2 W _ _ _) b, below_alloc (below_alloc b)⟩
theorem two_refl (W : World) (U V : Array Value) (T1 T2 : TypeId) : Below ((W.alloc (.cells U T1)).alloc (.cells V T2)).heap.size ((W.alloc (.cells U T1)).alloc (.cells V T2)) ((W.alloc (.cells U T1)).alloc (.cells V T2)) := Below.refl _ _
def H1 : Nat → Hl := fun i => match i with | 0 => ⟨0, false, 1⟩ | 1 => ⟨0, false, 1⟩ | _ => ⟨1, false, 0⟩
theorem in_in {a : Int} (h : -1000 ≤ a ∧ a ≤ 1000) : In a := ⟨by omega, by omega⟩
def R1 : Nat → Rd := fun i => match i with | 0 => ⟨true, 5⟩ | 1 => ⟨true, 7⟩ | _ => ⟨true, 900⟩
theorem r1_in (i : Nat) : In (R1 i).v := by
  unfold R1
  split <;> exact in_in (by decide)
theorem v1 : stV noH R1 100 = ⟨true, 7, 3⟩ := by simp [stV, vot, cn, vl, pres, may, cnt, R1, ofB, ofN, far, middle, gmin, gmax]
theorem f1 : hsA (stH noH R1 100 false) = #[.int .i64 0, .bool false, .int .i64 1, .int .i64 0, .bool false, .int .i64 1, .int .i64 1, .bool false, .int .i64 0] := by simp [hsA, stH, v1, bd, pres, may, cnt, next, more, R1, far]
theorem live1 (W : World) : Calls Try.prog 8 #[.agg #[.int .i64 0, .bool false, .int .i64 0, .int .i64 0, .bool false, .int .i64 0, .int .i64 0, .bool false, .int .i64 0], .agg #[.bool true, .int .i64 5, .bool true, .int .i64 7, .bool true, .int .i64 900], .int .i64 100, .bool false] W fun e w' => e = .returned (.tuple #[.agg #[.int .i64 0, .bool false, .int .i64 1, .int .i64 0, .bool false, .int .i64 1, .int .i64 1, .bool false, .int .i64 0], .agg #[.bool true, .int .i64 7, .int .i64 3]]) ∧ Below W.heap.size W w' := by
  have h := stepC noH R1 100 false W r1_in (in_in (by decide))
  rw [v1, f1] at h
  exact h
def R2 : Nat → Rd := fun i => match i with | 0 => ⟨true, 5⟩ | 1 => ⟨true, 8⟩ | _ => ⟨false, 0⟩
theorem r2_in (i : Nat) : In (R2 i).v := by
  unfold R2
  split <;> exact in_in (by decide)
theorem v2 : stV noH R2 100 = ⟨true, 6, 2⟩ := by simp [stV, vot, cn, vl, pres, may, cnt, R2, ofB, ofN, far, avg]
theorem f2 : hsA (stH noH R2 100 false) = #[.int .i64 0, .bool false, .int .i64 1, .int .i64 0, .bool false, .int .i64 1, .int .i64 1, .bool false, .int .i64 0] := by simp [hsA, stH, v2, bd, pres, may, cnt, next, more, R2, far]
theorem live2 (W : World) : Calls Try.prog 8 #[.agg #[.int .i64 0, .bool false, .int .i64 0, .int .i64 0, .bool false, .int .i64 0, .int .i64 0, .bool false, .int .i64 0], .agg #[.bool true, .int .i64 5, .bool true, .int .i64 8, .bool false, .int .i64 0], .int .i64 100, .bool false] W fun e w' => e = .returned (.tuple #[.agg #[.int .i64 0, .bool false, .int .i64 1, .int .i64 0, .bool false, .int .i64 1, .int .i64 1, .bool false, .int .i64 0], .agg #[.bool true, .int .i64 6, .int .i64 2]]) ∧ Below W.heap.size W w' := by
  have h := stepC noH R2 100 false W r2_in (in_in (by decide))
  rw [v2, f2] at h
  exact h
def R3 : Nat → Rd := fun i => match i with | 0 => ⟨true, 5⟩ | 1 => ⟨true, 900⟩ | _ => ⟨false, 0⟩
theorem r3_in (i : Nat) : In (R3 i).v := by
  unfold R3
  split <;> exact in_in (by decide)
theorem v3 : stV noH R3 100 = ⟨false, 0, 2⟩ := by simp [stV, vot, cn, vl, pres, may, cnt, R3, far]
theorem f3 : hsA (stH noH R3 100 false) = #[.int .i64 1, .bool false, .int .i64 0, .int .i64 1, .bool false, .int .i64 0, .int .i64 1, .bool false, .int .i64 0] := by simp [hsA, stH, v3, bd, pres, may, cnt, next, more, R3, far]
theorem live3 (W : World) : Calls Try.prog 8 #[.agg #[.int .i64 0, .bool false, .int .i64 0, .int .i64 0, .bool false, .int .i64 0, .int .i64 0, .bool false, .int .i64 0], .agg #[.bool true, .int .i64 5, .bool true, .int .i64 900, .bool false, .int .i64 0], .int .i64 100, .bool false] W fun e w' => e = .returned (.tuple #[.agg #[.int .i64 1, .bool false, .int .i64 0, .int .i64 1, .bool false, .int .i64 0, .int .i64 1, .bool false, .int .i64 0], .agg #[.bool false, .int .i64 0, .int .i64 2]]) ∧ Below W.heap.size W w' := by
  have h := stepC noH R3 100 false W r3_in (in_in (by decide))
  rw [v3, f3] at h
  exact h
def R4 : Nat → Rd := fun i => match i with | 0 => ⟨false, 0⟩ | 1 => ⟨false, 0⟩ | _ => ⟨true, 3⟩
theorem r4_in (i : Nat) : In (R4 i).v := by
  unfold R4
  split <;> exact in_in (by decide)
theorem v4 : stV noH R4 100 = ⟨true, 3, 1⟩ := by simp [stV, vot, cn, vl, pres, may, cnt, R4, ofB, ofN, far]
theorem f4 : hsA (stH noH R4 100 false) = #[.int .i64 1, .bool false, .int .i64 0, .int .i64 1, .bool false, .int .i64 0, .int .i64 0, .bool false, .int .i64 1] := by simp [hsA, stH, v4, bd, pres, may, cnt, next, more, R4, far]
theorem live4 (W : World) : Calls Try.prog 8 #[.agg #[.int .i64 0, .bool false, .int .i64 0, .int .i64 0, .bool false, .int .i64 0, .int .i64 0, .bool false, .int .i64 0], .agg #[.bool false, .int .i64 0, .bool false, .int .i64 0, .bool true, .int .i64 3], .int .i64 100, .bool false] W fun e w' => e = .returned (.tuple #[.agg #[.int .i64 1, .bool false, .int .i64 0, .int .i64 1, .bool false, .int .i64 0, .int .i64 0, .bool false, .int .i64 1], .agg #[.bool true, .int .i64 3, .int .i64 1]]) ∧ Below W.heap.size W w' := by
  have h := stepC noH R4 100 false W r4_in (in_in (by decide))
  rw [v4, f4] at h
  exact h
theorem liveIn (W : World) : Calls Try.prog 10 #[.agg #[.int .i64 0, .bool false, .int .i64 1, .int .i64 0, .bool false, .int .i64 1, .int .i64 1, .bool false, .int .i64 0]] W fun e w' => e = .returned (.int .i64 3) ∧ Below W.heap.size W w' := inC H1 W

set_option maxRecDepth 100000 in
set_option maxHeartbeats 8000000 in
theorem lives (w : World) :
    Calls Try.prog 12 #[] w fun e w' => e = .returned (.bool true) ∧ Below w.heap.size w w' := by
  have HB := Lib.hid (Below.refl w.heap.size w)
  go_enter Try.func12, Try.ntmps12
  go_wp2_with fail
  refine (saysC 5 _).mono ?_
  rintro e x ⟨rfl, bb⟩
  replace HB := Lib.hid (bthen HB.out bb)
  clear bb
  go_wp2_with fail
  refine (saysC 7 _).mono ?_
  rintro e x ⟨rfl, bb⟩
  replace HB := Lib.hid (bthen HB.out bb)
  clear bb
  go_wp2_with fail
  refine (saysC 900 _).mono ?_
  rintro e x ⟨rfl, bb⟩
  replace HB := Lib.hid (bthen HB.out bb)
  clear bb
  go_wp2_with fail
  refine (live1 _).mono ?_
  rintro e w1 ⟨rfl, bb⟩
  replace HB := Lib.hid (bthen HB.out bb)
  clear bb
  go_wp2_with fail
  refine (saysC 5 _).mono ?_
  rintro e x ⟨rfl, bb⟩
  have T := two_new (W := w1) bb
  have PH := Lib.hid T.1
  have P1 := Lib.hid T.2.1
  replace HB := Lib.hid (bthen HB.out T.2.2)
  clear bb T
  go_wp2_with fail
  refine (saysC 8 _).mono ?_
  rintro e x ⟨rfl, bb⟩
  replace PH := Lib.hid (blk_kept PH.out bb)
  replace P1 := Lib.hid (blk_kept P1.out bb)
  replace HB := Lib.hid (bthen HB.out bb)
  clear bb
  go_wp2_with fail
  refine (live2 _).mono ?_
  rintro e w2 ⟨rfl, bb⟩
  replace PH := Lib.hid (blk_kept PH.out bb)
  replace P1 := Lib.hid (blk_kept P1.out bb)
  replace HB := Lib.hid (bthen HB.out bb)
  clear bb
  go_wp2_with fail
  refine (saysC 5 _).mono ?_
  rintro e x ⟨rfl, bb⟩
  have T := two_new (W := w2) bb
  replace PH := Lib.hid (blk_kept PH.out T.2.2)
  replace P1 := Lib.hid (blk_kept P1.out T.2.2)
  have P2 := Lib.hid T.2.1
  replace HB := Lib.hid (bthen HB.out T.2.2)
  clear bb T
  go_wp2_with fail
  refine (saysC 900 _).mono ?_
  rintro e x ⟨rfl, bb⟩
  replace PH := Lib.hid (blk_kept PH.out bb)
  replace P1 := Lib.hid (blk_kept P1.out bb)
  replace P2 := Lib.hid (blk_kept P2.out bb)
  replace HB := Lib.hid (bthen HB.out bb)
  clear bb
  go_wp2_with fail
  refine (live3 _).mono ?_
  rintro e w3 ⟨rfl, bb⟩
  replace PH := Lib.hid (blk_kept PH.out bb)
  replace P1 := Lib.hid (blk_kept P1.out bb)
  replace P2 := Lib.hid (blk_kept P2.out bb)
  replace HB := Lib.hid (bthen HB.out bb)
  clear bb
  go_wp2_with fail
  refine (saysC 3 _).mono ?_
  rintro e x ⟨rfl, bb⟩
  have T := two_new (W := w3) bb
  replace PH := Lib.hid (blk_kept PH.out T.2.2)
  replace P1 := Lib.hid (blk_kept P1.out T.2.2)
  replace P2 := Lib.hid (blk_kept P2.out T.2.2)
  have P3 := Lib.hid T.2.1
  replace HB := Lib.hid (bthen HB.out T.2.2)
  clear bb T
  go_wp2_with fail
  refine (live4 _).mono ?_
  rintro e w4 ⟨rfl, bb⟩
  replace PH := Lib.hid (blk_kept PH.out bb)
  replace P1 := Lib.hid (blk_kept P1.out bb)
  replace P2 := Lib.hid (blk_kept P2.out bb)
  replace P3 := Lib.hid (blk_kept P3.out bb)
  replace HB := Lib.hid (bthen HB.out bb)
  clear bb
  have T := two_new (W := w4) (two_refl w4 #[.int .i64 1, .bool false, .int .i64 0, .int .i64 1, .bool false, .int .i64 0, .int .i64 0, .bool false, .int .i64 1] #[.bool true, .int .i64 3, .int .i64 1] 24 29)
  replace PH := Lib.hid (blk_kept PH.out T.2.2)
  replace P1 := Lib.hid (blk_kept P1.out T.2.2)
  replace P2 := Lib.hid (blk_kept P2.out T.2.2)
  replace P3 := Lib.hid (blk_kept P3.out T.2.2)
  replace HB := Lib.hid (bthen HB.out T.2.2)
  have P4 := Lib.hid T.2.1
  clear T
  have h0 := blk_cell PH.out (o := 0) rfl
  have h1 := blk_cell PH.out (o := 1) rfl
  have h2 := blk_cell PH.out (o := 2) rfl
  have h3 := blk_cell PH.out (o := 3) rfl
  have h4 := blk_cell PH.out (o := 4) rfl
  have h5 := blk_cell PH.out (o := 5) rfl
  have h6 := blk_cell PH.out (o := 6) rfl
  have h7 := blk_cell PH.out (o := 7) rfl
  have h8 := blk_cell PH.out (o := 8) rfl
  have c10 := blk_cell P1.out (o := 0) rfl
  have c11 := blk_cell P1.out (o := 1) rfl
  have c12 := blk_cell P1.out (o := 2) rfl
  have c20 := blk_cell P2.out (o := 0) rfl
  have c21 := blk_cell P2.out (o := 1) rfl
  have c22 := blk_cell P2.out (o := 2) rfl
  have c30 := blk_cell P3.out (o := 0) rfl
  have c31 := blk_cell P3.out (o := 1) rfl
  have c32 := blk_cell P3.out (o := 2) rfl
  have c40 := blk_cell P4.out (o := 0) rfl
  have c41 := blk_cell P4.out (o := 1) rfl
  have c42 := blk_cell P4.out (o := 2) rfl
  go_wp2_with fail
  refine (liveIn _).mono ?_
  rintro e x ⟨rfl, bb⟩
  replace HB := Lib.hid (bthen HB.out bb)
  clear bb
  go_wp2
  go_ret
  exact ⟨rfl, HB.out⟩

end Go.Proofs.Ytafifglfbebhaaa.Vote
