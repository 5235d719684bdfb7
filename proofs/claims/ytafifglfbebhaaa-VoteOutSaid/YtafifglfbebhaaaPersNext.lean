/- Contracts of persist.Next and of the reference's Next. Conditions: none. -/
import Derived.Test.YtafifglfbebhaaaPers
import Derived.Deep.DeepCutAuto
namespace Go.Proofs.Ytafifglfbebhaaa.Pers
open Go.ChangeShapes Go.WideShapes Go.ChangeAt Go.RowKit Num Bl

set_option maxHeartbeats 2000000 in
theorem nextNo (s : Hl) (x k : Bool) (hm : may s = false) (w : World) :
    Calls Try.prog 20 #[hv s, .bool x, .bool k] w fun e w' => e = .returned (hv (next s x k)) ∧ Below w.heap.size w w' := by
  have HN := Lib.hid (next_no hm x k)
  have HM := Lib.hid hm
  clear hm
  go_enter Try.func20, Try.ntmps20
  go_wp2_with fail
  refine (mayC s _).mono ?_
  rintro e w1 ⟨rfl, b1⟩
  rw [HM.out]
  have K1 := blk_new b1
  have B1 := Lib.hid (below_alloc (below_alloc b1))
  clear b1
  rw [World.size_alloc] at K1
  have c0 := blk_cell K1 (o := 0) (v := .int .i64 0) rfl
  have c1 := blk_cell K1 (o := 1) (v := .bool false) rfl
  have c2 := blk_cell K1 (o := 2) (v := .int .i64 0) rfl
  have f0 := blk_free K1 0
  have f1 := blk_free K1 1
  have f2 := blk_free K1 2
  clear K1
  go_wp2
  exact bodyPost_ret (v := hv h0) (by simp [results, Try.results20, go_sem, c0, c1, c2]) rfl ⟨by rw [HN.out], ((B1.out.setCell (by simp) _).setCell (by simp) _).setCell (by simp) _⟩

set_option maxHeartbeats 2000000 in
theorem nextBadIn (b g : Int) (k : Bool) (hm : may ⟨b, false, g⟩ = true) (w : World) :
    Calls Try.prog 20 #[hv ⟨b, false, g⟩, .bool true, .bool k] w fun e w' => e = .returned (hv (next ⟨b, false, g⟩ true k)) ∧ Below w.heap.size w w' := by
  have HN := Lib.hid (next_bad hm k)
  have HC := Lib.hid (cnt_yes (may_of hm).1)
  have HM := Lib.hid hm
  clear hm
  go_enter Try.func20, Try.ntmps20
  go_wp2_with fail
  refine (mayC ⟨b, false, g⟩ _).mono ?_
  rintro e w1 ⟨rfl, b1⟩
  rw [HM.out]
  have K1 := blk_new b1
  have K0 := blk_kept (blk_alloc w #[.int .i64 b, .bool false, .int .i64 g] 23) (below_alloc b1)
  have B1 := Lib.hid (below_alloc (below_alloc b1))
  clear b1
  rw [World.size_alloc] at K1
  have a0 := blk_cell K0 (o := 0) (v := .int .i64 b) rfl
  have a1 := blk_cell K0 (o := 1) (v := .bool false) rfl
  have c0 := blk_cell K1 (o := 0) (v := .int .i64 0) rfl
  have c1 := blk_cell K1 (o := 1) (v := .bool false) rfl
  have c2 := blk_cell K1 (o := 2) (v := .int .i64 0) rfl
  have f0 := blk_free K1 0
  have f1 := blk_free K1 1
  have f2 := blk_free K1 2
  clear K0 K1
  go_wp2_with fail
  refine (oneMoreC _ HC.out _).mono ?_
  rintro e w' ⟨rfl, rfl⟩
  generalize more b = m at *
  by_cases h4 : 4 ≤ m
  · go_wp2
    exact bodyPost_ret (v := hv ⟨m, true, 0⟩) (by simp [results, Try.results20, go_sem, c0, c1, c2]) rfl ⟨by rw [HN.out]; simp [h4], ((B1.out.setCell (by simp) _).setCell (by simp) _).setCell (by simp) _⟩
  · go_wp2
    exact bodyPost_ret (v := hv ⟨m, false, 0⟩) (by simp [results, Try.results20, go_sem, c0, c1, c2]; omega) rfl ⟨by rw [HN.out]; simp [h4], ((B1.out.setCell (by simp) _).setCell (by simp) _).setCell (by simp) _⟩

set_option maxHeartbeats 2000000 in
theorem nextBadOut (b g : Int) (k : Bool) (hm : may ⟨b, true, g⟩ = true) (w : World) :
    Calls Try.prog 20 #[hv ⟨b, true, g⟩, .bool true, .bool k] w fun e w' => e = .returned (hv (next ⟨b, true, g⟩ true k)) ∧ Below w.heap.size w w' := by
  have HN := Lib.hid (next_bad hm k)
  have HC := Lib.hid (cnt_yes (may_of hm).1)
  have HM := Lib.hid hm
  clear hm
  go_enter Try.func20, Try.ntmps20
  go_wp2_with fail
  refine (mayC ⟨b, true, g⟩ _).mono ?_
  rintro e w1 ⟨rfl, b1⟩
  rw [HM.out]
  have K1 := blk_new b1
  have K0 := blk_kept (blk_alloc w #[.int .i64 b, .bool true, .int .i64 g] 23) (below_alloc b1)
  have B1 := Lib.hid (below_alloc (below_alloc b1))
  clear b1
  rw [World.size_alloc] at K1
  have a0 := blk_cell K0 (o := 0) (v := .int .i64 b) rfl
  have a1 := blk_cell K0 (o := 1) (v := .bool true) rfl
  have c0 := blk_cell K1 (o := 0) (v := .int .i64 0) rfl
  have c1 := blk_cell K1 (o := 1) (v := .bool false) rfl
  have c2 := blk_cell K1 (o := 2) (v := .int .i64 0) rfl
  have f0 := blk_free K1 0
  have f1 := blk_free K1 1
  have f2 := blk_free K1 2
  clear K0 K1
  go_wp2_with fail
  refine (oneMoreC _ HC.out _).mono ?_
  rintro e w' ⟨rfl, rfl⟩
  generalize more b = m at *
  go_wp2
  exact bodyPost_ret (v := hv ⟨m, true, 0⟩) (by simp [results, Try.results20, go_sem, c0, c1, c2]) rfl ⟨by rw [HN.out]; rfl, ((B1.out.setCell (by simp) _).setCell (by simp) _).setCell (by simp) _⟩

theorem blk_put {w : World} {b : Nat} {x y z : Value} {T : TypeId} (K : Blk w b #[x, y, z] T) (v0 v1 v2 : Value) :
    Blk (((w.setCell ⟨b, 0, none⟩ v0).setCell ⟨b, 1, none⟩ v1).setCell ⟨b, 2, none⟩ v2) b #[v0, v1, v2] T := by
  have h := blk_set (blk_set (blk_set K 0 v0) 1 v1) 2 v2
  simpa using h
theorem below_put {B b : Nat} {a w : World} (h : Below B a w) (hb : B ≤ b) (v0 v1 v2 : Value) : Below B a (((w.setCell ⟨b, 0, none⟩ v0).setCell ⟨b, 1, none⟩ v1).setCell ⟨b, 2, none⟩ v2) :=
  ((h.setCell (p := ⟨b, 0, none⟩) hb _).setCell (p := ⟨b, 1, none⟩) hb _).setCell (p := ⟨b, 2, none⟩) hb _
theorem infoH : (Try.prog.info? 23).map (·.size) = some 3 := by kernel_rfl
/-- A health in a block, as a result. -/
theorem ret_hl {fn : Func} {p : Tmp} (h : fn.results = #[.cell p 23]) (tmps : Array Value) (W : World) (g : Nat) (s : Hl) (hp : tmps.getD p undef = .pointer (some ⟨g, 0, none⟩)) (K : Blk W g (hc s) 23) :
    (results fn tmps).run Try.prog W = .ok (hv s) W :=
  results_cell_row h tmps W g 23 (hc s) (0, 0) _ hp K Try.underlying23 rfl infoH

/-- What a good frame comes to, ahead of the question whether it is back. -/
theorem isBackQ (b g : Int) (o q : Bool) (h : (o && decide (20 ≤ g)) = q) (w : World) :
    Calls Try.prog 33 #[.agg #[.int .i64 b, .bool o, .int .i64 g]] w fun e w' => e = .returned (.bool q) ∧ Below w.heap.size w w' := by
  subst h; exact isBackC ⟨b, o, g⟩ w

set_option maxHeartbeats 2000000 in
theorem nextGoodStay (b g : Int) (o : Bool) (hm : may ⟨b, o, g⟩ = true) (w : World) :
    Calls Try.prog 20 #[hv ⟨b, o, g⟩, .bool false, .bool false] w fun e w' => e = .returned (hv (next ⟨b, o, g⟩ false false)) ∧ Below w.heap.size w w' := by
  have HN := Lib.hid (next_good hm false (by simp))
  have HC := Lib.hid (cnt_yes (may_of hm).2.1)
  have HM := Lib.hid hm
  clear hm
  go_enter Try.func20, Try.ntmps20
  go_wp2_with fail
  refine (mayC ⟨b, o, g⟩ _).mono ?_
  rintro e w1 ⟨rfl, b1⟩
  rw [HM.out]
  have K1 := blk_new b1
  have K0 := blk_kept (blk_alloc w #[.int .i64 b, .bool o, .int .i64 g] 23) (below_alloc b1)
  have B1 := Lib.hid (below_alloc (below_alloc b1))
  clear b1
  rw [World.size_alloc] at K1
  have a1 := blk_cell K0 (o := 1) (v := .bool o) rfl
  have a2 := blk_cell K0 (o := 2) (v := .int .i64 g) rfl
  have lt0 := blk_lt K0
  have lt1 := blk_lt K1
  clear K0
  go_wp2_with fail
  go_upto_region 6 with fail
  go_cut [8] from 25 to 30 (fun p wx => p = .pointer (some ⟨w1.heap.size, 0, none⟩) ∧ Hid (Below w.heap.size w wx) ∧ Hid (Blk wx w1.heap.size #[.int .i64 0, .bool o, .int .i64 (more g)] 23) ∧ Hid (Blk wx (w.heap.size + 1) #[.int .i64 0, .bool false, .int .i64 0] 23) ∧ Hid (w1.heap.size < wx.heap.size))
  case first =>
    go_region_with (go_at_call 32; refine (oneMoreC _ HC.out _).mono ?_; rintro e w' ⟨rfl, rfl⟩)
    all_goals (go_wp2_with fail; go_meet; exact ⟨rfl, below_drewN (B1.out.alloc (by have := B1.out.size; omega) _) 1, blk_alloc w1 _ _, (Below.heap_alloc w1 _ _ lt1).trans K1, by show w1.heap.size < (w1.alloc _).heap.size; simp⟩)
  case rest =>
    obtain ⟨rfl, BC, KG, KR, LT⟩ := hcut
    generalize more g = m at *
    have g0 := blk_cell KG.out (o := 0) (v := .int .i64 0) rfl
    have g1 := blk_cell KG.out (o := 1) (v := .bool o) rfl
    have g2 := blk_cell KG.out (o := 2) (v := .int .i64 m) rfl
    have r0 := blk_cell KR.out (o := 0) (v := .int .i64 0) rfl
    have r1 := blk_cell KR.out (o := 1) (v := .bool false) rfl
    have r2 := blk_cell KR.out (o := 2) (v := .int .i64 0) rfl
    have q0 := blk_free KR.out 0
    have q1 := blk_free KR.out 1
    have q2 := blk_free KR.out 2
    go_wp2
    refine bodyPost_ret (v := hv ⟨0, o, m⟩) ?_ rfl ⟨by rw [HN.out], below_put BC.out (Nat.le_succ _) _ _ _⟩
    exact ret_hl Try.results20 _ _ (w.heap.size + 1) ⟨0, o, m⟩ rfl (blk_put KR.out _ _ _)

set_option maxHeartbeats 2000000 in
theorem nextGoodBack (b g : Int) (o : Bool) (hm : may ⟨b, o, g⟩ = true) (w : World) :
    Calls Try.prog 20 #[hv ⟨b, o, g⟩, .bool false, .bool true] w fun e w' => e = .returned (hv (next ⟨b, o, g⟩ false true)) ∧ Below w.heap.size w w' := by
  have HN : Hid (next ⟨b, o, g⟩ false true = if (o && decide (20 ≤ more g)) = true then h0 else ⟨0, o, more g⟩) := by
    show next ⟨b, o, g⟩ false true = _
    by_cases h : o = true ∧ 20 ≤ more g
    · rw [next_back hm h.1 h.2, if_pos (by simp [h.1, h.2])]
    · rw [next_good hm true (fun hh => h ⟨hh.1, hh.2.2⟩), if_neg (by simpa using h)]
  have HC := Lib.hid (cnt_yes (may_of hm).2.1)
  have HM := Lib.hid hm
  clear hm
  go_enter Try.func20, Try.ntmps20
  go_wp2_with fail
  refine (mayC ⟨b, o, g⟩ _).mono ?_
  rintro e w1 ⟨rfl, b1⟩
  rw [HM.out]
  have K1 := blk_new b1
  have K0 := blk_kept (blk_alloc w #[.int .i64 b, .bool o, .int .i64 g] 23) (below_alloc b1)
  have B1 := Lib.hid (below_alloc (below_alloc b1))
  clear b1
  rw [World.size_alloc] at K1
  have a1 := blk_cell K0 (o := 1) (v := .bool o) rfl
  have a2 := blk_cell K0 (o := 2) (v := .int .i64 g) rfl
  have lt0 := blk_lt K0
  have lt1 := blk_lt K1
  clear K0
  go_wp2_with fail
  go_upto_region 6 with fail
  go_cut [8] from 25 to 30 (fun p wx => p = .pointer (some ⟨w1.heap.size, 0, none⟩) ∧ Hid (Below w.heap.size w wx) ∧ Hid (Blk wx w1.heap.size #[.int .i64 0, .bool o, .int .i64 (more g)] 23) ∧ Hid (Blk wx (w.heap.size + 1) #[.int .i64 0, .bool false, .int .i64 0] 23) ∧ Hid (w1.heap.size < wx.heap.size))
  case first =>
    go_region_with (go_at_call 32; refine (oneMoreC _ HC.out _).mono ?_; rintro e w' ⟨rfl, rfl⟩)
    all_goals (go_wp2_with fail; go_meet; exact ⟨rfl, below_drewN (B1.out.alloc (by have := B1.out.size; omega) _) 1, blk_alloc w1 _ _, (Below.heap_alloc w1 _ _ lt1).trans K1, by show w1.heap.size < (w1.alloc _).heap.size; simp⟩)
  case rest =>
    obtain ⟨rfl, BC, KG, KR, LT⟩ := hcut
    generalize more g = m at *
    have g0 := blk_cell KG.out (o := 0) (v := .int .i64 0) rfl
    have g1 := blk_cell KG.out (o := 1) (v := .bool o) rfl
    have g2 := blk_cell KG.out (o := 2) (v := .int .i64 m) rfl
    have r0 := blk_cell KR.out (o := 0) (v := .int .i64 0) rfl
    have r1 := blk_cell KR.out (o := 1) (v := .bool false) rfl
    have r2 := blk_cell KR.out (o := 2) (v := .int .i64 0) rfl
    have q0 := blk_free KR.out 0
    have q1 := blk_free KR.out 1
    have q2 := blk_free KR.out 2
    cases hq : (o && decide (20 ≤ m))
    · have HQ := Lib.hid hq
      rw [hq] at HN
      clear hq
      go_wp2_with fail
      refine (isBackQ _ _ _ false HQ.out _).mono ?_
      rintro e w5 ⟨rfl, b5⟩
      have BD := Lib.hid (BC.out.trans (b5.mono BC.out.size))
      have KH := Lib.hid (blk_kept KG.out b5)
      have KS := Lib.hid (blk_kept KR.out b5)
      clear b5 g0 g1 g2 r0 r1 r2 q0 q1 q2
      have g0 := blk_cell KH.out (o := 0) (v := .int .i64 0) rfl
      have g1 := blk_cell KH.out (o := 1) (v := .bool o) rfl
      have g2 := blk_cell KH.out (o := 2) (v := .int .i64 m) rfl
      have r0 := blk_cell KS.out (o := 0) (v := .int .i64 0) rfl
      have r1 := blk_cell KS.out (o := 1) (v := .bool false) rfl
      have r2 := blk_cell KS.out (o := 2) (v := .int .i64 0) rfl
      have q0 := blk_free KS.out 0
      have q1 := blk_free KS.out 1
      have q2 := blk_free KS.out 2
      go_wp2
      refine bodyPost_ret (v := hv ⟨0, o, m⟩) ?_ rfl ⟨by rw [HN.out]; rfl, below_put BD.out (Nat.le_succ _) _ _ _⟩
      exact ret_hl Try.results20 _ _ (w.heap.size + 1) ⟨0, o, m⟩ rfl (blk_put KS.out _ _ _)
    · have HQ := Lib.hid hq
      rw [hq] at HN
      clear hq
      go_wp2_with fail
      refine (isBackQ _ _ _ true HQ.out _).mono ?_
      rintro e w5 ⟨rfl, b5⟩
      have BD := Lib.hid (BC.out.trans (b5.mono BC.out.size))
      have KS := Lib.hid (blk_kept KR.out b5)
      clear b5 g0 g1 g2 r0 r1 r2 q0 q1 q2
      have r0 := blk_cell KS.out (o := 0) (v := .int .i64 0) rfl
      have r1 := blk_cell KS.out (o := 1) (v := .bool false) rfl
      have r2 := blk_cell KS.out (o := 2) (v := .int .i64 0) rfl
      have q0 := blk_free KS.out 0
      have q1 := blk_free KS.out 1
      have q2 := blk_free KS.out 2
      go_wp2
      refine bodyPost_ret (v := hv h0) ?_ rfl ⟨by rw [HN.out]; rfl, below_put BD.out (Nat.le_succ _) _ _ _⟩
      exact ret_hl Try.results20 _ _ (w.heap.size + 1) h0 rfl (blk_put KS.out _ _ _)

/-- persist.Next: P10.1. -/
theorem nextC (s : Hl) (x k : Bool) (w : World) :
    Calls Try.prog 20 #[hv s, .bool x, .bool k] w fun e w' => e = .returned (hv (next s x k)) ∧ Below w.heap.size w w' := by
  cases hm : may s
  · exact nextNo s x k hm w
  · obtain ⟨b, o, g⟩ := s
    cases x
    · cases k
      · exact nextGoodStay b g o hm w
      · exact nextGoodBack b g o hm w
    · cases o
      · exact nextBadIn b g k hm w
      · exact nextBadOut b g k hm w

end Go.Proofs.Ytafifglfbebhaaa.Pers
