/- Contract of the reference's Next. Conditions: none. -/
import Derived.Test.YtafifglfbebhaaaPersNext
namespace Go.Proofs.Ytafifglfbebhaaa.Pers
open Go.ChangeShapes Go.WideShapes Go.ChangeAt Go.RowKit Num Bl

set_option maxHeartbeats 2000000 in
theorem rNextNo (b g : Int) (o x k : Bool) (hm : may ⟨b, o, g⟩ = false) (w : World) :
    Calls Try.prog 24 #[hv ⟨b, o, g⟩, .bool x, .bool k] w fun e w' => e = .returned (hv (next ⟨b, o, g⟩ x k)) ∧ Below w.heap.size w w' := by
  have HN := Lib.hid (next_no hm x k)
  have HM := Lib.hid hm
  clear hm
  go_enter Try.func24, Try.ntmps24
  go_wp2_with fail
  refine (rMay ⟨b, o, g⟩ _).mono ?_
  rintro e w1 ⟨rfl, b1⟩
  rw [HM.out]
  have K1 := blk_new b1
  have K0 := blk_kept (blk_alloc w #[.int .i64 b, .bool o, .int .i64 g] 23) (below_alloc b1)
  have B1 := Lib.hid (below_alloc (below_alloc b1))
  clear b1
  rw [World.size_alloc] at K1
  have KR := Lib.hid K1
  have c0 := blk_cell K1 (o := 0) (v := .int .i64 0) rfl
  have c1 := blk_cell K1 (o := 1) (v := .bool false) rfl
  have c2 := blk_cell K1 (o := 2) (v := .int .i64 0) rfl
  have f0 := blk_free K1 0
  have f1 := blk_free K1 1
  have f2 := blk_free K1 2
  clear K0 K1
  go_wp2
  refine bodyPost_ret (v := hv h0) ?_ rfl ⟨by rw [HN.out], below_put B1.out (Nat.le_succ _) _ _ _⟩
  exact ret_hl Try.results24 _ _ (w.heap.size + 1) h0 rfl (blk_put KR.out _ _ _)

set_option maxHeartbeats 2000000 in
theorem rNextBadIn (b g : Int) (k : Bool) (hm : may ⟨b, false, g⟩ = true) (w : World) :
    Calls Try.prog 24 #[hv ⟨b, false, g⟩, .bool true, .bool k] w fun e w' => e = .returned (hv (next ⟨b, false, g⟩ true k)) ∧ Below w.heap.size w w' := by
  have HN := Lib.hid (next_bad hm k)
  have HC := Lib.hid (cnt_yes (may_of hm).1)
  have HM := Lib.hid hm
  clear hm
  go_enter Try.func24, Try.ntmps24
  go_wp2_with fail
  refine (rMay ⟨b, false, g⟩ _).mono ?_
  rintro e w1 ⟨rfl, b1⟩
  rw [HM.out]
  have K1 := blk_new b1
  have K0 := blk_kept (blk_alloc w #[.int .i64 b, .bool false, .int .i64 g] 23) (below_alloc b1)
  have B1 := Lib.hid (below_alloc (below_alloc b1))
  clear b1
  rw [World.size_alloc] at K1
  have KR := Lib.hid K1
  have c0 := blk_cell K1 (o := 0) (v := .int .i64 0) rfl
  have c1 := blk_cell K1 (o := 1) (v := .bool false) rfl
  have c2 := blk_cell K1 (o := 2) (v := .int .i64 0) rfl
  have f0 := blk_free K1 0
  have f1 := blk_free K1 1
  have f2 := blk_free K1 2
  have a0 := blk_cell K0 (o := 0) (v := .int .i64 b) rfl
  have a1 := blk_cell K0 (o := 1) (v := .bool false) rfl
  clear K0 K1
  go_wp2_with fail
  refine (rMore _ HC.out _).mono ?_
  rintro e w' ⟨rfl, rfl⟩
  generalize more b = m at *
  by_cases h4 : 4 ≤ m
  · have d4 : decide (4 ≤ m) = true := by simp [h4]
    rw [d4] at HN
    clear d4
    go_wp2
    refine bodyPost_ret (v := hv ⟨m, true, 0⟩) ?_ rfl ⟨by rw [HN.out]; rfl, below_put B1.out (Nat.le_succ _) _ _ _⟩
    exact ret_hl Try.results24 _ _ (w.heap.size + 1) ⟨m, true, 0⟩ rfl (blk_put KR.out _ _ _)
  · have d4 : decide (4 ≤ m) = false := by simp; omega
    rw [d4] at HN
    go_wp2
    refine bodyPost_ret (v := hv ⟨m, false, 0⟩) ?_ rfl ⟨by rw [HN.out]; rfl, below_put B1.out (Nat.le_succ _) _ _ _⟩
    exact ret_hl Try.results24 _ _ (w.heap.size + 1) ⟨m, false, 0⟩ rfl (blk_put KR.out _ _ _)

set_option maxHeartbeats 2000000 in
theorem rNextBadOut (b g : Int) (k : Bool) (hm : may ⟨b, true, g⟩ = true) (w : World) :
    Calls Try.prog 24 #[hv ⟨b, true, g⟩, .bool true, .bool k] w fun e w' => e = .returned (hv (next ⟨b, true, g⟩ true k)) ∧ Below w.heap.size w w' := by
  have HN := Lib.hid (next_bad hm k)
  have HC := Lib.hid (cnt_yes (may_of hm).1)
  have HM := Lib.hid hm
  clear hm
  go_enter Try.func24, Try.ntmps24
  go_wp2_with fail
  refine (rMay ⟨b, true, g⟩ _).mono ?_
  rintro e w1 ⟨rfl, b1⟩
  rw [HM.out]
  have K1 := blk_new b1
  have K0 := blk_kept (blk_alloc w #[.int .i64 b, .bool true, .int .i64 g] 23) (below_alloc b1)
  have B1 := Lib.hid (below_alloc (below_alloc b1))
  clear b1
  rw [World.size_alloc] at K1
  have KR := Lib.hid K1
  have c0 := blk_cell K1 (o := 0) (v := .int .i64 0) rfl
  have c1 := blk_cell K1 (o := 1) (v := .bool false) rfl
  have c2 := blk_cell K1 (o := 2) (v := .int .i64 0) rfl
  have f0 := blk_free K1 0
  have f1 := blk_free K1 1
  have f2 := blk_free K1 2
  have a0 := blk_cell K0 (o := 0) (v := .int .i64 b) rfl
  have a1 := blk_cell K0 (o := 1) (v := .bool true) rfl
  clear K0 K1
  go_wp2_with fail
  refine (rMore _ HC.out _).mono ?_
  rintro e w' ⟨rfl, rfl⟩
  generalize more b = m at *
  go_wp2
  refine bodyPost_ret (v := hv ⟨m, true, 0⟩) ?_ rfl ⟨by rw [HN.out]; rfl, below_put B1.out (Nat.le_succ _) _ _ _⟩
  exact ret_hl Try.results24 _ _ (w.heap.size + 1) ⟨m, true, 0⟩ rfl (blk_put KR.out _ _ _)

set_option maxHeartbeats 2000000 in
theorem rNextGoodIn (b g : Int) (k : Bool) (hm : may ⟨b, false, g⟩ = true) (w : World) :
    Calls Try.prog 24 #[hv ⟨b, false, g⟩, .bool false, .bool k] w fun e w' => e = .returned (hv (next ⟨b, false, g⟩ false k)) ∧ Below w.heap.size w w' := by
  have HN := Lib.hid (next_good hm k (by simp))
  have HC := Lib.hid (cnt_yes (may_of hm).2.1)
  have HM := Lib.hid hm
  clear hm
  go_enter Try.func24, Try.ntmps24
  go_wp2_with fail
  refine (rMay ⟨b, false, g⟩ _).mono ?_
  rintro e w1 ⟨rfl, b1⟩
  rw [HM.out]
  have K1 := blk_new b1
  have K0 := blk_kept (blk_alloc w #[.int .i64 b, .bool false, .int .i64 g] 23) (below_alloc b1)
  have B1 := Lib.hid (below_alloc (below_alloc b1))
  clear b1
  rw [World.size_alloc] at K1
  have KR := Lib.hid K1
  have c0 := blk_cell K1 (o := 0) (v := .int .i64 0) rfl
  have c1 := blk_cell K1 (o := 1) (v := .bool false) rfl
  have c2 := blk_cell K1 (o := 2) (v := .int .i64 0) rfl
  have f0 := blk_free K1 0
  have f1 := blk_free K1 1
  have f2 := blk_free K1 2
  have a1 := blk_cell K0 (o := 1) (v := .bool false) rfl
  have a2 := blk_cell K0 (o := 2) (v := .int .i64 g) rfl
  clear K0 K1
  go_wp2_with fail
  refine (rMore _ HC.out _).mono ?_
  rintro e w' ⟨rfl, rfl⟩
  generalize more g = m at *
  go_wp2
  refine bodyPost_ret (v := hv ⟨0, false, m⟩) ?_ rfl ⟨by rw [HN.out], below_put B1.out (Nat.le_succ _) _ _ _⟩
  exact ret_hl Try.results24 _ _ (w.heap.size + 1) ⟨0, false, m⟩ rfl (blk_put KR.out _ _ _)

set_option maxHeartbeats 2000000 in
theorem rNextGoodNot (b g : Int) (hm : may ⟨b, true, g⟩ = true) (w : World) :
    Calls Try.prog 24 #[hv ⟨b, true, g⟩, .bool false, .bool false] w fun e w' => e = .returned (hv (next ⟨b, true, g⟩ false false)) ∧ Below w.heap.size w w' := by
  have HN := Lib.hid (next_good hm false (by simp))
  have HC := Lib.hid (cnt_yes (may_of hm).2.1)
  have HM := Lib.hid hm
  clear hm
  go_enter Try.func24, Try.ntmps24
  go_wp2_with fail
  refine (rMay ⟨b, true, g⟩ _).mono ?_
  rintro e w1 ⟨rfl, b1⟩
  rw [HM.out]
  have K1 := blk_new b1
  have K0 := blk_kept (blk_alloc w #[.int .i64 b, .bool true, .int .i64 g] 23) (below_alloc b1)
  have B1 := Lib.hid (below_alloc (below_alloc b1))
  clear b1
  rw [World.size_alloc] at K1
  have KR := Lib.hid K1
  have c0 := blk_cell K1 (o := 0) (v := .int .i64 0) rfl
  have c1 := blk_cell K1 (o := 1) (v := .bool false) rfl
  have c2 := blk_cell K1 (o := 2) (v := .int .i64 0) rfl
  have f0 := blk_free K1 0
  have f1 := blk_free K1 1
  have f2 := blk_free K1 2
  have a1 := blk_cell K0 (o := 1) (v := .bool true) rfl
  have a2 := blk_cell K0 (o := 2) (v := .int .i64 g) rfl
  clear K0 K1
  go_wp2_with fail
  refine (rMore _ HC.out _).mono ?_
  rintro e w' ⟨rfl, rfl⟩
  generalize more g = m at *
  go_wp2
  refine bodyPost_ret (v := hv ⟨0, true, m⟩) ?_ rfl ⟨by rw [HN.out], below_put B1.out (Nat.le_succ _) _ _ _⟩
  exact ret_hl Try.results24 _ _ (w.heap.size + 1) ⟨0, true, m⟩ rfl (blk_put KR.out _ _ _)

set_option maxHeartbeats 2000000 in
theorem rNextGoodBack (b g : Int) (hm : may ⟨b, true, g⟩ = true) (w : World) :
    Calls Try.prog 24 #[hv ⟨b, true, g⟩, .bool false, .bool true] w fun e w' => e = .returned (hv (next ⟨b, true, g⟩ false true)) ∧ Below w.heap.size w w' := by
  have HC := Lib.hid (cnt_yes (may_of hm).2.1)
  have HN : Hid (next ⟨b, true, g⟩ false true = if 20 ≤ more g then h0 else ⟨0, true, more g⟩) := by
    show next ⟨b, true, g⟩ false true = _
    by_cases h : 20 ≤ more g
    · rw [next_back hm rfl h, if_pos h]
    · rw [next_good hm true (fun hh => h hh.2.2), if_neg h]
  have HM := Lib.hid hm
  clear hm
  go_enter Try.func24, Try.ntmps24
  go_wp2_with fail
  refine (rMay ⟨b, true, g⟩ _).mono ?_
  rintro e w1 ⟨rfl, b1⟩
  rw [HM.out]
  have K1 := blk_new b1
  have K0 := blk_kept (blk_alloc w #[.int .i64 b, .bool true, .int .i64 g] 23) (below_alloc b1)
  have B1 := Lib.hid (below_alloc (below_alloc b1))
  clear b1
  rw [World.size_alloc] at K1
  have KR := Lib.hid K1
  have c0 := blk_cell K1 (o := 0) (v := .int .i64 0) rfl
  have c1 := blk_cell K1 (o := 1) (v := .bool false) rfl
  have c2 := blk_cell K1 (o := 2) (v := .int .i64 0) rfl
  have f0 := blk_free K1 0
  have f1 := blk_free K1 1
  have f2 := blk_free K1 2
  have a1 := blk_cell K0 (o := 1) (v := .bool true) rfl
  have a2 := blk_cell K0 (o := 2) (v := .int .i64 g) rfl
  clear K0 K1
  go_wp2_with fail
  refine (rMore _ HC.out _).mono ?_
  rintro e w' ⟨rfl, rfl⟩
  generalize more g = m at *
  by_cases h20 : 20 ≤ m
  · rw [if_pos h20] at HN
    go_wp2
    refine bodyPost_ret (v := hv h0) ?_ rfl ⟨by rw [HN.out], below_put B1.out (Nat.le_succ _) _ _ _⟩
    exact ret_hl Try.results24 _ _ (w.heap.size + 1) h0 rfl (blk_put KR.out _ _ _)
  · rw [if_neg h20] at HN
    go_wp2
    refine bodyPost_ret (v := hv ⟨0, true, m⟩) ?_ rfl ⟨by rw [HN.out], below_put B1.out (Nat.le_succ _) _ _ _⟩
    exact ret_hl Try.results24 _ _ (w.heap.size + 1) ⟨0, true, m⟩ rfl (blk_put KR.out _ _ _)

/-- The reference's Next: P10.1. -/
theorem rNextC (s : Hl) (x k : Bool) (w : World) :
    Calls Try.prog 24 #[hv s, .bool x, .bool k] w fun e w' => e = .returned (hv (next s x k)) ∧ Below w.heap.size w w' := by
  obtain ⟨b, o, g⟩ := s
  cases hm : may ⟨b, o, g⟩
  · exact rNextNo b g o x k hm w
  · cases x
    · cases o
      · exact rNextGoodIn b g k hm w
      · cases k
        · exact rNextGoodNot b g hm w
        · exact rNextGoodBack b g hm w
    · cases o
      · exact rNextBadIn b g k hm w
      · exact rNextBadOut b g k hm w

end Go.Proofs.Ytafifglfbebhaaa.Pers
