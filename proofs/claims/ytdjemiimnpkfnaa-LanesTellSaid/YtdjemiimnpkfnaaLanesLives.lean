/- What layer 14's laws share: the commands by their Side alone, between two numbers, 'lives'. Conditions: none. -/
import Derived.Test.YtdjemiimnpkfnaaLanesVote
import Derived.Test.YtdjemiimnpkfnaaLanesServo
import Derived.Test.YtdjemiimnpkfnaaLanesMany
namespace Go.Proofs.Ytdjemiimnpkfnaa.Lanes
open Go.ChangeShapes Go.WideShapes Go.ChangeAt Go.RowKit Num Mid

/-- Three commands by their Side. -/
def sd (i j : Nat) : Int := if j = 0 then (if i = 0 then 5 else if i = 1 then 9 else 7) else 0
theorem sd_in (i j : Nat) : In (sd i j) := by unfold sd In; split <;> (try split) <;> (try split) <;> omega
abbrev sdA : Array Value := #[.int .i64 5, .int .i64 0, .int .i64 0, .int .i64 9, .int .i64 0, .int .i64 0, .int .i64 7, .int .i64 0, .int .i64 0]
theorem sd_A : c9 sd = sdA := rfl
abbrev oneA (n : Int) : Array Value := #[.int .i64 n, .int .i64 0, .int .i64 0]
set_option maxHeartbeats 1000000 in
theorem sidesC (w : World) : Calls Try.prog 24 #[.int .i64 5, .int .i64 9, .int .i64 7] w fun e w' => e = .returned (.agg sdA) ∧ Below w.heap.size w w' := by
  go_enter Try.func24, Try.ntmps24
  go_wp2
  refine bodyPost_ret (v := .agg sdA) ?_ rfl ⟨rfl, allocs _ _⟩
  exact results_cell_row Try.results24 _ _ w.heap.size 24 sdA (0, 0) _ rfl (blk_alloc w sdA _) Try.underlying24 rfl infoC3
theorem v1 : cA (vote 0 sd (fun i => i != 0)) = oneA 7 := by kernel_rfl
theorem v2 : cA (vote 0 sd (fun i => i == 1)) = oneA 5 := by kernel_rfl
theorem v3 : cA (servo sd (fun i => i != 2)) = oneA 7 := by kernel_rfl
theorem v4 : cA (servo sd (fun _ => false)) = oneA 0 := by kernel_rfl
theorem live1 (w : World) : Calls Try.prog 6 #[.int .i64 0, .agg sdA, .agg #[.bool false, .bool true, .bool true]] w fun e w' => e = .returned (.tuple #[.agg (oneA 7), .int .i64 0]) ∧ Below w.heap.size w w' := by
  have h := voteC 0 (by decide) sd sd_in (fun i => i != 0) w
  rw [v1] at h
  exact h
theorem live2 (w : World) : Calls Try.prog 6 #[.int .i64 0, .agg sdA, .agg #[.bool false, .bool true, .bool false]] w fun e w' => e = .returned (.tuple #[.agg (oneA 5), .int .i64 0]) ∧ Below w.heap.size w w' := by
  have h := voteC 0 (by decide) sd sd_in (fun i => i == 1) w
  rw [v2] at h
  exact h
theorem live3 (w : World) : Calls Try.prog 6 #[.int .i64 3, .agg sdA, .agg #[.bool false, .bool false, .bool false]] w fun e w' => e = .returned (.tuple #[.agg (oneA 0), .int .i64 2]) ∧ Below w.heap.size w w' :=
  voteNo 3 (.inr (by decide)) sd (fun _ => false) w
theorem live4 (w : World) : Calls Try.prog 8 #[.agg sdA, .agg #[.bool true, .bool true, .bool false]] w fun e w' => e = .returned (.tuple #[.agg (oneA 7), .bool true]) ∧ Below w.heap.size w w' := by
  have h := servoC sd sd_in (fun i => i != 2) w
  rw [v3] at h
  exact h
theorem live5 (w : World) : Calls Try.prog 8 #[.agg sdA, .agg #[.bool false, .bool false, .bool false]] w fun e w' => e = .returned (.tuple #[.agg (oneA 0), .bool false]) ∧ Below w.heap.size w w' := by
  have h := servoC sd sd_in (fun _ => false) w
  rw [v4] at h
  exact h
theorem live6 (w : World) : Calls Try.prog 10 #[.agg #[.bool true, .bool false, .bool true]] w fun e w' => e = .returned (.int .i64 2) ∧ Below w.heap.size w w' :=
  manyC (fun i => i != 1) w
theorem live7 (w : World) : Calls Try.prog 12 #[.agg (oneA 5), .agg (oneA 9)] w fun e w' => e = .returned (.int .i64 4) ∧ Below w.heap.size w w' :=
  apartC (fun i => if i = 0 then 5 else 0) (fun i => if i = 0 then 9 else 0) (fun j => by unfold In; split <;> omega) (fun j => by unfold In; split <;> omega) w

theorem betweenC (n a b : Int) (w : World) :
    Calls Try.prog 15 #[.int .i64 n, .int .i64 a, .int .i64 b] w fun e w' => e = .returned (.bool (decide (gmin a b ≤ n) && decide (n ≤ gmax a b))) ∧ w = w' := by
  by_cases h : gmin a b ≤ n
  · go_enter Try.func15, Try.ntmps15
    go_wp2
    go_ret
    exact ⟨by simp [h], rfl⟩
  · have HN := Lib.hid (show decide (gmin a b ≤ n) = false from decide_eq_false h)
    go_enter Try.func15, Try.ntmps15
    go_wp2
    go_ret
    exact ⟨ret_bool (by rw [HN.out]; rfl), rfl⟩

theorem lay2 {w w1 : World} (b : Below w.heap.size w w1) (us : Array Value) : Below w.heap.size w (w1.alloc (.cells us 23)) ∧ Blk (w1.alloc (.cells us 23)) w1.heap.size us 23 := ⟨below_new b _, blk_alloc _ _ _⟩
set_option maxHeartbeats 4000000 in
theorem lives (w : World) : Calls Try.prog 14 #[] w fun e w' => e = .returned (.bool true) ∧ Below w.heap.size w w' := by
  go_enter Try.func14, Try.ntmps14
  go_wp2_with fail
  refine (sidesC _).mono ?_
  rintro e w1 ⟨rfl, b1⟩
  have B1 := Lib.hid b1
  clear b1
  go_wp2_with fail
  refine (live1 _).mono ?_
  rintro e w2 ⟨rfl, b2⟩
  have P2 := Lib.hid (lay2 (bthen B1.out b2) (oneA 7))
  clear b2 B1
  go_wp2_with fail
  generalize w2.heap.size = g1 at *
  generalize World.alloc w2 _ = v2 at *
  refine (sidesC _).mono ?_
  rintro e w3 ⟨rfl, b3⟩
  have B3 := Lib.hid (bthen P2.out.1 b3)
  have K3 := Lib.hid (blk_kept P2.out.2 b3)
  clear b3 P2
  go_wp2_with fail
  refine (live2 _).mono ?_
  rintro e w4 ⟨rfl, b4⟩
  have P4 := Lib.hid (lay2 (bthen B3.out b4) (oneA 5))
  have K4 := Lib.hid (blk_kept (blk_kept K3.out b4) (allocs w4 (.cells (oneA 5) 23)))
  clear b4 B3 K3
  go_wp2_with fail
  generalize w4.heap.size = g3 at *
  generalize World.alloc w4 _ = v4 at *
  refine (sidesC _).mono ?_
  rintro e w5 ⟨rfl, b5⟩
  have B5 := Lib.hid (bthen P4.out.1 b5)
  have K5 := Lib.hid (And.intro (blk_kept K4.out b5) (blk_kept P4.out.2 b5))
  clear b5 P4 K4
  go_wp2_with fail
  refine (live3 _).mono ?_
  rintro e w6 ⟨rfl, b6⟩
  have P6 := Lib.hid (lay2 (bthen B5.out b6) (oneA 0))
  have b6' := (b6.alloc b6.size (.cells (oneA 0) 23))
  have K6 := Lib.hid (And.intro (blk_kept K5.out.1 b6') (blk_kept K5.out.2 b6'))
  clear b6 b6' B5 K5
  go_wp2_with fail
  generalize w6.heap.size = g5 at *
  generalize World.alloc w6 _ = v6 at *
  refine (sidesC _).mono ?_
  rintro e w7 ⟨rfl, b7⟩
  have B7 := Lib.hid (bthen P6.out.1 b7)
  have K7 := Lib.hid (And.intro (blk_kept K6.out.1 b7) (blk_kept K6.out.2 b7))
  clear b7 P6 K6
  go_wp2_with fail
  refine (live4 _).mono ?_
  rintro e w8 ⟨rfl, b8⟩
  have P8 := Lib.hid (lay2 (bthen B7.out b8) (oneA 7))
  have b8' := (b8.alloc b8.size (.cells (oneA 7) 23))
  have K8 := Lib.hid (And.intro (blk_kept K7.out.1 b8') (blk_kept K7.out.2 b8'))
  clear b8 b8' B7 K7
  go_wp2_with fail
  generalize w8.heap.size = g7 at *
  generalize World.alloc w8 _ = v8 at *
  refine (sidesC _).mono ?_
  rintro e w9 ⟨rfl, b9⟩
  have B9 := Lib.hid (bthen P8.out.1 b9)
  have K9 := Lib.hid (And.intro (blk_kept K8.out.1 b9) (And.intro (blk_kept K8.out.2 b9) (blk_kept P8.out.2 b9)))
  clear b9 P8 K8
  go_wp2_with fail
  refine (live5 _).mono ?_
  rintro e wa ⟨rfl, ba⟩
  have PA := Lib.hid (lay2 (bthen B9.out ba) (oneA 0))
  have ba' := (ba.alloc ba.size (.cells (oneA 0) 23))
  have KA := Lib.hid (And.intro (blk_kept K9.out.1 ba') (And.intro (blk_kept K9.out.2.1 ba') (blk_kept K9.out.2.2 ba')))
  clear ba ba' B9 K9
  have c1 := blk_cell KA.out.1 (o := 0) (v := .int .i64 7) rfl
  have c3 := blk_cell KA.out.2.1 (o := 0) (v := .int .i64 5) rfl
  have c7 := blk_cell KA.out.2.2 (o := 0) (v := .int .i64 7) rfl
  go_wp2_with fail
  refine (live6 _).mono ?_
  rintro e wb ⟨rfl, bb⟩
  have PB := Lib.hid (bthen PA.out.1 bb)
  clear bb PA KA c1 c3 c7
  go_wp2_with fail
  refine (live7 _).mono ?_
  rintro e wc ⟨rfl, bc⟩
  have PC := Lib.hid (bthen PB.out bc)
  clear bc PB
  go_wp2
  go_ret
  exact ⟨rfl, PC.out⟩

end Go.Proofs.Ytdjemiimnpkfnaa.Lanes
