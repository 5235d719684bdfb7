/- The walk of the law VoteOrder: it returns true and turns nothing that was there. Conditions: the numbers are int64. -/
import Derived.Test.YtafifglfbebhaaaVoteLives
import Derived.Test.YtafifglfbebhaaaArrEq
namespace Go.Proofs.Ytafifglfbebhaaa.Vote
open Go.ChangeShapes Go.WideShapes Go.ChangeAt Go.RowKit Num Bl Pers Mid

/-- What two come to. -/
def two (a b d : Int) : Vt := if far a b d = true then ⟨false, 0, 2⟩ else ⟨true, avg a b, 2⟩
theorem two_sym (a b d : Int) : two a b d = two b a d := by unfold two avg; rw [far_sym, Int.add_comm]
theorem mid_rot (a b c : Int) : middle c a b = middle a b c := by
  have h1 := mid_cases a b c
  have h2 := mid_cases c a b
  omega
/-- What three come to, case by case. -/
theorem vot3 (P : Nat → Rd) (d : Int) : vot (cn P 3) (vl P 3) d =
    if (P 0).i = true then (if (P 1).i = true then (if (P 2).i = true then ⟨true, middle (P 0).v (P 1).v (P 2).v, 3⟩ else two (P 0).v (P 1).v d) else (if (P 2).i = true then two (P 0).v (P 2).v d else ⟨true, (P 0).v, 1⟩))
    else (if (P 1).i = true then (if (P 2).i = true then two (P 1).v (P 2).v d else ⟨true, (P 1).v, 1⟩) else (if (P 2).i = true then ⟨true, (P 2).v, 1⟩ else ⟨false, 0, 0⟩)) := by
  cases h0 : (P 0).i <;> cases h1 : (P 1).i <;> cases h2 : (P 2).i <;> simp [cn, vl, vot, h0, h1, h2, ofB, ofN, two]
/-- The third ahead. -/
def rot {T : Type} (X : Nat → T) : Nat → T := fun i => match i with | 0 => X 2 | 1 => X 0 | _ => X 1
theorem pres_rot (H : Nat → Hl) (R : Nat → Rd) : pres (rot H) (rot R) = rot (pres H R) := by
  funext i
  match i with
  | 0 => rfl
  | 1 => rfl
  | _ + 2 => rfl
theorem stV_rot (H : Nat → Hl) (R : Nat → Rd) (d : Int) : stV (rot H) (rot R) d = stV H R d := by
  unfold stV
  rw [vot3, vot3, pres_rot]
  generalize pres H R = P
  show (if (P 2).i = true then (if (P 0).i = true then (if (P 1).i = true then ⟨true, middle (P 2).v (P 0).v (P 1).v, 3⟩ else two (P 2).v (P 0).v d) else (if (P 1).i = true then two (P 2).v (P 1).v d else ⟨true, (P 2).v, 1⟩))
    else (if (P 0).i = true then (if (P 1).i = true then two (P 0).v (P 1).v d else ⟨true, (P 0).v, 1⟩) else (if (P 1).i = true then ⟨true, (P 1).v, 1⟩ else ⟨false, 0, 0⟩)) : Vt) = _
  rw [mid_rot, two_sym (P 2).v (P 0).v, two_sym (P 2).v (P 1).v]
  cases (P 0).i <;> cases (P 1).i <;> cases (P 2).i <;> rfl
theorem stH_rot (H : Nat → Hl) (R : Nat → Rd) (d : Int) (q : Bool) : stH (rot H) (rot R) d q = rot (stH H R d q) := by
  funext i
  unfold stH
  rw [stV_rot, pres_rot]
  match i with
  | 0 => rfl
  | 1 => rfl
  | _ + 2 => rfl
theorem rot_in (R : Nat → Rd) (h : ∀ i, In (R i).v) (i : Nat) : In (rot R i).v := by
  match i with
  | 0 => exact h 2
  | 1 => exact h 0
  | _ + 2 => exact h 1
theorem two_at {w0 w1 w : World} {H : Nat → Hl} {R : Nat → Rd} (b : Below ((w0.alloc (.cells (hsA H) 24)).alloc (.cells (rsA R) 27)).heap.size ((w0.alloc (.cells (hsA H) 24)).alloc (.cells (rsA R) 27)) w1) (b2 : Below w1.heap.size w1 w) :
    Below w0.heap.size w0 w ∧ Blk w w0.heap.size (hsA H) 24 ∧ Blk w (w0.heap.size + 1) (rsA R) 27 :=
  have T := two_new b
  ⟨bthen T.2.2 b2, blk_kept T.1 b2, blk_kept T.2.1 b2⟩

set_option maxRecDepth 100000 in
set_option maxHeartbeats 8000000 in
theorem orderLaw (H : Nat → Hl) (R : Nat → Rd) (d : Int) (w : World) (hR : ∀ i, In (R i).v) (hd : In d) :
    Calls Try.prog 7 #[.agg (hsA H), .agg (rsA R), .int .i64 d] w fun e w' => e = .returned (.bool true) ∧ Below w.heap.size w w' := by
  have cS : Hid (∀ W, Calls Try.prog 8 #[.agg (hsA H), .agg (rsA R), .int .i64 d, .bool false] W fun e w' => e = .returned (.tuple #[.agg (hsA (stH H R d false)), vv (stV H R d)]) ∧ Below W.heap.size W w') := fun W => stepC H R d false W hR hd
  have cR : Hid (∀ W, Calls Try.prog 8 #[.agg #[.int .i64 (H 2).b, .bool (H 2).o, .int .i64 (H 2).g, .int .i64 (H 0).b, .bool (H 0).o, .int .i64 (H 0).g, .int .i64 (H 1).b, .bool (H 1).o, .int .i64 (H 1).g], .agg #[.bool (R 2).i, .int .i64 (R 2).v, .bool (R 0).i, .int .i64 (R 0).v, .bool (R 1).i, .int .i64 (R 1).v], .int .i64 d, .bool false] W fun e w' => e = .returned (.tuple #[.agg (hsA (rot (stH H R d false))), vv (stV H R d)]) ∧ Below W.heap.size W w') := fun W => by
    have h := stepC (rot H) (rot R) d false W (rot_in R hR) hd
    rw [stV_rot, stH_rot] at h
    exact h
  generalize stH H R d false = F at *
  generalize stV H R d = V at *
  clear hR hd
  have T0 := Lib.hid (two_new (two_refl w (hsA H) (rsA R) 24 27))
  go_enter Try.func7, Try.ntmps7
  go_wp2_with (first | ((with_reducible refine load_hs rfl (.tmp 3) rfl w.heap.size H T0.out.1 ?_ ?_); rfl) | ((with_reducible refine load_rs rfl (.tmp 4) rfl (w.heap.size + 1) R T0.out.2.1 ?_ ?_); rfl))
  refine (cS.out _).mono ?_
  rintro e w1 ⟨rfl, b1⟩
  have T1 := Lib.hid (two_new (two_refl w1 (hsA F) (vc V) 24 29))
  have U1 := Lib.hid (two_at b1 T1.out.2.2)
  have a0 := blk_cell U1.out.2.1 (o := 0) rfl
  have a1 := blk_cell U1.out.2.1 (o := 1) rfl
  have a2 := blk_cell U1.out.2.1 (o := 2) rfl
  have a3 := blk_cell U1.out.2.1 (o := 3) rfl
  have a4 := blk_cell U1.out.2.1 (o := 4) rfl
  have a5 := blk_cell U1.out.2.1 (o := 5) rfl
  have a6 := blk_cell U1.out.2.1 (o := 6) rfl
  have a7 := blk_cell U1.out.2.1 (o := 7) rfl
  have a8 := blk_cell U1.out.2.1 (o := 8) rfl
  have r0 := blk_cell U1.out.2.2 (o := 0) rfl
  have r1 := blk_cell U1.out.2.2 (o := 1) rfl
  have r2 := blk_cell U1.out.2.2 (o := 2) rfl
  have r3 := blk_cell U1.out.2.2 (o := 3) rfl
  have r4 := blk_cell U1.out.2.2 (o := 4) rfl
  have r5 := blk_cell U1.out.2.2 (o := 5) rfl
  clear b1 cS T0
  go_wp2_with fail
  refine (cR.out _).mono ?_
  rintro e w2 ⟨rfl, b2⟩
  have T2 := Lib.hid (two_new (two_refl w2 (hsA (rot F)) (vc V) 24 29))
  have K := Lib.hid (bthen b2 T2.out.2.2)
  have K1 := Lib.hid (blk_kept T1.out.1 K.out)
  have K2 := Lib.hid (blk_kept T1.out.2.1 K.out)
  have HB := Lib.hid (bthen U1.out.1 K.out)
  clear b2 cR a0 a1 a2 a3 a4 a5 a6 a7 a8 r0 r1 r2 r3 r4 r5
  have e0 := blk_cell K1.out (o := 0) rfl
  have e1 := blk_cell K1.out (o := 1) rfl
  have e2 := blk_cell K1.out (o := 2) rfl
  have e3 := blk_cell K1.out (o := 3) rfl
  have e4 := blk_cell K1.out (o := 4) rfl
  have e5 := blk_cell K1.out (o := 5) rfl
  have e6 := blk_cell K1.out (o := 6) rfl
  have e7 := blk_cell K1.out (o := 7) rfl
  have e8 := blk_cell K1.out (o := 8) rfl
  have g0 := blk_cell T2.out.1 (o := 0) (v := .int .i64 (F 2).b) rfl
  have g1 := blk_cell T2.out.1 (o := 1) (v := .bool (F 2).o) rfl
  have g2 := blk_cell T2.out.1 (o := 2) (v := .int .i64 (F 2).g) rfl
  have g3 := blk_cell T2.out.1 (o := 3) (v := .int .i64 (F 0).b) rfl
  have g4 := blk_cell T2.out.1 (o := 4) (v := .bool (F 0).o) rfl
  have g5 := blk_cell T2.out.1 (o := 5) (v := .int .i64 (F 0).g) rfl
  have g6 := blk_cell T2.out.1 (o := 6) (v := .int .i64 (F 1).b) rfl
  have g7 := blk_cell T2.out.1 (o := 7) (v := .bool (F 1).o) rfl
  have g8 := blk_cell T2.out.1 (o := 8) (v := .int .i64 (F 1).g) rfl
  have p0 := blk_cell K2.out (o := 0) rfl
  have p1 := blk_cell K2.out (o := 1) rfl
  have p2 := blk_cell K2.out (o := 2) rfl
  have s0 := blk_cell T2.out.2.1 (o := 0) rfl
  have s1 := blk_cell T2.out.2.1 (o := 1) rfl
  have s2 := blk_cell T2.out.2.1 (o := 2) rfl
  go_wp2_with fail
  refine (lives _).mono ?_
  rintro e v ⟨rfl, bb⟩
  have HC := Lib.hid (bthen HB.out bb)
  clear bb
  go_wp2
  go_ret
  exact ⟨rfl, HC.out⟩

end Go.Proofs.Ytafifglfbebhaaa.Vote
