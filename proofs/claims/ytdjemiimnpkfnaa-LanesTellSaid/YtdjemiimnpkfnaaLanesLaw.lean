/- The law LanesTell. Conditions: numbers are int64. -/
import Derived.Test.YtdjemiimnpkfnaaLanesLives
import Derived.Test.YtdjemiimnpkfnaaLanesRVote
import Derived.Test.YtdjemiimnpkfnaaLanesRServo
import Derived.Test.YtdjemiimnpkfnaaArrEq
import Derived.Deep.RegionHeld3
namespace Go.Proofs.Ytdjemiimnpkfnaa.Lanes
open Go.ChangeShapes Go.WideShapes Go.ChangeAt Go.RowKit Num Mid

/-- What a lane takes, or none, and the error. -/
def vo (a : Int) (X : Nat → Nat → Int) (H : Nat → Bool) : Nat → Int := if 0 ≤ a ∧ a < 3 then vote a.toNat X H else zC
def vE (a : Int) : Int := if 0 ≤ a ∧ a < 3 then 0 else 2
theorem voC (a : Int) (X : Nat → Nat → Int) (hX : ∀ i j, In (X i j)) (H : Nat → Bool) (w : World) :
    Calls Try.prog 6 #[.int .i64 a, .agg (c9 X), .agg (b3A H)] w fun e w' => e = .returned (.tuple #[.agg (cA (vo a X H)), .int .i64 (vE a)]) ∧ Below w.heap.size w w' := by
  by_cases h : 0 ≤ a ∧ a < 3
  · obtain ⟨n, rfl⟩ : ∃ n : Nat, a = (n : Int) := ⟨a.toNat, by omega⟩
    have e1 : vo (n : Int) X H = vote n X H := if_pos h
    have e2 : vE (n : Int) = 0 := if_pos h
    rw [e1, e2]
    exact voteC n (by omega) X hX H w
  · have e1 : vo a X H = zC := if_neg h
    have e2 : vE a = 2 := if_neg h
    rw [e1, e2]
    exact voteNo a (by omega) X H w
theorem rVoC (a : Int) (X : Nat → Nat → Int) (H : Nat → Bool) (w : World) :
    Calls Try.prog 7 #[.int .i64 a, .agg (c9 X), .agg (b3A H)] w fun e w' => e = .returned (.tuple #[.agg (cA (vo a X H)), .int .i64 (vE a)]) ∧ Below w.heap.size w w' := by
  by_cases h : 0 ≤ a ∧ a < 3
  · obtain ⟨n, rfl⟩ : ∃ n : Nat, a = (n : Int) := ⟨a.toNat, by omega⟩
    have e1 : vo (n : Int) X H = vote n X H := if_pos h
    have e2 : vE (n : Int) = 0 := if_pos h
    rw [e1, e2]
    exact rVoteC n (by omega) X H w
  · have e1 : vo a X H = zC := if_neg h
    have e2 : vE a = 2 := if_neg h
    rw [e1, e2]
    exact rVoteNo a (by omega) X H w

structure LaAt (w0 : World) (X : Nat → Nat → Int) (H A : Nat → Bool) (w : World) : Prop where
  below : Below w0.heap.size w0 w
  hx : Blk w w0.heap.size (c9 X) 24
  hh : Blk w (w0.heap.size + 1) (b3A H) 25
  ha : Blk w (w0.heap.size + 1 + 1) (b3A A) 25
theorem la_box (w : World) (X : Nat → Nat → Int) (H A : Nat → Bool) : LaAt w X H A (((w.alloc (.cells (c9 X) 24)).alloc (.cells (b3A H) 25)).alloc (.cells (b3A A) 25)) :=
  ⟨below_new (below_new (allocs w _) _) _, blk_kept (blk_kept (blk_alloc w (c9 X) _) (allocs _ _)) (allocs _ _), blk_kept (blk_alloc2 w _ _ _) (allocs _ _), blk_alloc3 w _ _ _ _⟩
theorem la_call {w0 w w1 : World} {X : Nat → Nat → Int} {H A : Nat → Bool} (h : LaAt w0 X H A w) (b : Below w.heap.size w w1) : LaAt w0 X H A w1 :=
  ⟨bthen h.below b, blk_kept h.hx b, blk_kept h.hh b, blk_kept h.ha b⟩
structure LbAt (w0 : World) (X : Nat → Nat → Int) (H A : Nat → Bool) (g1 g2 g3 g4 : Nat) (V D : Nat → Int) (w : World) : Prop where
  la : LaAt w0 X H A w
  h1 : Blk w g1 (cA V) 23
  h2 : Blk w g2 (cA V) 23
  h3 : Blk w g3 (cA D) 23
  h4 : Blk w g4 (cA D) 23
theorem lb_call {w0 w w1 : World} {X : Nat → Nat → Int} {H A : Nat → Bool} {g1 g2 g3 g4 : Nat} {V D : Nat → Int} (h : LbAt w0 X H A g1 g2 g3 g4 V D w) (b : Below w.heap.size w w1) : LbAt w0 X H A g1 g2 g3 g4 V D w1 :=
  ⟨la_call h.la b, blk_kept h.h1 b, blk_kept h.h2 b, blk_kept h.h3 b, blk_kept h.h4 b⟩
theorem lb_drew {w0 w : World} {X : Nat → Nat → Int} {H A : Nat → Bool} {g1 g2 g3 g4 : Nat} {V D : Nat → Int} (h : LbAt w0 X H A g1 g2 g3 g4 V D w) : LbAt w0 X H A g1 g2 g3 g4 V D w.drew :=
  ⟨⟨below_drewN h.la.below 1, h.la.hx, h.la.hh, h.la.ha⟩, h.h1, h.h2, h.h3, h.h4⟩
theorem c_cells {w : World} {g : Nat} {c : Nat → Int} (h : Blk w g (cA c) 23) : w.cell? ⟨g, 0, none⟩ = some (.int .i64 (c 0)) ∧ w.cell? ⟨g, 1, none⟩ = some (.int .i64 (c 1)) ∧ w.cell? ⟨g, 2, none⟩ = some (.int .i64 (c 2)) :=
  ⟨blk_cell h (o := 0) rfl, blk_cell h (o := 1) rfl, blk_cell h (o := 2) rfl⟩
theorem lb_s {w0 w : World} {X : Nat → Nat → Int} {H A : Nat → Bool} {g1 g2 g3 g4 : Nat} {V D : Nat → Int} (h : LbAt w0 X H A g1 g2 g3 g4 V D w) :
    w.cell? ⟨w0.heap.size, 0, none⟩ = some (.int .i64 (X 0 0)) ∧ w.cell? ⟨w0.heap.size, 1, none⟩ = some (.int .i64 (X 0 1)) ∧ w.cell? ⟨w0.heap.size, 2, none⟩ = some (.int .i64 (X 0 2)) ∧ w.cell? ⟨w0.heap.size, 3, none⟩ = some (.int .i64 (X 1 0)) ∧ w.cell? ⟨w0.heap.size, 4, none⟩ = some (.int .i64 (X 1 1)) ∧ w.cell? ⟨w0.heap.size, 5, none⟩ = some (.int .i64 (X 1 2)) ∧ w.cell? ⟨w0.heap.size + 1 + 1, 0, none⟩ = some (.bool (A 0)) ∧ w.cell? ⟨w0.heap.size + 1 + 1, 1, none⟩ = some (.bool (A 1)) ∧ w.cell? ⟨w0.heap.size + 1 + 1, 2, none⟩ = some (.bool (A 2)) ∧
    w.cell? ⟨g1, 0, none⟩ = some (.int .i64 (V 0)) ∧ w.cell? ⟨g1, 1, none⟩ = some (.int .i64 (V 1)) ∧ w.cell? ⟨g1, 2, none⟩ = some (.int .i64 (V 2)) ∧ w.cell? ⟨g2, 0, none⟩ = some (.int .i64 (V 0)) ∧ w.cell? ⟨g2, 1, none⟩ = some (.int .i64 (V 1)) ∧ w.cell? ⟨g2, 2, none⟩ = some (.int .i64 (V 2)) ∧
    w.cell? ⟨g3, 0, none⟩ = some (.int .i64 (D 0)) ∧ w.cell? ⟨g3, 1, none⟩ = some (.int .i64 (D 1)) ∧ w.cell? ⟨g3, 2, none⟩ = some (.int .i64 (D 2)) ∧ w.cell? ⟨g4, 0, none⟩ = some (.int .i64 (D 0)) ∧ w.cell? ⟨g4, 1, none⟩ = some (.int .i64 (D 1)) ∧ w.cell? ⟨g4, 2, none⟩ = some (.int .i64 (D 2)) :=
  have p1 := c_cells h.h1
  have p2 := c_cells h.h2
  have p3 := c_cells h.h3
  have p4 := c_cells h.h4
  ⟨blk_cell h.la.hx (o := 0) rfl, blk_cell h.la.hx (o := 1) rfl, blk_cell h.la.hx (o := 2) rfl, blk_cell h.la.hx (o := 3) rfl, blk_cell h.la.hx (o := 4) rfl, blk_cell h.la.hx (o := 5) rfl, blk_cell h.la.ha (o := 0) rfl, blk_cell h.la.ha (o := 1) rfl, blk_cell h.la.ha (o := 2) rfl,
    p1.1, p1.2.1, p1.2.2, p2.1, p2.2.1, p2.2.2, p3.1, p3.2.1, p3.2.2, p4.1, p4.2.1, p4.2.2⟩

set_option maxRecDepth 100000 in
set_option maxHeartbeats 8000000 in
theorem tellLaw (a : Int) (X : Nat → Nat → Int) (hX : ∀ i j, In (X i j)) (H A : Nat → Bool) (w : World) :
    Calls Try.prog 3 #[.int .i64 a, .agg (c9 X), .agg (b3A H), .agg (b3A A)] w fun e w' => e = .returned (.bool true) ∧ Below w.heap.size w w' := by
  have F0 := Lib.hid (la_box w X H A)
  have HX := Lib.hid hX
  clear hX
  go_enter Try.func3, Try.ntmps3
  go_wp2_with fail
  generalize World.alloc (World.alloc (World.alloc w _) _) _ = W at *
  go_wp2_with (first | ((with_reducible refine load_c9 rfl (.tmp 5) rfl w.heap.size X F0.out.hx ?_ ?_); rfl) | ((with_reducible refine load_b3 rfl (.tmp 6) rfl (w.heap.size + 1) H F0.out.hh ?_ ?_); rfl))
  refine (voC a X HX.out H _).mono ?_
  rintro e w1 ⟨rfl, b1⟩
  have F1 := Lib.hid (la_call F0.out (below_new b1 (.cells (cA (vo a X H)) 23)))
  have K1 := Lib.hid (blk_alloc w1 (cA (vo a X H)) 23)
  clear b1 F0
  go_wp2_with (first | ((with_reducible refine load_c9 rfl (.tmp 5) rfl w.heap.size X F1.out.hx ?_ ?_); rfl) | ((with_reducible refine load_b3 rfl (.tmp 6) rfl (w.heap.size + 1) H F1.out.hh ?_ ?_); rfl))
  refine (rVoC a X H _).mono ?_
  rintro e w2 ⟨rfl, b2⟩
  have b2' := below_new b2 (.cells (cA (vo a X H)) 23)
  have F2 := Lib.hid (la_call F1.out b2')
  have K2 := Lib.hid (And.intro (blk_kept K1.out b2') (blk_alloc w2 (cA (vo a X H)) 23))
  clear b2 b2' F1 K1
  go_wp2_with (first | ((with_reducible refine load_c9 rfl (.tmp 5) rfl w.heap.size X F2.out.hx ?_ ?_); rfl) | ((with_reducible refine load_b3 rfl (.tmp 7) rfl (w.heap.size + 1 + 1) A F2.out.ha ?_ ?_); rfl))
  refine (servoC X HX.out A _).mono ?_
  rintro e w3 ⟨rfl, b3⟩
  have b3' := below_new b3 (.cells (cA (servo X A)) 23)
  have F3 := Lib.hid (la_call F2.out b3')
  have K3 := Lib.hid (And.intro (blk_kept K2.out.1 b3') (And.intro (blk_kept K2.out.2 b3') (blk_alloc w3 (cA (servo X A)) 23)))
  clear b3 b3' F2 K2
  go_wp2_with (first | ((with_reducible refine load_c9 rfl (.tmp 5) rfl w.heap.size X F3.out.hx ?_ ?_); rfl) | ((with_reducible refine load_b3 rfl (.tmp 7) rfl (w.heap.size + 1 + 1) A F3.out.ha ?_ ?_); rfl))
  refine (rServoC X HX.out A _).mono ?_
  rintro e w4 ⟨rfl, b4⟩
  have b4' := below_new b4 (.cells (cA (servo X A)) 23)
  have TA := Lib.hid (lb_drew (show LbAt w X H A w1.heap.size w2.heap.size w3.heap.size w4.heap.size (vo a X H) (servo X A) (w4.alloc (.cells (cA (servo X A)) 23)) from
    ⟨la_call F3.out b4', blk_kept K3.out.1 b4', blk_kept K3.out.2.1 b4', blk_kept K3.out.2.2 b4', blk_alloc _ _ _⟩))
  clear b4 b4' F3 K3
  go_upto_region 5 with (fail)
  generalize vo a X H = V at *
  generalize servo X A = D at *
  generalize ofB (sK A 3) = B at *
  generalize vE a = E at *
  generalize (w4.alloc _) = Y at *
  generalize w1.heap.size = g1 at *
  generalize w2.heap.size = g2 at *
  generalize w3.heap.size = g3 at *
  generalize w4.heap.size = g4 at *
  go_region_held3 (fun w' => w'.cell? ⟨w.heap.size, 0, none⟩ = some (.int .i64 (X 0 0)) ∧ w'.cell? ⟨w.heap.size, 1, none⟩ = some (.int .i64 (X 0 1)) ∧ w'.cell? ⟨w.heap.size, 2, none⟩ = some (.int .i64 (X 0 2)) ∧ w'.cell? ⟨w.heap.size, 3, none⟩ = some (.int .i64 (X 1 0)) ∧ w'.cell? ⟨w.heap.size, 4, none⟩ = some (.int .i64 (X 1 1)) ∧ w'.cell? ⟨w.heap.size, 5, none⟩ = some (.int .i64 (X 1 2)) ∧ w'.cell? ⟨w.heap.size + 1 + 1, 0, none⟩ = some (.bool (A 0)) ∧ w'.cell? ⟨w.heap.size + 1 + 1, 1, none⟩ = some (.bool (A 1)) ∧ w'.cell? ⟨w.heap.size + 1 + 1, 2, none⟩ = some (.bool (A 2)) ∧
    w'.cell? ⟨g1, 0, none⟩ = some (.int .i64 (V 0)) ∧ w'.cell? ⟨g1, 1, none⟩ = some (.int .i64 (V 1)) ∧ w'.cell? ⟨g1, 2, none⟩ = some (.int .i64 (V 2)) ∧ w'.cell? ⟨g2, 0, none⟩ = some (.int .i64 (V 0)) ∧ w'.cell? ⟨g2, 1, none⟩ = some (.int .i64 (V 1)) ∧ w'.cell? ⟨g2, 2, none⟩ = some (.int .i64 (V 2)) ∧
    w'.cell? ⟨g3, 0, none⟩ = some (.int .i64 (D 0)) ∧ w'.cell? ⟨g3, 1, none⟩ = some (.int .i64 (D 1)) ∧ w'.cell? ⟨g3, 2, none⟩ = some (.int .i64 (D 2)) ∧ w'.cell? ⟨g4, 0, none⟩ = some (.int .i64 (D 0)) ∧ w'.cell? ⟨g4, 1, none⟩ = some (.int .i64 (D 1)) ∧ w'.cell? ⟨g4, 2, none⟩ = some (.int .i64 (D 2)))
    (first
      | (with_reducible assumption)
      | exact lb_s TA.out)
    (first
    | (go_at_call 10; refine (manyC A _).mono ?_; rintro e v ⟨rfl, bb⟩; replace TA := Lib.hid (lb_call TA.out bb); clear bb)
    | (go_at_call 11; refine (rManyC A _).mono ?_; rintro e v ⟨rfl, bb⟩; replace TA := Lib.hid (lb_call TA.out bb); clear bb)
    | (go_at_call 12; refine (apartC (X 0) (X 1) (HX.out 0) (HX.out 1) _).mono ?_; rintro e v ⟨rfl, bb⟩; replace TA := Lib.hid (lb_call TA.out bb); clear bb)
    | (go_at_call 13; refine (rApartC (X 0) (X 1) (HX.out 0) (HX.out 1) _).mono ?_; rintro e v ⟨rfl, bb⟩; replace TA := Lib.hid (lb_call TA.out bb); clear bb)
    | (go_at_call 14; refine (lives _).mono ?_; rintro e v ⟨rfl, bb⟩; replace TA := Lib.hid (lb_call TA.out bb); clear bb))
  all_goals
    go_wp2
    go_ret
    exact ⟨rfl, TA.out.la.below⟩

end Go.Proofs.Ytdjemiimnpkfnaa.Lanes
