/- The walk of the law VoteTells: it returns true and turns nothing that was there. Conditions: the numbers are int64. -/
import Derived.Test.YtafifglfbebhaaaVoteLives
import Derived.Test.YtafifglfbebhaaaVoteRStep
import Derived.Test.YtafifglfbebhaaaArrEq
namespace Go.Proofs.Ytafifglfbebhaaa.Vote
open Go.ChangeShapes Go.WideShapes Go.ChangeAt Go.RowKit Num Bl Pers Mid

structure TellsAt (w0 : World) (H F : Nat → Hl) (V : Vt) (b9 b10 b11 b12 : Nat) (w : World) : Prop where
  below : Below w0.heap.size w0 w
  h0 : Blk w w0.heap.size (hsA H) 24
  k9 : Blk w b9 (hsA F) 24
  k10 : Blk w b10 (vc V) 29
  k11 : Blk w b11 (hsA F) 24
  k12 : Blk w b12 (vc V) 29
theorem tells_below {w0 w w1 : World} {H F : Nat → Hl} {V : Vt} {b9 b10 b11 b12 : Nat} (h : TellsAt w0 H F V b9 b10 b11 b12 w) (b : Below w.heap.size w w1) : TellsAt w0 H F V b9 b10 b11 b12 w1 :=
  ⟨bthen h.below b, blk_kept h.h0 b, blk_kept h.k9 b, blk_kept h.k10 b, blk_kept h.k11 b, blk_kept h.k12 b⟩
theorem tells_held {w0 w w1 : World} {H F : Nat → Hl} {V : Vt} {b9 b10 b11 b12 : Nat} (h : TellsAt w0 H F V b9 b10 b11 b12 w) (b : Below w.heap.size w w1) :
    w1.cell? ⟨w0.heap.size, 0, none⟩ = some (.int .i64 (H 0).b) ∧ w1.cell? ⟨w0.heap.size, 1, none⟩ = some (.bool (H 0).o) ∧ w1.cell? ⟨w0.heap.size, 2, none⟩ = some (.int .i64 (H 0).g) ∧ w1.cell? ⟨w0.heap.size, 3, none⟩ = some (.int .i64 (H 1).b) ∧ w1.cell? ⟨w0.heap.size, 4, none⟩ = some (.bool (H 1).o) ∧ w1.cell? ⟨w0.heap.size, 5, none⟩ = some (.int .i64 (H 1).g) ∧ w1.cell? ⟨w0.heap.size, 6, none⟩ = some (.int .i64 (H 2).b) ∧ w1.cell? ⟨w0.heap.size, 7, none⟩ = some (.bool (H 2).o) ∧ w1.cell? ⟨w0.heap.size, 8, none⟩ = some (.int .i64 (H 2).g) ∧ w1.cell? ⟨b9, 0, none⟩ = some (.int .i64 (F 0).b) ∧ w1.cell? ⟨b9, 1, none⟩ = some (.bool (F 0).o) ∧ w1.cell? ⟨b9, 2, none⟩ = some (.int .i64 (F 0).g) ∧ w1.cell? ⟨b9, 3, none⟩ = some (.int .i64 (F 1).b) ∧ w1.cell? ⟨b9, 4, none⟩ = some (.bool (F 1).o) ∧ w1.cell? ⟨b9, 5, none⟩ = some (.int .i64 (F 1).g) ∧ w1.cell? ⟨b9, 6, none⟩ = some (.int .i64 (F 2).b) ∧ w1.cell? ⟨b9, 7, none⟩ = some (.bool (F 2).o) ∧ w1.cell? ⟨b9, 8, none⟩ = some (.int .i64 (F 2).g) ∧ w1.cell? ⟨b10, 0, none⟩ = some (.bool V.i) ∧ w1.cell? ⟨b10, 1, none⟩ = some (.int .i64 V.v) ∧ w1.cell? ⟨b10, 2, none⟩ = some (.int .i64 V.n) ∧ w1.cell? ⟨b11, 0, none⟩ = some (.int .i64 (F 0).b) ∧ w1.cell? ⟨b11, 1, none⟩ = some (.bool (F 0).o) ∧ w1.cell? ⟨b11, 2, none⟩ = some (.int .i64 (F 0).g) ∧ w1.cell? ⟨b11, 3, none⟩ = some (.int .i64 (F 1).b) ∧ w1.cell? ⟨b11, 4, none⟩ = some (.bool (F 1).o) ∧ w1.cell? ⟨b11, 5, none⟩ = some (.int .i64 (F 1).g) ∧ w1.cell? ⟨b11, 6, none⟩ = some (.int .i64 (F 2).b) ∧ w1.cell? ⟨b11, 7, none⟩ = some (.bool (F 2).o) ∧ w1.cell? ⟨b11, 8, none⟩ = some (.int .i64 (F 2).g) ∧ w1.cell? ⟨b12, 0, none⟩ = some (.bool V.i) ∧ w1.cell? ⟨b12, 1, none⟩ = some (.int .i64 V.v) ∧ w1.cell? ⟨b12, 2, none⟩ = some (.int .i64 V.n) ∧ Hid (TellsAt w0 H F V b9 b10 b11 b12 w1) :=
  have q := tells_below h b
  ⟨blk_cell q.h0 (o := 0) rfl, blk_cell q.h0 (o := 1) rfl, blk_cell q.h0 (o := 2) rfl, blk_cell q.h0 (o := 3) rfl, blk_cell q.h0 (o := 4) rfl, blk_cell q.h0 (o := 5) rfl, blk_cell q.h0 (o := 6) rfl, blk_cell q.h0 (o := 7) rfl, blk_cell q.h0 (o := 8) rfl, blk_cell q.k9 (o := 0) rfl, blk_cell q.k9 (o := 1) rfl, blk_cell q.k9 (o := 2) rfl, blk_cell q.k9 (o := 3) rfl, blk_cell q.k9 (o := 4) rfl, blk_cell q.k9 (o := 5) rfl, blk_cell q.k9 (o := 6) rfl, blk_cell q.k9 (o := 7) rfl, blk_cell q.k9 (o := 8) rfl, blk_cell q.k10 (o := 0) rfl, blk_cell q.k10 (o := 1) rfl, blk_cell q.k10 (o := 2) rfl, blk_cell q.k11 (o := 0) rfl, blk_cell q.k11 (o := 1) rfl, blk_cell q.k11 (o := 2) rfl, blk_cell q.k11 (o := 3) rfl, blk_cell q.k11 (o := 4) rfl, blk_cell q.k11 (o := 5) rfl, blk_cell q.k11 (o := 6) rfl, blk_cell q.k11 (o := 7) rfl, blk_cell q.k11 (o := 8) rfl, blk_cell q.k12 (o := 0) rfl, blk_cell q.k12 (o := 1) rfl, blk_cell q.k12 (o := 2) rfl, q⟩
theorem tells_last {A0 A1 A2 A3 A4 A5 A6 A7 A8 A9 A10 A11 A12 A13 A14 A15 A16 A17 A18 A19 A20 A21 A22 A23 A24 A25 A26 A27 A28 A29 A30 A31 A32 Q : Prop} (h : A0 ∧ A1 ∧ A2 ∧ A3 ∧ A4 ∧ A5 ∧ A6 ∧ A7 ∧ A8 ∧ A9 ∧ A10 ∧ A11 ∧ A12 ∧ A13 ∧ A14 ∧ A15 ∧ A16 ∧ A17 ∧ A18 ∧ A19 ∧ A20 ∧ A21 ∧ A22 ∧ A23 ∧ A24 ∧ A25 ∧ A26 ∧ A27 ∧ A28 ∧ A29 ∧ A30 ∧ A31 ∧ A32 ∧ Hid Q) : Q := h.2.2.2.2.2.2.2.2.2.2.2.2.2.2.2.2.2.2.2.2.2.2.2.2.2.2.2.2.2.2.2.2.2.out
theorem two_at {w0 w1 w : World} {H : Nat → Hl} {R : Nat → Rd} (b : Below ((w0.alloc (.cells (hsA H) 24)).alloc (.cells (rsA R) 27)).heap.size ((w0.alloc (.cells (hsA H) 24)).alloc (.cells (rsA R) 27)) w1) (b2 : Below w1.heap.size w1 w) :
    Below w0.heap.size w0 w ∧ Blk w w0.heap.size (hsA H) 24 ∧ Blk w (w0.heap.size + 1) (rsA R) 27 :=
  have T := two_new b
  ⟨bthen T.2.2 b2, blk_kept T.1 b2, blk_kept T.2.1 b2⟩

set_option maxRecDepth 100000 in
set_option maxHeartbeats 8000000 in
theorem tellsLaw (H : Nat → Hl) (R : Nat → Rd) (d : Int) (q : Bool) (w : World) (hR : ∀ i, In (R i).v) (hd : In d) :
    Calls Try.prog 3 #[.agg (hsA H), .agg (rsA R), .int .i64 d, .bool q] w fun e w' => e = .returned (.bool true) ∧ Below w.heap.size w w' := by
  have cS : Hid (∀ W, Calls Try.prog 8 #[.agg (hsA H), .agg (rsA R), .int .i64 d, .bool q] W fun e w' => e = .returned (.tuple #[.agg (hsA (stH H R d q)), vv (stV H R d)]) ∧ Below W.heap.size W w') := fun W => stepC H R d q W hR hd
  have cR : Hid (∀ W, Calls Try.prog 9 #[.agg (hsA H), .agg (rsA R), .int .i64 d, .bool q] W fun e w' => e = .returned (.tuple #[.agg (hsA (stH H R d q)), vv (stV H R d)]) ∧ Below W.heap.size W w') := fun W => rStepC H R d q W hR hd
  generalize stH H R d q = F at *
  generalize stV H R d = V at *
  clear hR hd
  have T0 := Lib.hid (two_new (two_refl w (hsA H) (rsA R) 24 27))
  go_enter Try.func3, Try.ntmps3
  go_wp2_with (first | ((with_reducible refine load_hs rfl (.tmp 4) rfl w.heap.size H T0.out.1 ?_ ?_); rfl) | ((with_reducible refine load_rs rfl (.tmp 5) rfl (w.heap.size + 1) R T0.out.2.1 ?_ ?_); rfl))
  refine (cS.out _).mono ?_
  rintro e w1 ⟨rfl, b1⟩
  have T1 := Lib.hid (two_new (two_refl w1 (hsA F) (vc V) 24 29))
  have U1 := Lib.hid (two_at b1 T1.out.2.2)
  clear b1 cS T0
  go_wp2_with (first | ((with_reducible refine load_hs rfl (.tmp 4) rfl w.heap.size H U1.out.2.1 ?_ ?_); rfl) | ((with_reducible refine load_rs rfl (.tmp 5) rfl (w.heap.size + 1) R U1.out.2.2 ?_ ?_); rfl))
  refine (cR.out _).mono ?_
  rintro e w2 ⟨rfl, b2⟩
  have T2 := Lib.hid (two_new (two_refl w2 (hsA F) (vc V) 24 29))
  have HA : Hid (TellsAt w H F V w1.heap.size (w1.heap.size + 1) w2.heap.size (w2.heap.size + 1) ((w2.alloc (.cells (hsA F) 24)).alloc (.cells (vc V) 29))) :=
    have k := bthen b2 T2.out.2.2
    ⟨bthen U1.out.1 k, blk_kept U1.out.2.1 k, blk_kept T1.out.1 k, blk_kept T1.out.2.1 k, T2.out.1, T2.out.2.1⟩
  clear b2 cR T1 T2 U1
  go_wp2_with fail
  go_region_held3 (fun w' => w'.cell? ⟨w.heap.size, 0, none⟩ = some (.int .i64 (H 0).b) ∧ w'.cell? ⟨w.heap.size, 1, none⟩ = some (.bool (H 0).o) ∧ w'.cell? ⟨w.heap.size, 2, none⟩ = some (.int .i64 (H 0).g) ∧ w'.cell? ⟨w.heap.size, 3, none⟩ = some (.int .i64 (H 1).b) ∧ w'.cell? ⟨w.heap.size, 4, none⟩ = some (.bool (H 1).o) ∧ w'.cell? ⟨w.heap.size, 5, none⟩ = some (.int .i64 (H 1).g) ∧ w'.cell? ⟨w.heap.size, 6, none⟩ = some (.int .i64 (H 2).b) ∧ w'.cell? ⟨w.heap.size, 7, none⟩ = some (.bool (H 2).o) ∧ w'.cell? ⟨w.heap.size, 8, none⟩ = some (.int .i64 (H 2).g) ∧ w'.cell? ⟨w1.heap.size, 0, none⟩ = some (.int .i64 (F 0).b) ∧ w'.cell? ⟨w1.heap.size, 1, none⟩ = some (.bool (F 0).o) ∧ w'.cell? ⟨w1.heap.size, 2, none⟩ = some (.int .i64 (F 0).g) ∧ w'.cell? ⟨w1.heap.size, 3, none⟩ = some (.int .i64 (F 1).b) ∧ w'.cell? ⟨w1.heap.size, 4, none⟩ = some (.bool (F 1).o) ∧ w'.cell? ⟨w1.heap.size, 5, none⟩ = some (.int .i64 (F 1).g) ∧ w'.cell? ⟨w1.heap.size, 6, none⟩ = some (.int .i64 (F 2).b) ∧ w'.cell? ⟨w1.heap.size, 7, none⟩ = some (.bool (F 2).o) ∧ w'.cell? ⟨w1.heap.size, 8, none⟩ = some (.int .i64 (F 2).g) ∧ w'.cell? ⟨(w1.heap.size + 1), 0, none⟩ = some (.bool V.i) ∧ w'.cell? ⟨(w1.heap.size + 1), 1, none⟩ = some (.int .i64 V.v) ∧ w'.cell? ⟨(w1.heap.size + 1), 2, none⟩ = some (.int .i64 V.n) ∧ w'.cell? ⟨w2.heap.size, 0, none⟩ = some (.int .i64 (F 0).b) ∧ w'.cell? ⟨w2.heap.size, 1, none⟩ = some (.bool (F 0).o) ∧ w'.cell? ⟨w2.heap.size, 2, none⟩ = some (.int .i64 (F 0).g) ∧ w'.cell? ⟨w2.heap.size, 3, none⟩ = some (.int .i64 (F 1).b) ∧ w'.cell? ⟨w2.heap.size, 4, none⟩ = some (.bool (F 1).o) ∧ w'.cell? ⟨w2.heap.size, 5, none⟩ = some (.int .i64 (F 1).g) ∧ w'.cell? ⟨w2.heap.size, 6, none⟩ = some (.int .i64 (F 2).b) ∧ w'.cell? ⟨w2.heap.size, 7, none⟩ = some (.bool (F 2).o) ∧ w'.cell? ⟨w2.heap.size, 8, none⟩ = some (.int .i64 (F 2).g) ∧ w'.cell? ⟨(w2.heap.size + 1), 0, none⟩ = some (.bool V.i) ∧ w'.cell? ⟨(w2.heap.size + 1), 1, none⟩ = some (.int .i64 V.v) ∧ w'.cell? ⟨(w2.heap.size + 1), 2, none⟩ = some (.int .i64 V.n) ∧ Hid (TellsAt w H F V w1.heap.size (w1.heap.size + 1) w2.heap.size (w2.heap.size + 1) w'))
    (first
      | exact tells_held HA.out (below_drewN (Below.refl _ _) 1)
      | exact tells_held (tells_last (by assumption)) bb
      | assumption)
    (first
      | (go_at_call 10; refine (inC H _).mono ?_; rintro e v ⟨rfl, bb⟩)
      | (go_at_call 11; refine (rInC H _).mono ?_; rintro e v ⟨rfl, bb⟩)
      | (go_at_call 12; refine (lives _).mono ?_; rintro e v ⟨rfl, bb⟩))
  have HB : Hid (TellsAt w H F V w1.heap.size (w1.heap.size + 1) w2.heap.size (w2.heap.size + 1) v) := by go_split_ands; assumption
  go_wp2
  go_ret
  exact ⟨rfl, HB.out.below⟩

end Go.Proofs.Ytafifglfbebhaaa.Vote
