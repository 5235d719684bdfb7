/- CheckReset, CheckTells: a reset begins anew; what may be, and how it goes on, is the document's. Conditions: bytes are bytes. -/
import Derived.Test.YtkkjmepncceaoaaChkLives
import Derived.Test.YtkkjmepncceaoaaChkRRun
namespace Go.Proofs.Ytkkjmepncceaoaa.Chk
open Go.ChangeShapes Go.WideShapes Go.ChangeAt Go.RowKit Num By

/-- A test boxed alone. -/
structure OneAt (w0 : World) (t : Pt) (w : World) : Prop where
  below : Below w0.heap.size w0 w
  ha : Blk w w0.heap.size (ptA t) 23
theorem one_box (w : World) (t : Pt) : OneAt w t (w.alloc (.cells (ptA t) 23)) := ⟨allocs w _, blk_alloc w _ _⟩
theorem one_call {w0 w w1 : World} {t : Pt} (h : OneAt w0 t w) (k : Below w.heap.size w w1) : OneAt w0 t w1 := ⟨bthen h.below k, blk_kept h.ha k⟩
theorem one_drew {w0 w : World} {t : Pt} (h : OneAt w0 t w) : OneAt w0 t w.drew := ⟨below_drewN h.below 1, h.ha⟩
theorem resetC (t : Pt) (u c : Int) (u0 : 0 ≤ u) (u1 : u < 256) (c0 : 0 ≤ c) (c1 : c < 256) (w : World) : Calls Try.prog 9 #[.agg (ptA t), .int .u8 u, .int .u8 (bits .or .u8 c 8)] w fun e w' => e = .returned (.agg (ptA z0)) ∧ Below w.heap.size w w' := by
  have h := rs_or c c0 c1
  have k := nextC t u (bits .or .u8 c 8) true u0 u1 ((rs_bit _ h.1 h.2.1).trans h.2.2) w
  rwa [next_rs] at k

attribute [local go_sem ↓] ldP_eq
set_option maxRecDepth 100000 in
set_option maxHeartbeats 4000000 in
theorem resetLaw (t : Pt) (u c : Int) (u0 : 0 ≤ u) (u1 : u < 256) (c0 : 0 ≤ c) (c1 : c < 256) (w : World) : Calls Try.prog 5 #[.agg (ptA t), .int .u8 u, .int .u8 c] w fun e w' => e = .returned (.bool true) ∧ Below w.heap.size w w' := by
  have K0 := Lib.hid (one_box w t)
  have eR := fun V => eq_self z0 V
  go_enter Try.func5, Try.ntmps5
  go_upto_region 1 with (fail)
  generalize World.alloc w _ = W at *
  have q := ldP_blk K0.out.ha
  go_wp2_with fail
  refine (resetC t u c u0 u1 c0 c1 _).mono ?_
  rintro e w1 ⟨rfl, bb⟩
  have K1 := Lib.hid (one_call K0.out bb)
  clear bb K0 q
  go_wp2_with fail
  refine (lives _).mono ?_
  rintro e w2 ⟨rfl, bb⟩
  have K2 := Lib.hid (one_call K1.out bb)
  clear bb K1
  go_wp2
  go_ret
  exact ⟨rfl, K2.out.below⟩

set_option maxRecDepth 100000 in
set_option maxHeartbeats 16000000 in
theorem tellsLaw (t : Pt) (u c : Int) (A : Option Addr) (n m : Nat) (L : Nat → Int) (w : World) (u0 : 0 ≤ u) (u1 : u < 256) (c0 : 0 ≤ c) (c1 : c < 256) (hL : Byte L) (hn : n ≤ maxLen) (hP : Bys w w.heap.size A n L) :
    Calls Try.prog 3 #[.agg (ptA t), .int .u8 u, .int .u8 c, .slice A n m] w fun e w' => e = .returned (.bool true) ∧ Below w.heap.size w w' := by
  have HP := Lib.hid hP
  have HL := Lib.hid hL
  have HN := Lib.hid hn
  unfold maxLen at hn
  have K0 := Lib.hid (one_box w t)
  have CN := Lib.hid (fun W => nextC t u c _ u0 u1 (rs_bit c c0 c1) W)
  have CR := Lib.hid (fun W => rNextC t u c _ u0 u1 (rs_bit c c0 c1) W)
  have RN := Lib.hid (fun W (h : OneAt w t W) => runC t A n m L W HN.out HL.out ((HP.out.below h.below).more h.below.size))
  have RR := Lib.hid (fun W (h : OneAt w t W) => rRunC t A n m L W HN.out HL.out ((HP.out.below h.below).more h.below.size))
  clear hP hL
  by_cases h : n ≤ 1000
  · go_enter Try.func3, Try.ntmps3
    go_upto_region 1 with (fail)
    generalize World.alloc w _ = W at *
    go_wp2_with fail
    have TA := Lib.hid (one_drew K0.out)
    clear K0
    generalize next t u (rs c) = x at *
    generalize run t L n = y at *
    have eX := fun V => eq_self x V
    have eY := fun V => eq_self y V
    go_region_held3 (fun w' => (ldP (.pointer (some ⟨w.heap.size, 0, none⟩))).run Try.prog w' = .ok (.agg (ptA t)) w')
      (first
        | (with_reducible assumption)
        | exact ldP_blk TA.out.ha)
      (first
      | (with_reducible refine (CN.out _).mono ?_; rintro e v ⟨rfl, bb⟩; replace TA := Lib.hid (one_call TA.out bb); clear bb)
      | (with_reducible refine (CR.out _).mono ?_; rintro e v ⟨rfl, bb⟩; replace TA := Lib.hid (one_call TA.out bb); clear bb)
      | (with_reducible refine (mayC t _).mono ?_; rintro e v ⟨rfl, bb⟩; replace TA := Lib.hid (one_call TA.out bb); clear bb)
      | (with_reducible refine (rMayC t _).mono ?_; rintro e v ⟨rfl, bb⟩; replace TA := Lib.hid (one_call TA.out bb); clear bb)
      | (with_reducible refine (RN.out _ TA.out).mono ?_; rintro e v ⟨rfl, bb⟩; replace TA := Lib.hid (one_call TA.out bb); clear bb)
      | (with_reducible refine (RR.out _ TA.out).mono ?_; rintro e v ⟨rfl, bb⟩; replace TA := Lib.hid (one_call TA.out bb); clear bb)
      | (with_reducible refine (lives _).mono ?_; rintro e v ⟨rfl, bb⟩; replace TA := Lib.hid (one_call TA.out bb); clear bb))
    all_goals
      go_wp2
      go_ret
      exact ⟨rfl, TA.out.below⟩
  · have h' : (1000 : Int) < (n : Int) := by omega
    go_enter Try.func3, Try.ntmps3
    go_upto_region 1 with (fail)
    generalize World.alloc w _ = W at *
    go_wp2_with fail
    refine (lives _).mono ?_
    rintro e w2 ⟨rfl, bb⟩
    have K2 := Lib.hid (one_call K0.out bb)
    clear bb K0
    go_wp2
    go_ret
    exact ⟨rfl, K2.out.below⟩

end Go.Proofs.Ytkkjmepncceaoaa.Chk
