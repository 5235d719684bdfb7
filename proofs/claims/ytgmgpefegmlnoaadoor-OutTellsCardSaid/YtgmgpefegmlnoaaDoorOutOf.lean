/- Contracts of out's numbers, within and next. Conditions: those that each row names. -/
import Derived.Test.YtgmgpefegmlnoaaDoorOutRow
import Derived.Test.YtgmgpefegmlnoaaDoorNum
namespace Go.Proofs.YtgmgpefegmlnoaaDoor.Out
open Go.ChangeShapes Go.WideShapes Go.ChangeAt Go.RowKit Num Mem Band

/-- A block of one's own for three pointers. -/
structure PtAt (w0 : World) (ps : Array Value) (w : World) : Prop where
  below : Below w0.heap.size w0 w
  hp : Blk w w0.heap.size ps 34
theorem pt_box (w : World) : PtAt w zP (w.alloc (.cells zP 34)) := ⟨allocs w _, blk_alloc w _ _⟩
theorem pt_drew {w0 w : World} {ps : Array Value} (h : PtAt w0 ps w) : PtAt w0 ps w.drew := ⟨below_drewN h.below 1, h.hp⟩
theorem pt_set {w0 w : World} {ps : Array Value} (h : PtAt w0 ps w) (qs : Array Value) : PtAt w0 qs (w.setRow w0.heap.size qs) :=
  ⟨below_row h.below (Nat.le_refl _) _, blk_row h.hp _⟩
theorem pt_s {w0 w : World} {ps : Array Value} (hps : ps.size = 3) (g : Nat) (h : PtAt w0 ps w) : (stP (.pointer (some ⟨w0.heap.size, 0, none⟩)) (.agg (pA g))).run Tryd.prog w = .ok () (w.setRow w0.heap.size (pA g)) := stP_blk hps g h.hp

section
attribute [local go_sem ↓] stP_eq
set_option maxHeartbeats 2000000 in
theorem numbersC (g : Nat) (w : World) : Calls Tryd.prog 13 #[.pointer (some ⟨g, 0, none⟩)] w fun e w' => e = .returned (.agg (pA g)) ∧ Below w.heap.size w w' := by
  have K0 := Lib.hid (pt_box w)
  go_enter Tryd.func13, Tryd.ntmps13
  go_upto_region 1 with (fail)
  generalize World.alloc w _ = W at *
  have TA := Lib.hid (pt_drew K0.out)
  clear K0
  go_region_held3 (fun w' => (stP (.pointer (some ⟨w.heap.size, 0, none⟩)) (.agg (pA g))).run Tryd.prog w' = .ok () (w'.setRow w.heap.size (pA g)))
    (first
      | (with_reducible assumption)
      | exact pt_s rfl g TA.out
      | exact pt_s rfl g (pt_set TA.out (pA g)))
    (fail)
  all_goals
    have TB := Lib.hid (pt_set TA.out (pA g))
    go_wp2
    refine bodyPost_ret (v := .agg (pA g)) ?_ rfl ⟨rfl, TB.out.below⟩
    exact ret_p Tryd.results13 _ _ w.heap.size g rfl TB.out.hp
end

/-- A bound handed in. -/
structure OnAt (w0 : World) (k : Nat) (w : World) : Prop where
  below : Below w0.heap.size w0 w
  hb : Blk w w0.heap.size (bdA k) 38
theorem on_box (w : World) (k : Nat) : OnAt w k (w.alloc (.cells (bdA k) 38)) := ⟨allocs w _, blk_alloc w _ _⟩
theorem on_call {w0 w w1 : World} {k : Nat} (h : OnAt w0 k w) (b : Below w.heap.size w w1) : OnAt w0 k w1 := ⟨bthen h.below b, blk_kept h.hb b⟩
theorem on_drew {w0 w : World} {k : Nat} (h : OnAt w0 k w) : OnAt w0 k w.drew := ⟨below_drewN h.below 1, h.hb⟩

set_option maxHeartbeats 2000000 in
theorem witC (k : Nat) (n : Int) (hn : In n) (w : World) : Calls Tryd.prog 14 #[.agg (bdA k), .int .i64 n] w fun e w' => e = .returned (.int .i64 (within n (lo k) (hi k))) ∧ Below w.heap.size w w' := by
  have K0 := Lib.hid (on_box w k)
  have WC := Lib.hid (fun W => withinC n (lo k) (hi k) W hn (lo_In k) (hi_In k))
  generalize within n (lo k) (hi k) = r at *
  clear hn
  go_enter Tryd.func14, Tryd.ntmps14
  go_upto_region 1 with (fail)
  generalize World.alloc w _ = W at *
  have c0 := blk_cell K0.out.hb (o := 0) (v := .int .i64 (lo k)) rfl
  have c1 := blk_cell K0.out.hb (o := 1) (v := .int .i64 (hi k)) rfl
  go_wp2_with fail
  refine (WC.out _).mono ?_
  rintro e w1 ⟨rfl, rfl⟩
  clear c0 c1
  go_wp2
  go_ret
  exact ⟨rfl, K0.out.below⟩

/-- From one number towards another. -/
def nxt (k : Nat) (l t : Int) : Int := near (within l (lo k) (hi k)) (within t (lo k) (hi k)) (st k)
theorem wit_In (k : Nat) (n : Int) : In (within n (lo k) (hi k)) := by
  have h := wi_bd (n := n) (lo_hi k).1
  have := lo_hi k
  exact ⟨by omega, by omega⟩
section
attribute [local go_sem ↓] ldB_eq
set_option maxHeartbeats 2000000 in
theorem nextC (k : Nat) (l t : Int) (hl : In l) (ht : In t) (w : World) : Calls Tryd.prog 16 #[.agg (bdA k), .int .i64 l, .int .i64 t] w fun e w' => e = .returned (.int .i64 (nxt k l t)) ∧ Below w.heap.size w w' := by
  have K0 := Lib.hid (on_box w k)
  have L := Lib.hid (fun W => witC k l hl W)
  have T := Lib.hid (fun W => witC k t ht W)
  have N := Lib.hid (fun W => nearC (within l (lo k) (hi k)) (within t (lo k) (hi k)) (st k) W (wit_In k l) (wit_In k t) (st_In k))
  have HR : Hid (near (within l (lo k) (hi k)) (within t (lo k) (hi k)) (st k) = nxt k l t) := rfl
  generalize near (within l (lo k) (hi k)) (within t (lo k) (hi k)) (st k) = r at *
  generalize within l (lo k) (hi k) = x at *
  generalize within t (lo k) (hi k) = y at *
  clear hl ht
  go_enter Tryd.func16, Tryd.ntmps16
  go_upto_region 1 with (fail)
  generalize World.alloc w _ = W at *
  have TA := Lib.hid (on_drew K0.out)
  clear K0
  go_region_held3 (fun w' => (ldB (.pointer (some ⟨w.heap.size, 0, none⟩))).run Tryd.prog w' = .ok (.agg (bdA k)) w' ∧ w'.cell? ⟨w.heap.size, 2, none⟩ = some (.int .i64 (st k)))
    (first
      | (with_reducible assumption)
      | exact ⟨ldB_blk TA.out.hb, blk_cell TA.out.hb rfl⟩)
    (first
    | ((with_reducible refine (L.out _).mono ?_); rintro e u ⟨rfl, bb⟩; replace TA := Lib.hid (on_call TA.out bb); clear bb)
    | ((with_reducible refine (T.out _).mono ?_); rintro e u ⟨rfl, bb⟩; replace TA := Lib.hid (on_call TA.out bb); clear bb)
    | ((with_reducible refine (N.out _).mono ?_); rintro e u ⟨rfl, rfl⟩))
  all_goals
    go_wp2
    go_ret
    exact ⟨ret_int HR.out.symm, TA.out.below⟩
end

end Go.Proofs.YtgmgpefegmlnoaaDoor.Out
