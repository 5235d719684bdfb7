/- The walk of the law PersistTells: it returns true and turns nothing that was there. Conditions: the frames are a slice of bools. -/
import Derived.Test.YthdldifilehlpaaPersLives
import Derived.Test.YthdldifilehlpaaPersRRun
import Derived.Deep.RegionHeld3
namespace Go.Proofs.Ythdldifilehlpaa.Pers
open Go.ChangeShapes Go.WideShapes Go.ChangeAt Go.RowKit Num Bl

theorem held0 (s : Hl) (w : World) : (w.alloc (.cells #[.int .i64 s.b, .bool s.o, .int .i64 s.g] 23)).drew.cell? ⟨w.heap.size, 0, none⟩ = some (.int .i64 s.b) ∧ (w.alloc (.cells #[.int .i64 s.b, .bool s.o, .int .i64 s.g] 23)).drew.cell? ⟨w.heap.size, 1, none⟩ = some (.bool s.o)
    ∧ (w.alloc (.cells #[.int .i64 s.b, .bool s.o, .int .i64 s.g] 23)).drew.cell? ⟨w.heap.size, 2, none⟩ = some (.int .i64 s.g) ∧ Hid (Below w.heap.size w (w.alloc (.cells #[.int .i64 s.b, .bool s.o, .int .i64 s.g] 23)).drew)
    ∧ w.heap.size < (w.alloc (.cells #[.int .i64 s.b, .bool s.o, .int .i64 s.g] 23)).drew.heap.size := by
  have K := blk_alloc w #[.int .i64 s.b, .bool s.o, .int .i64 s.g] 23
  refine ⟨blk_cell K (o := 0) rfl, blk_cell K (o := 1) rfl, blk_cell K (o := 2) rfl, below_drewN ((Below.refl _ w).alloc (Nat.le_refl _) _) 1, ?_⟩
  show w.heap.size < (w.alloc _).heap.size
  simp
theorem heldS {s : Hl} {n0 : Nat} {w w1 v : World} (h : w1.cell? ⟨n0, 0, none⟩ = some (.int .i64 s.b) ∧ w1.cell? ⟨n0, 1, none⟩ = some (.bool s.o) ∧ w1.cell? ⟨n0, 2, none⟩ = some (.int .i64 s.g) ∧ Hid (Below n0 w w1) ∧ n0 < w1.heap.size) (bb : Below w1.heap.size w1 v) :
    v.cell? ⟨n0, 0, none⟩ = some (.int .i64 s.b) ∧ v.cell? ⟨n0, 1, none⟩ = some (.bool s.o) ∧ v.cell? ⟨n0, 2, none⟩ = some (.int .i64 s.g) ∧ Hid (Below n0 w v) ∧ n0 < v.heap.size :=
  ⟨(bb.cell (p := ⟨n0, 0, none⟩) h.2.2.2.2).trans h.1, (bb.cell (p := ⟨n0, 1, none⟩) h.2.2.2.2).trans h.2.1, (bb.cell (p := ⟨n0, 2, none⟩) h.2.2.2.2).trans h.2.2.1, h.2.2.2.1.out.trans (bb.mono (Nat.le_of_lt h.2.2.2.2)), Nat.lt_of_lt_of_le h.2.2.2.2 bb.size⟩
theorem bls_at {w w1 : World} {A : Option Addr} {n : Nat} {L : Nat → Bool} (h : Bls w w.heap.size A n L) (hb : Hid (Below w.heap.size w w1)) : Bls w1 w1.heap.size A n L := h.next hb.out

set_option maxRecDepth 100000 in
set_option maxHeartbeats 4000000 in
theorem tellsLaw (s : Hl) (x k : Bool) (A : Option Addr) (n c : Nat) (L : Nat → Bool) (w : World) (hn : n ≤ maxLen) (hP : Bls w w.heap.size A n L) :
    Calls Try.prog 3 #[hv s, .bool x, .bool k, .slice A n c] w fun e w' => e = .returned (.bool true) ∧ Below w.heap.size w w' := by
  have HN := Lib.hid hn
  unfold maxLen at hn
  have HP := Lib.hid hP
  clear hP
  by_cases h : n ≤ 100000
  · go_enter Try.func3, Try.ntmps3
    go_wp2_with fail
    go_region_held3 (fun w' => w'.cell? ⟨w.heap.size, 0, none⟩ = some (.int .i64 s.b) ∧ w'.cell? ⟨w.heap.size, 1, none⟩ = some (.bool s.o) ∧ w'.cell? ⟨w.heap.size, 2, none⟩ = some (.int .i64 s.g) ∧ Hid (Below w.heap.size w w') ∧ w.heap.size < w'.heap.size)
      (first
        | exact held0 s w
        | exact heldS (by assumption) bb
        | assumption)
      (first
        | (go_at_call 7; refine (mayC s _).mono ?_; rintro e v ⟨rfl, bb⟩)
        | (go_at_call 8; refine (rMay s _).mono ?_; rintro e v ⟨rfl, bb⟩)
        | (go_at_call 9; refine (nextC s x k _).mono ?_; rintro e v ⟨rfl, bb⟩)
        | (go_at_call 10; refine (rNextC s x k _).mono ?_; rintro e v ⟨rfl, bb⟩)
        | (go_at_call 11; refine (runC s A n c k L _ HN.out ?_).mono ?_; (go_split_ands; exact bls_at HP.out (by assumption)); rintro e v ⟨rfl, bb⟩)
        | (go_at_call 12; refine (rRunC s A n c k L _ HN.out ?_).mono ?_; (go_split_ands; exact bls_at HP.out (by assumption)); rintro e v ⟨rfl, bb⟩)
        | (go_at_call 6; refine (lives _).mono ?_; rintro e v ⟨rfl, bb⟩))
    have BB : Hid (Below w.heap.size w v) := by go_split_ands; assumption
    go_wp2
    go_ret
    exact ⟨rfl, BB.out⟩
  · go_enter Try.func3, Try.ntmps3
    go_wp2_with fail
    refine (lives _).mono ?_
    rintro e w2 ⟨rfl, b2⟩
    have B2 := Lib.hid (below_alloc b2)
    clear b2
    go_wp2
    go_ret
    exact ⟨rfl, B2.out⟩

end Go.Proofs.Ythdldifilehlpaa.Pers
