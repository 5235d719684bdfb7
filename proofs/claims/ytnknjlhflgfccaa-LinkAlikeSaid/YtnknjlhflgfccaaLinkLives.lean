/- The law's 'lives': a lane that hears nothing, thirteen frames. Conditions: none. -/
import Derived.Test.YtnknjlhflgfccaaLinkAlive
import Derived.Test.YtnknjlhflgfccaaArrEq
namespace Go.Proofs.Ytnknjlhflgfccaa.Link
open Go.ChangeShapes Go.WideShapes Go.ChangeAt Go.RowKit Num By Msg

/-- Lane 0 behind n frames in which it heard nothing. -/
def lv : Nat → Lk
  | 0 => newL 0
  | n + 1 => goL (lv n)
theorem lv_own (n : Nat) : (lv n).own = 0 := by
  induction n with
  | zero => rfl
  | succ n ih => exact ih
theorem lv_0 : b3A (aliveL (lv 0)) = #[.bool true, .bool true, .bool true] := by kernel_rfl
theorem lv_11 : b3A (aliveL (lv 11)) = #[.bool true, .bool true, .bool true] := by kernel_rfl
theorem lv_12 : b3A (aliveL (lv 12)) = #[.bool true, .bool false, .bool false] := by kernel_rfl
theorem stepNil (l : Lk) (ho : l.own < 3) (w : World) :
    Calls Try.prog 8 #[.agg (lkA l), .slice none 0 0] w fun e w' => e = .returned (.agg (lkA (goL l))) ∧ Below w.heap.size w w' :=
  stepC l ho none 0 0 (fun _ => m0) (fun i h => by omega) w (fun h => by omega) (by omega)
theorem liveStep (n : Nat) (w : World) :
    Calls Try.prog 8 #[.agg (lkA (lv n)), .slice none 0 0] w fun e w' => e = .returned (.agg (lkA (lv (n + 1)))) ∧ Below w.heap.size w w' :=
  stepNil (lv n) (by rw [lv_own]; decide) w
theorem live0 (w : World) : Calls Try.prog 9 #[.agg (lkA (lv 0))] w fun e w' => e = .returned (.agg #[.bool true, .bool true, .bool true]) ∧ Below w.heap.size w w' := by
  rw [← lv_0]; exact aliveC (lv 0) (by rw [lv_own]; decide) w
theorem live11 (w : World) : Calls Try.prog 9 #[.agg (lkA (lv 11))] w fun e w' => e = .returned (.agg #[.bool true, .bool true, .bool true]) ∧ Below w.heap.size w w' := by
  rw [← lv_11]; exact aliveC (lv 11) (by rw [lv_own]; decide) w
theorem live12 (w : World) : Calls Try.prog 9 #[.agg (lkA (lv 12))] w fun e w' => e = .returned (.agg #[.bool true, .bool false, .bool false]) ∧ Below w.heap.size w w' := by
  rw [← lv_12]; exact aliveC (lv 12) (by rw [lv_own]; decide) w
theorem liveNew (w : World) : Calls Try.prog 5 #[.int .i64 0] w fun e w' => e = .returned (.tuple #[.agg (lkA (lv 0)), .int .i64 0]) ∧ Below w.heap.size w w' :=
  newC 0 (by decide) w
abbrev yes3 : Nat → Bool := fun _ => true
structure LiveAt (w0 : World) (g1 g5 n : Nat) (w : World) : Prop where
  below : Below w0.heap.size w0 w
  low : w0.heap.size ≤ g1
  ne : g5 ≠ g1
  h1 : Blk w g1 (lkA (lv n)) 27
  h5 : Blk w g5 (b3A yes3) 32
theorem live_call {w0 w w1 : World} {g1 g5 n : Nat} (h : LiveAt w0 g1 g5 n w) (b : Below w.heap.size w w1) : LiveAt w0 g1 g5 n w1 :=
  ⟨bthen h.below b, h.low, h.ne, blk_kept h.h1 b, blk_kept h.h5 b⟩
theorem live_set {w0 w : World} {g1 g5 n : Nat} (h : LiveAt w0 g1 g5 n w) (k : Nat) : LiveAt w0 g1 g5 k (w.setRow g1 (lkA (lv k))) :=
  ⟨below_row h.below h.low _, h.low, h.ne, blk_row h.h1 _, blk_row_far h.h5 h.ne _⟩

set_option maxHeartbeats 4000000 in
theorem lives (w : World) : Calls Try.prog 10 #[] w fun e w' => e = .returned (.bool true) ∧ Below w.heap.size w w' := by
  go_enter Try.func10, Try.ntmps10
  go_wp2_with fail
  refine (liveNew _).mono ?_
  rintro e w1 ⟨rfl, b1⟩
  have B1 := Lib.hid (below_new b1 (.cells (lkA (lv 0)) 27))
  have K1 := Lib.hid (blk_alloc w1 (lkA (lv 0)) 27)
  have L1 := Lib.hid b1.size
  clear b1
  go_wp2_with fail
  refine (newNo _).mono ?_
  rintro e w2 ⟨rfl, b2⟩
  have c2 := below_new b2 (.cells zA 27)
  have B2 := Lib.hid (bthen B1.out c2)
  have K2 := Lib.hid (blk_kept K1.out c2)
  clear b2 c2 B1 K1
  generalize w1.heap.size = g1 at *
  go_wp2_with ((with_reducible refine load_l rfl (.tmp 1) rfl g1 _ K2.out ?_ ?_); rfl)
  refine (live0 _).mono ?_
  rintro e w3 ⟨rfl, b3⟩
  have K3 := Lib.hid (show LiveAt w g1 w3.heap.size 0 (w3.alloc (.cells (b3A yes3) 32)) from
    ⟨bthen (bthen B2.out b3) (allocs _ _), L1.out, by have := blk_lt (blk_kept K2.out b3); omega, blk_kept (blk_kept K2.out b3) (allocs _ _), blk_alloc _ _ _⟩)
  clear b3 B2 K2 L1
  go_wp2
  generalize World.alloc w3 _ = W at *
  generalize w3.heap.size = g5 at *
  go_loopw [6] (fun v wr => ∃ k : Nat, v = .int .i64 k ∧ k ≤ 11 ∧ LiveAt w g1 g5 k wr) (fun v _ => 11 - (intOf v).toNat)
  case atStart => exact ⟨0, rfl, by omega, K3.out⟩
  case round =>
    rename_i wr
    obtain ⟨k, rfl, hk, A⟩ := hrel
    have HA := Lib.hid A
    clear A K3
    by_cases hk3 : k < 11
    · have k0 : (0 : Int) ≤ (k : Int) := Int.natCast_nonneg _
      have k3 : (k : Int) < 11 := by omega
      go_wp2_with ((with_reducible refine load_l rfl (.tmp 1) rfl g1 _ HA.out.h1 ?_ ?_); rfl)
      refine (liveStep k _).mono ?_
      rintro e v1 ⟨rfl, b1⟩
      have HB := Lib.hid (live_call HA.out b1)
      clear b1 HA
      go_wp2_with ((with_reducible refine store_l rfl (.tmp 1) (.tmp 25) rfl g1 (lv (k + 1)) _ HB.out.h1 ?_ ?_ ?_); rfl; rfl)
      go_roundw
      case rel => exact ⟨k + 1, by go_num, by omega, live_set HB.out _⟩
      case measure => simp [intOf]; omega
    · obtain rfl : k = 11 := by omega
      have e3 : ((11 : Nat) : Int) = 11 := rfl
      go_wp2_with ((with_reducible refine load_l rfl (.tmp 1) rfl g1 _ HA.out.h1 ?_ ?_); rfl)
      refine (live11 _).mono ?_
      rintro e v1 ⟨rfl, b1⟩
      have b1' := below_new b1 (.cells (b3A yes3) 32)
      have HB := Lib.hid (live_call HA.out b1')
      have K7 := Lib.hid (blk_alloc v1 (b3A yes3) 32)
      clear b1 b1' HA
      go_wp2_with ((with_reducible refine load_l rfl (.tmp 1) rfl g1 _ HB.out.h1 ?_ ?_); rfl)
      refine (liveStep 11 _).mono ?_
      rintro e v2 ⟨rfl, b2⟩
      have HC := Lib.hid (live_call HB.out b2)
      have K8 := Lib.hid (blk_kept K7.out b2)
      clear b2 HB K7
      go_wp2_with fail
      refine (live12 _).mono ?_
      rintro e v3 ⟨rfl, b3⟩
      have HD := Lib.hid (live_call HC.out b3)
      have K9 := Lib.hid (blk_kept K8.out b3)
      clear b3 HC K8
      have b5 := HD.out.below
      have l5 := blk_lt HD.out.h5
      have l7 := blk_lt K9.out
      have a0 := blk_cell HD.out.h5 (o := 0) (v := .bool true) rfl
      have a1 := blk_cell HD.out.h5 (o := 1) (v := .bool true) rfl
      have a2 := blk_cell HD.out.h5 (o := 2) (v := .bool true) rfl
      have c0 := blk_cell K9.out (o := 0) (v := .bool true) rfl
      have c1 := blk_cell K9.out (o := 1) (v := .bool true) rfl
      have c2 := blk_cell K9.out (o := 2) (v := .bool true) rfl
      have B5 := Lib.hid b5
      clear b5 HD K9
      go_wp2
      go_ret
      exact ⟨rfl, below_new (below_new B5.out _) _⟩

end Go.Proofs.Ytnknjlhflgfccaa.Link
