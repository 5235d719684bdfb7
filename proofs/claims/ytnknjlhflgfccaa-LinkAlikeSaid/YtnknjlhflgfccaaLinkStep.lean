/- Contracts of link.Step and of link.heardByOthers. Conditions: the lane's number is one of the three; the messages' fields are what their types allow. -/
import Derived.Test.YtnknjlhflgfccaaLinkHear
namespace Go.Proofs.Ytnknjlhflgfccaa.Link
open Go.ChangeShapes Go.WideShapes Go.ChangeAt Go.RowKit Num By Msg

/-- A message comes; the first n of them. -/
def onL (l : Lk) (m : Ms) : Lk := if isP l m then hearL l m else l
def stL (l : Lk) (F : Nat → Ms) : Nat → Lk
  | 0 => goL l
  | n + 1 => onL (stL l F n) (F n)
theorem onL_own (l : Lk) (m : Ms) : (onL l m).own = l.own := by unfold onL hearL mixH; split <;> rfl
theorem stL_own (l : Lk) (F : Nat → Ms) (n : Nat) : (stL l F n).own = l.own := by
  induction n with
  | zero => rfl
  | succ n ih => unfold stL; rw [onL_own, ih]
/-- A message's fields are what their types allow, as far as it counts. -/
def OkM (m : Ms) : Prop := B8 m.lane ∧ ∀ k, 0 ≤ tl m k ∧ tl m k < 256
structure StepAt (w0 : World) (l : Lk) (A : Option Addr) (n : Nat) (F : Nat → Ms) (i : Nat) (w : World) : Prop where
  below : Below w0.heap.size w0 w
  hl : Blk w w0.heap.size (lkA (stL l F i)) 27
  hr : Blk w (w0.heap.size + 1) (lkA l0) 27
  ms : Mss w w0.heap.size A n F
structure StepBox (w0 : World) (l : Lk) (A : Option Addr) (n : Nat) (F : Nat → Ms) (w : World) : Prop where
  below : Below w0.heap.size w0 w
  hl : Blk w w0.heap.size (lkA l) 27
  hr : Blk w (w0.heap.size + 1) (lkA l0) 27
  ms : Mss w w0.heap.size A n F
theorem step_box (w : World) (l : Lk) {A : Option Addr} {n : Nat} {F : Nat → Ms} (h : Mss w w.heap.size A n F) : StepBox w l A n F ((w.alloc (.cells (lkA l) 27)).alloc (.cells zA 27)) :=
  ⟨below_new (allocs w _) _, blk_kept (blk_alloc w _ _) (allocs _ _), blk_alloc2 w _ _ _, h.below (below_new (allocs w _) _)⟩
theorem step_go {w0 w w1 : World} {l : Lk} {A : Option Addr} {n : Nat} {F : Nat → Ms} (h : StepBox w0 l A n F w) (b : Below w.heap.size w w1) : StepAt w0 l A n F 0 (w1.setRow w0.heap.size (lkA (goL l))) :=
  have k := bthen h.below b
  ⟨below_row k (Nat.le_refl _) _, blk_row (blk_kept h.hl b) _, blk_row_far (blk_kept h.hr b) (by omega) _, (h.ms.below (b.mono h.below.size)).below (below_row (Below.refl _ _) (Nat.le_refl _) _)⟩
theorem step_call {w0 w w1 : World} {l : Lk} {A : Option Addr} {n i : Nat} {F : Nat → Ms} (h : StepAt w0 l A n F i w) (b : Below w.heap.size w w1) : StepAt w0 l A n F i w1 :=
  ⟨bthen h.below b, blk_kept h.hl b, blk_kept h.hr b, h.ms.below (b.mono h.below.size)⟩
theorem stL_on {l : Lk} {F : Nat → Ms} {i : Nat} (hp : isP (stL l F i) (F i) = true) : stL l F (i + 1) = hearL (stL l F i) (F i) := if_pos hp
theorem stL_off {l : Lk} {F : Nat → Ms} {i : Nat} (hp : isP (stL l F i) (F i) = false) : stL l F (i + 1) = stL l F i := by
  show onL (stL l F i) (F i) = _
  unfold onL; rw [hp]; rfl
theorem step_on {w0 w : World} {l : Lk} {A : Option Addr} {n i : Nat} {F : Nat → Ms} (h : StepAt w0 l A n F i w) (hp : isP (stL l F i) (F i) = true) : StepAt w0 l A n F (i + 1) (w.setRow w0.heap.size (lkA (hearL (stL l F i) (F i)))) :=
  ⟨below_row h.below (Nat.le_refl _) _, by rw [stL_on hp]; exact blk_row h.hl _, blk_row_far h.hr (by omega) _, h.ms.below (below_row (Below.refl _ _) (Nat.le_refl _) _)⟩
theorem step_off {w0 w : World} {l : Lk} {A : Option Addr} {n i : Nat} {F : Nat → Ms} (h : StepAt w0 l A n F i w) (hp : isP (stL l F i) (F i) = false) : StepAt w0 l A n F (i + 1) w :=
  ⟨h.below, by rw [stL_off hp]; exact h.hl, h.hr, h.ms⟩

set_option maxHeartbeats 4000000 in
theorem stepC (l : Lk) (ho : l.own < 3) (A : Option Addr) (n c : Nat) (F : Nat → Ms) (hF : ∀ i, i < n → OkM (F i)) (w : World) (hm : Mss w w.heap.size A n F) (hn : n ≤ 140737488355328) :
    Calls Try.prog 8 #[.agg (lkA l), .slice A n c] w fun e w' => e = .returned (.agg (lkA (stL l F n))) ∧ Below w.heap.size w w' := by
  have K0 := Lib.hid (step_box w l hm)
  have HO := Lib.hid ho
  have HF := Lib.hid hF
  have n0 : (0 : Int) ≤ (n : Int) := Int.natCast_nonneg _
  have n1 : (n : Int) ≤ 140737488355328 := by omega
  clear ho hF hm
  go_enter Try.func8, Try.ntmps8
  go_wp2_with fail
  refine (laneY _ HO.out _).mono ?_
  rintro e w' ⟨rfl, rfl⟩
  generalize World.alloc (World.alloc w _) _ = W at *
  go_wp2_with ((with_reducible refine load_l rfl (.tmp 2) rfl w.heap.size l K0.out.hl ?_ ?_); rfl)
  refine (goC l _).mono ?_
  rintro e w1 ⟨rfl, b1⟩
  have K1 := Lib.hid (step_go K0.out b1)
  have KL := Lib.hid (blk_kept K0.out.hl b1)
  clear b1 K0
  go_wp2_with ((with_reducible refine store_l rfl (.tmp 2) (.tmp 13) rfl w.heap.size (goL l) l KL.out ?_ ?_ ?_); rfl; rfl)
  clear KL
  generalize World.setRow w1 _ _ = V at *
  go_loopw [16] (fun v wr => ∃ i : Nat, v = .int .i64 i ∧ i ≤ n ∧ StepAt w l A n F i wr) (fun v _ => n - (intOf v).toNat)
  case atStart => exact ⟨0, rfl, by omega, K1.out⟩
  case round =>
    rename_i wr
    obtain ⟨i, rfl, hi, A⟩ := hrel
    have HA := Lib.hid A
    clear A K1
    by_cases hin : i < n
    · have i0 : (0 : Int) ≤ (i : Int) := Int.natCast_nonneg _
      have i1 : (i : Int) < (n : Int) := by omega
      obtain ⟨b, off, rfl, hlt, hr⟩ := HA.out.ms (by omega)
      have HR := Lib.hid (hr i hin)
      have OM := Lib.hid (HF.out i hin)
      clear hr
      have HB := Lib.hid (step_call HA.out (allocs wr (.cells (mA (F i)) 38)))
      have KM := Lib.hid (blk_alloc wr (mA (F i)) 38)
      clear HA
      go_wp2_with (first | ((with_reducible refine load_mr rfl (.tmp 18) rfl b (off + i * 11) (F i) HR.out ?_ ?_); rfl) | ((with_reducible refine load_l rfl (.tmp 2) rfl w.heap.size _ HB.out.hl ?_ ?_); rfl) | ((with_reducible refine load_m rfl (.tmp 6) rfl wr.heap.size _ KM.out ?_ ?_); rfl))
      refine (isForC _ _ OM.out.1 _).mono ?_
      rintro e w2 ⟨rfl, b2⟩
      have HC := Lib.hid (step_call HB.out b2)
      have KN := Lib.hid (blk_kept KM.out b2)
      clear b2 HB KM HR
      cases hp : isP (stL l F i) (F i)
      · have HP := Lib.hid hp
        clear hp
        go_wp2
        go_roundw
        case rel => exact ⟨i + 1, by go_num, by omega, step_off HC.out HP.out⟩
        case measure => simp [intOf]; omega
      · have HP := Lib.hid hp
        clear hp
        go_wp2_with (first | ((with_reducible refine load_l rfl (.tmp 2) rfl w.heap.size _ HC.out.hl ?_ ?_); rfl) | ((with_reducible refine load_m rfl (.tmp 6) rfl wr.heap.size _ KN.out ?_ ?_); rfl))
        refine (hearC _ _ HP.out (by rw [stL_own]; exact HO.out) OM.out.1 OM.out.2 _).mono ?_
        rintro e w3 ⟨rfl, b3⟩
        have HD := Lib.hid (step_call HC.out b3)
        clear b3 HC KN
        go_wp2_with ((with_reducible refine store_l rfl (.tmp 2) (.tmp 25) rfl w.heap.size (hearL (stL l F i) (F i)) _ HD.out.hl ?_ ?_ ?_); rfl; rfl)
        go_roundw
        case rel => exact ⟨i + 1, by go_num, by omega, step_on HD.out HP.out⟩
        case measure => simp [intOf]; omega
    · obtain rfl : i = n := by omega
      go_wp2_with (first | ((with_reducible refine load_l rfl (.tmp 2) rfl w.heap.size _ HA.out.hl ?_ ?_); rfl) | ((with_reducible refine store_l rfl (.tmp 4) (.tmp 27) rfl (w.heap.size + 1) (stL l F i) l0 HA.out.hr ?_ ?_ ?_); rfl; rfl))
      refine bodyPost_ret (v := .agg (lkA (stL l F i))) ?_ rfl ⟨rfl, below_row HA.out.below (by omega) _⟩
      exact ret_l Try.results8 _ _ (w.heap.size + 1) (stL l F i) rfl (blk_row HA.out.hr _)

/-- In which frames any of the first n lanes but k itself heard k. -/
def oth (l : Lk) (k : Nat) : Nat → Int
  | 0 => 0
  | n + 1 => if n = k then oth l k n else orI (oth l k n) (l.h n k)
theorem oth_skip (l : Lk) (k : Nat) : oth l k (k + 1) = oth l k k := if_pos rfl
theorem oth_add {l : Lk} {k n : Nat} (h : n ≠ k) : oth l k (n + 1) = orI (oth l k n) (l.h n k) := if_neg h

set_option maxHeartbeats 4000000 in
theorem othC (l : Lk) (k : Nat) (hk : k < 3) (w : World) :
    Calls Try.prog 16 #[.agg (lkA l), .int .i64 (k : Int)] w fun e w' => e = .returned (.int .u32 (oth l k 3)) ∧ Below w.heap.size w w' := by
  have k0 : (0 : Int) ≤ (k : Int) := Int.natCast_nonneg _
  have k3 : (k : Int) < 3 := by omega
  have K0 := Lib.hid (allocs w (.cells (lkA l) 27))
  have HK := Lib.hid hk
  clear hk
  go_enter Try.func16, Try.ntmps16
  go_wp2
  go_loopw [5, 10] (fun x v wr => ∃ j : Nat, v = .int .i64 j ∧ j ≤ 3 ∧ x = .int .u32 (oth l k j) ∧ Below w.heap.size w wr) (fun _ v _ => 3 - (intOf v).toNat)
  case atStart => exact ⟨0, rfl, by omega, rfl, K0.out⟩
  case round =>
    rename_i wr
    obtain ⟨j, rfl, hj, rfl, A⟩ := hrel
    have HA := Lib.hid A
    clear A K0
    by_cases hj3 : j < 3
    · have j0 : (0 : Int) ≤ (j : Int) := Int.natCast_nonneg _
      have j3 : (j : Int) < 3 := by omega
      have jx := fun W => ix_h l W j hj3
      by_cases e : j = k
      · subst e
        go_wp2
        go_roundw
        case rel => exact ⟨j + 1, by go_num, by omega, by rw [oth_skip], below_new HA.out _⟩
        case measure => simp [intOf]; omega
      · have ne : ((j : Int) != (k : Int)) = true := by simp; omega
        have cx := blk_cell (blk_alloc wr (h3A l j) 24) (o := k) (v := .int .u32 (l.h j k)) (by have := HK.out; rcases (show k = 0 ∨ k = 1 ∨ k = 2 by omega) with rfl | rfl | rfl <;> rfl)
        go_wp2
        go_roundw
        case rel => exact ⟨j + 1, by go_num, by omega, by rw [oth_add e]; rfl, below_new HA.out _⟩
        case measure => simp [intOf]; omega
    · obtain rfl : j = 3 := by omega
      have e3 : ((3 : Nat) : Int) = 3 := rfl
      go_wp2
      go_ret
      exact ⟨rfl, HA.out⟩

end Go.Proofs.Ytnknjlhflgfccaa.Link
