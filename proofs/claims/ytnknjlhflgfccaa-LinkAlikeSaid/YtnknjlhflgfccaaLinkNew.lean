/- Contracts of link.isLane, link.New and link.goOn. Conditions: the lane's number is one of the three; the frame is from 0 to 2^32 - 1. -/
import Derived.Test.YtnknjlhflgfccaaLinkRow
import Derived.Deep.RegionLaw
import Derived.StillTailTactics
import Derived.Deep.DeepCutAuto
namespace Go.Proofs.Ytnknjlhflgfccaa.Link
open Go.ChangeShapes Go.WideShapes Go.ChangeAt Go.RowKit Num By Msg

/-- None; a lane at the end of frame 0. -/
abbrev l0 : Lk := ⟨0, 0, fun _ _ => 0⟩
def newL (o : Nat) : Lk := ⟨o, 0, fun _ _ => 4294967295⟩
def mixN (o n : Nat) : Lk := ⟨o, 0, fun a b => if 3 * a + b < n then 4294967295 else 0⟩
theorem mixN_0 (o : Nat) : lkA (mixN o 0) = lkA ⟨o, 0, fun _ _ => 0⟩ := lkA_as rfl rfl fun j k _ _ => by unfold mixN; simp
theorem mixN_9 (o : Nat) : lkA (mixN o 9) = lkA (newL o) := lkA_as rfl rfl fun j k hj hk => by unfold mixN newL; simp only; rw [if_pos (by omega)]
theorem mixN_set (o j k : Nat) (hj : j < 3) (hk : k < 3) : (lkA (mixN o (3 * j + k))).setIfInBounds (2 + j * 3 + k) (.int .u32 4294967295) = lkA (mixN o (3 * j + k + 1)) :=
  lk_put hj hk rfl rfl fun a b ha hb => by
    simp only [mixN]
    by_cases e : a = j ∧ b = k
    · rw [if_pos e, if_pos (by omega)]
    · rw [if_neg e]
      by_cases l : 3 * a + b < 3 * j + k
      · rw [if_pos l, if_pos (by omega)]
      · rw [if_neg l, if_neg (by omega)]

theorem laneY (o : Nat) (ho : o < 3) (w : World) : Calls Try.prog 11 #[.int .i64 (o : Int)] w fun e w' => e = .returned (.bool true) ∧ w = w' := by
  have h0 : (0 : Int) ≤ (o : Int) := Int.natCast_nonneg _
  have h1 : (o : Int) < 3 := by omega
  go_enter Try.func11, Try.ntmps11
  go_wp2
  go_ret
  exact ⟨rfl, rfl⟩
theorem laneN (o : Int) (ho : o < 0 ∨ 3 ≤ o) (w : World) : Calls Try.prog 11 #[.int .i64 o] w fun e w' => e = .returned (.bool false) ∧ w = w' := by
  rcases ho with h | h
  · have h1 : decide (0 ≤ o) = false := decide_eq_false (by omega)
    go_enter Try.func11, Try.ntmps11
    go_wp2
    go_ret
    exact ⟨rfl, rfl⟩
  · have h0 : (0 : Int) ≤ o := by omega
    have h1 : decide (o < 3) = false := decide_eq_false (by omega)
    clear h
    go_enter Try.func11, Try.ntmps11
    go_wp2
    go_ret
    exact ⟨rfl, rfl⟩

theorem blk_alloc2 (w : World) (o : Obj) (us : Array Value) (T : TypeId) : Blk ((w.alloc o).alloc (.cells us T)) (w.heap.size + 1) us T := by
  have h := blk_alloc (w.alloc o) us T
  simpa using h
theorem below_new {a w : World} (h : Below a.heap.size a w) (o : Obj) : Below a.heap.size a (w.alloc o) := h.alloc h.size o
theorem allocs (w : World) (o : Obj) : Below w.heap.size w (w.alloc o) := (Below.refl _ w).alloc (Nat.le_refl _) o
/-- What New's rounds leave. -/
structure NewAt (w0 : World) (o n : Nat) (w : World) : Prop where
  below : Below w0.heap.size w0 w
  hr : Blk w w0.heap.size (lkA l0) 27
  hl : Blk w (w0.heap.size + 1) (lkA (mixN o n)) 27
theorem new_start (w : World) (o : Nat) : NewAt w o 0 ((w.alloc (.cells (lkA l0) 27)).alloc (.cells (lkA ⟨o, 0, fun _ _ => 0⟩) 27)) :=
  ⟨below_new (allocs w _) _, blk_kept (blk_alloc w _ _) (allocs _ _), by rw [mixN_0]; exact blk_alloc2 w _ _ _⟩
theorem new_set {w0 w : World} {o j k : Nat} (h : NewAt w0 o (3 * j + k) w) (hj : j < 3) (hk : k < 3) : NewAt w0 o (3 * j + k + 1) (w.setCell ⟨w0.heap.size + 1, 2 + j * 3 + k, none⟩ (.int .u32 4294967295)) :=
  ⟨h.below.setCell (p := ⟨w0.heap.size + 1, 2 + j * 3 + k, none⟩) (Nat.le_succ _) _, blk_far h.hr _ _ (by omega), by rw [← mixN_set o j k hj hk]; exact blk_set h.hl _ _⟩
def NewJ (w0 : World) (o : Nat) (v : Value) (w : World) : Prop := ∃ j : Nat, v = .int .i64 j ∧ j ≤ 3 ∧ NewAt w0 o (3 * j) w
def NewK (w0 : World) (o j : Nat) (v : Value) (w : World) : Prop := ∃ k : Nat, v = .int .i64 k ∧ k ≤ 3 ∧ NewAt w0 o (3 * j + k) w
theorem ret_le {fn : Func} {p q : Tmp} (h : fn.results = #[.cell p 27, .tmp q]) (tmps : Array Value) (W : World) (g : Nat) (m : Lk) (v : Value) (hp : tmps.getD p undef = .pointer (some ⟨g, 0, none⟩)) (hq : tmps.getD q undef = v) (K : Blk W g (lkA m) 27) :
    (results fn tmps).run Try.prog W = .ok (.tuple #[.agg (lkA m), v]) W := by
  have hp' : tmps[p]?.getD undef = .pointer (some ⟨g, 0, none⟩) := by simpa using hp
  have hq' : tmps[q]?.getD undef = v := by simpa using hq
  simp [results, h, hp', hq', asAddr, run_loadVar_row W g 27 27 (lkA m) (0, 0) _ K Try.underlying27 rfl infoL]

set_option maxHeartbeats 4000000 in
theorem newC (o : Nat) (ho : o < 3) (w : World) :
    Calls Try.prog 5 #[.int .i64 (o : Int)] w fun e w' => e = .returned (.tuple #[.agg (lkA (newL o)), .int .i64 0]) ∧ Below w.heap.size w w' := by
  have K0 := Lib.hid (new_start w o)
  have HO := Lib.hid ho
  clear ho
  go_enter Try.func5, Try.ntmps5
  go_wp2_with fail
  refine (laneY o HO.out _).mono ?_
  rintro e w' ⟨rfl, rfl⟩
  go_wp2
  go_loopw [13] (fun v wr => NewJ w o v wr) (fun v _ => 3 - (intOf v).toNat)
  case atStart => exact ⟨0, rfl, by omega, K0.out⟩
  case round =>
    rename_i wr
    obtain ⟨j, rfl, hj, A⟩ := hrel
    have HA := Lib.hid A
    clear A K0
    by_cases hj3 : j < 3
    · have j0 : (0 : Int) ≤ (j : Int) := Int.natCast_nonneg _
      have j3 : (j : Int) < 3 := by omega
      go_wp2
      go_loopw [16] (fun v wr => NewK w o j v wr) (fun v _ => 3 - (intOf v).toNat)
      case atStart => exact ⟨0, rfl, by omega, HA.out⟩
      case round =>
        rename_i wk
        obtain ⟨k, rfl, hk, A⟩ := hrel
        have HC := Lib.hid A
        clear A HA
        by_cases hk3 : k < 3
        · have k0 : (0 : Int) ≤ (k : Int) := Int.natCast_nonneg _
          have k3 : (k : Int) < 3 := by omega
          have c0 := blk_cell HC.out.hl (lk_at _ j k hj3 hk3)
          have f0 := blk_free HC.out.hl (2 + j * 3 + k)
          go_wp2
          go_roundw
          case rel => exact ⟨k + 1, by go_num, by omega, new_set HC.out hj3 hk3⟩
          case measure => simp [intOf]; omega
        · obtain rfl : k = 3 := by omega
          have e3 : ((3 : Nat) : Int) = 3 := rfl
          go_wp2
          go_roundw
          case rel => exact ⟨j + 1, by go_num, by omega, HC.out⟩
          case measure => simp [intOf]; omega
    · obtain rfl : j = 3 := by omega
      have e3 : ((3 : Nat) : Int) = 3 := rfl
      have HR : Hid (Blk wr (w.heap.size + 1) (lkA (newL o)) 27) := by rw [← mixN_9]; exact HA.out.hl
      go_wp2_with (first | ((with_reducible refine load_l rfl (.tmp 4) rfl (w.heap.size + 1) (newL o) HR.out ?_ ?_); rfl) | ((with_reducible refine store_l rfl (.tmp 2) (.tmp 26) rfl w.heap.size (newL o) l0 HA.out.hr ?_ ?_ ?_); rfl; rfl))
      refine bodyPost_ret (v := .tuple #[.agg (lkA (newL o)), .int .i64 0]) ?_ rfl ⟨rfl, below_row HA.out.below (by omega) _⟩
      exact ret_le Try.results5 _ _ w.heap.size (newL o) _ rfl rfl (blk_row HA.out.hr _)

set_option maxHeartbeats 4000000 in
theorem newNo (w : World) :
    Calls Try.prog 5 #[.int .i64 3] w fun e w' => e = .returned (.tuple #[.agg (lkA l0), .int .i64 2]) ∧ Below w.heap.size w w' := by
  go_enter Try.func5, Try.ntmps5
  go_wp2_with fail
  refine (laneN 3 (.inr (by decide)) _).mono ?_
  rintro e w' ⟨rfl, rfl⟩
  go_wp2
  refine bodyPost_ret (v := .tuple #[.agg (lkA l0), .int .i64 2]) ?_ rfl ⟨rfl, allocs _ _⟩
  exact ret_le Try.results5 _ _ w.heap.size l0 _ rfl rfl (blk_alloc _ _ _)

/-- All that was heard one frame back. -/
def up (x : Int) : Int := x * 2 % 4294967296
def goL (l : Lk) : Lk := ⟨l.own, (l.fr + 1) % 4294967296, fun a b => up (l.h a b)⟩
def mixG (l : Lk) (n : Nat) : Lk := ⟨l.own, (l.fr + 1) % 4294967296, fun a b => if 3 * a + b < n then up (l.h a b) else l.h a b⟩
theorem mixG_0 (l : Lk) : lkA (mixG l 0) = lkA ⟨l.own, (l.fr + 1) % 4294967296, l.h⟩ := lkA_as rfl rfl fun j k _ _ => by unfold mixG; simp
theorem mixG_9 (l : Lk) : lkA (mixG l 9) = lkA (goL l) := lkA_as rfl rfl fun j k hj hk => by unfold mixG goL; simp only; rw [if_pos (by omega)]
theorem mixG_at (l : Lk) (j k : Nat) : (mixG l (3 * j + k)).h j k = l.h j k := by simp only [mixG]; rw [if_neg (by omega)]
theorem mixG_set (l : Lk) (j k : Nat) (hj : j < 3) (hk : k < 3) : (lkA (mixG l (3 * j + k))).setIfInBounds (2 + j * 3 + k) (.int .u32 (up (l.h j k))) = lkA (mixG l (3 * j + k + 1)) :=
  lk_put hj hk rfl rfl fun a b ha hb => by
    simp only [mixG]
    by_cases e : a = j ∧ b = k
    · obtain ⟨rfl, rfl⟩ := e
      rw [if_pos ⟨rfl, rfl⟩, if_pos (by omega)]
    · rw [if_neg e]
      by_cases l : 3 * a + b < 3 * j + k
      · rw [if_pos l, if_pos (by omega)]
      · rw [if_neg l, if_neg (by omega)]
structure GoAt (w0 : World) (l : Lk) (n : Nat) (w : World) : Prop where
  below : Below w0.heap.size w0 w
  hl : Blk w w0.heap.size (lkA (mixG l n)) 27
  hr : Blk w (w0.heap.size + 1) (lkA l0) 27
theorem go_start (w : World) (l : Lk) : GoAt w l 0 ((w.alloc (.cells (lkA ⟨l.own, (l.fr + 1) % 4294967296, l.h⟩) 27)).alloc (.cells (lkA l0) 27)) :=
  ⟨below_new (allocs w _) _, by rw [mixG_0]; exact blk_kept (blk_alloc w _ _) (allocs _ _), blk_alloc2 w _ _ _⟩
theorem go_set {w0 w : World} {l : Lk} {j k n : Nat} (h : GoAt w0 l (3 * j + k) w) (hj : j < 3) (hk : k < 3) : GoAt w0 l (3 * j + k + 1) ((w.setCell ⟨w0.heap.size, 2 + j * 3 + k, none⟩ (.int .u32 (up (l.h j k)))).drewN n) :=
  ⟨below_drewN (h.below.setCell (p := ⟨w0.heap.size, 2 + j * 3 + k, none⟩) (Nat.le_refl _) _) _, by have := blk_set h.hl (2 + j * 3 + k) (.int .u32 (up (l.h j k))); rw [mixG_set l j k hj hk] at this; exact this, blk_far h.hr _ _ (by omega)⟩
def GoJ (w0 : World) (l : Lk) (v : Value) (w : World) : Prop := ∃ j : Nat, v = .int .i64 j ∧ j ≤ 3 ∧ GoAt w0 l (3 * j) w
def GoK (w0 : World) (l : Lk) (j : Nat) (v : Value) (w : World) : Prop := ∃ k : Nat, v = .int .i64 k ∧ k ≤ 3 ∧ GoAt w0 l (3 * j + k) w

set_option maxHeartbeats 4000000 in
theorem goC (l : Lk) (w : World) :
    Calls Try.prog 13 #[.agg (lkA l)] w fun e w' => e = .returned (.agg (lkA (goL l))) ∧ Below w.heap.size w w' := by
  have K0 := Lib.hid (go_start w l)
  go_enter Try.func13, Try.ntmps13
  go_wp2
  go_loopw [9] (fun v wr => GoJ w l v wr) (fun v _ => 3 - (intOf v).toNat)
  case atStart => exact ⟨0, rfl, by omega, K0.out⟩
  case round =>
    rename_i wr
    obtain ⟨j, rfl, hj, A⟩ := hrel
    have HA := Lib.hid A
    clear A K0
    by_cases hj3 : j < 3
    · have j0 : (0 : Int) ≤ (j : Int) := Int.natCast_nonneg _
      have j3 : (j : Int) < 3 := by omega
      go_wp2
      go_loopw [12] (fun v wr => GoK w l j v wr) (fun v _ => 3 - (intOf v).toNat)
      case atStart => exact ⟨0, rfl, by omega, HA.out⟩
      case round =>
        rename_i wk
        obtain ⟨k, rfl, hk, A⟩ := hrel
        have HC := Lib.hid A
        clear A HA
        by_cases hk3 : k < 3
        · have k0 : (0 : Int) ≤ (k : Int) := Int.natCast_nonneg _
          have k3 : (k : Int) < 3 := by omega
          have c0 := blk_cell HC.out.hl (v := .int .u32 (l.h j k)) ((lk_at _ j k hj3 hk3).trans (by rw [mixG_at]))
          have f0 := blk_free HC.out.hl (2 + j * 3 + k)
          go_wp2_with fail
          go_still_tail 10, (by kernel_rfl)
          go_wp2
          go_roundw
          case rel => exact ⟨k + 1, by go_num, by omega, go_set HC.out hj3 hk3⟩
          case measure => simp [intOf]; omega
        · obtain rfl : k = 3 := by omega
          have e3 : ((3 : Nat) : Int) = 3 := rfl
          go_wp2
          go_roundw
          case rel => exact ⟨j + 1, by go_num, by omega, HC.out⟩
          case measure => simp [intOf]; omega
    · obtain rfl : j = 3 := by omega
      have e3 : ((3 : Nat) : Int) = 3 := rfl
      have HR : Hid (Blk wr w.heap.size (lkA (goL l)) 27) := by rw [← mixG_9]; exact HA.out.hl
      go_wp2_with (first | ((with_reducible refine load_l rfl (.tmp 1) rfl w.heap.size (goL l) HR.out ?_ ?_); rfl) | ((with_reducible refine store_l rfl (.tmp 2) (.tmp 27) rfl (w.heap.size + 1) (goL l) l0 HA.out.hr ?_ ?_ ?_); rfl; rfl))
      refine bodyPost_ret (v := .agg (lkA (goL l))) ?_ rfl ⟨rfl, below_row HA.out.below (by omega) _⟩
      exact ret_l Try.results13 _ _ (w.heap.size + 1) (goL l) rfl (blk_row HA.out.hr _)

end Go.Proofs.Ytnknjlhflgfccaa.Link
