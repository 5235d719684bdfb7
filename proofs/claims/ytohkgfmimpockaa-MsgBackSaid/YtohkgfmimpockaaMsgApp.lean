/- Contracts of msg.appendNumber and the reference's lay: a number's bytes behind others. Conditions: the number is one of 64 bits without a sign. -/
import Derived.Test.YtohkgfmimpockaaMsgPart
namespace Go.Proofs.Ytohkgfmimpockaa.Msg
open Go.ChangeShapes Go.WideShapes Go.ChangeAt Go.RowKit Num By

/-- One byte more. -/
theorem own_one {w : World} {base : Nat} {v : Value} {k : Nat} {F L : Nat → Int} (h : w.ownsRow base 5 1 v (k + 1) (cellsOf (k + 1) (catL k F L))) (e : L 0 = F k) : w.ownsRow base 5 1 v (k + 1) (cellsOf (k + 1) F) := by
  rw [cellsOf_as (M := F)] at h
  · exact h
  · intro i hi
    rcases Nat.lt_or_ge i k with g | g
    · exact catL_lo g
    · obtain rfl : i = k := by omega
      have := catL_hi i 0 F L
      rw [Nat.add_zero] at this
      rw [this, e]
theorem own_more {w : World} {base : Nat} {v : Value} {k n : Nat} {F L : Nat → Int} (h : w.ownsRow base 5 1 v (k + n) (cellsOf (k + n) (catL k F L))) (e : ∀ j, j < n → L j = F (k + j)) : w.ownsRow base 5 1 v (k + n) (cellsOf (k + n) F) := by
  rw [cellsOf_as (M := F)] at h
  · exact h
  · intro i hi
    rcases Nat.lt_or_ge i k with g | g
    · exact catL_lo g
    · have := catL_hi k (i - k) F L
      rw [show k + (i - k) = i by omega] at this
      rw [this, e (i - k) (by omega), show k + (i - k) = i by omega]
theorem one_new (w : World) (x : Int) : Bys (w.alloc (.cells #[.int .u8 x] 5)) (w.alloc (.cells #[.int .u8 x] 5)).heap.size (some ⟨w.heap.size, 0, none⟩) 1 (fun _ => x) := bys_new w 1 _ _ _ rfl
theorem quot_in {x : Int} (h0 : 0 ≤ x) (h1 : x < 18446744073709551616) (k : Nat) : 0 ≤ x / 256 ^ k ∧ x / 256 ^ k < 18446744073709551616 :=
  ⟨Int.ediv_nonneg h0 (Int.le_of_lt (pow_pos k)), Int.lt_of_le_of_lt (Int.ediv_le_self _ h0) h1⟩

set_option maxHeartbeats 1000000 in
theorem appendC (v : Value) (k many base : Nat) (F : Nat → Int) (x : Int) (w : World) (x0 : 0 ≤ x) (x1 : x < 18446744073709551616) (hm : many ≤ 8) (hk : k ≤ 100) (hF : ∀ j, j < many → byt x j = F (k + j)) (hbase : base ≤ w.heap.size)
    (hv : w.ownsRow base 5 1 v k (cellsOf k F)) :
    Calls Try.prog 19 #[v, .int .u64 x, .int .i64 many] w fun e w' => ∃ v', e = .returned v' ∧ w'.ownsRow base 5 1 v' (k + many) (cellsOf (k + many) F) ∧ Below base w w' := by
  have HF := Lib.hid hF
  have HV := Lib.hid hv
  have HA := Lib.hid hbase
  clear hF hv hbase
  go_enter Try.func19, Try.ntmps19
  go_wp2
  go_loopw [0, 1, 8] (fun b n i wr => ∃ j : Nat, j ≤ many ∧ i = .int .i64 j ∧ n = .int .u64 (x / 256 ^ j) ∧ Below base w wr ∧ wr.ownsRow base 5 1 b (k + j) (cellsOf (k + j) F)) (fun _ _ i _ => many - (intOf i).toNat)
  case atStart => exact ⟨0, Nat.zero_le _, rfl, by simp, Below.refl _ _, HV.out⟩
  case round =>
    rename_i wr
    obtain ⟨j, hj, rfl, rfl, hbl, hown⟩ := hrel
    have HB := Lib.hid hbl
    have HO := Lib.hid hown
    clear hbl hown HV
    obtain ⟨y0, y1⟩ := quot_in x0 x1 j
    have HD := Lib.hid (byt_next x j)
    have HY : Hid (x / 256 ^ j % 256 = byt x j) := rfl
    generalize x / 256 ^ j = y at *
    by_cases hlt : j < many
    · have HE := Lib.hid (HF.out j hlt)
      go_wp2_with (at_builtin; refine wpList_append_more rfl (.tmp 10) (.tmp 13) rfl base (k + j) F _ (some ⟨wr.heap.size, 0, none⟩) 1 1 (fun _ => y % 256) rfl (HO.out.alloc _) (by have := HB.out.size; have := HA.out; simp; omega) rfl (one_new wr (y % 256)) (by simp) (by omega) ?_; intro v' w' o1 b1)
      have O1 := Lib.hid (own_one o1 (HY.out.trans HE.out))
      have B1 : Hid (Below base w w') := (HB.out.alloc (by have := HB.out.size; have := HA.out; omega) _).trans b1
      clear o1 b1
      go_wp2
      go_roundw
      case rel => exact ⟨j + 1, by omega, by go_num, congrArg _ HD.out, B1.out, O1.out⟩
      case measure => simp [intOf]; omega
    · obtain rfl : j = many := by omega
      go_wp2
      go_ret
      exact ⟨_, rfl, HO.out, HB.out⟩

set_option maxHeartbeats 1000000 in
theorem layC (v : Value) (k many base : Nat) (F : Nat → Int) (x : Int) (w : World) (x0 : 0 ≤ x) (x1 : x < 18446744073709551616) (hm : many ≤ 8) (hk : k ≤ 100) (hF : ∀ j, j < many → byt x j = F (k + j)) (hbase : base ≤ w.heap.size)
    (hv : w.ownsRow base 5 1 v k (cellsOf k F)) :
    Calls Try.prog 21 #[v, .int .u64 x, .int .i64 many] w fun e w' => ∃ v', e = .returned v' ∧ w'.ownsRow base 5 1 v' (k + many) (cellsOf (k + many) F) ∧ Below base w w' := by
  have HF := Lib.hid hF
  have HV := Lib.hid hv
  have HA := Lib.hid hbase
  clear hF hv hbase
  go_enter Try.func21, Try.ntmps21
  go_wp2
  go_loopw [0, 1, 7] (fun b n i wr => ∃ j : Nat, j ≤ many ∧ i = .int .i64 j ∧ n = .int .u64 (x / 256 ^ j) ∧ Below base w wr ∧ wr.ownsRow base 5 1 b (k + j) (cellsOf (k + j) F)) (fun _ _ i _ => many - (intOf i).toNat)
  case atStart => exact ⟨0, Nat.zero_le _, rfl, by simp, Below.refl _ _, HV.out⟩
  case round =>
    rename_i wr
    obtain ⟨j, hj, rfl, rfl, hbl, hown⟩ := hrel
    have HB := Lib.hid hbl
    have HO := Lib.hid hown
    clear hbl hown HV
    obtain ⟨y0, y1⟩ := quot_in x0 x1 j
    have HD := Lib.hid (byt_next x j)
    have HY : Hid (x / 256 ^ j % 256 = byt x j) := rfl
    generalize x / 256 ^ j = y at *
    by_cases hlt : j < many
    · have HE := Lib.hid (HF.out j hlt)
      go_wp2_with (at_builtin; refine wpList_append_more rfl (.tmp 13) (.tmp 17) rfl base (k + j) F _ (some ⟨wr.heap.size, 0, none⟩) 1 1 (fun _ => y % 256) rfl (HO.out.alloc _) (by have := HB.out.size; have := HA.out; simp; omega) rfl (one_new wr (y % 256)) (by simp) (by omega) ?_; intro v' w' o1 b1)
      have O1 := Lib.hid (own_one o1 (HY.out.trans HE.out))
      have B1 : Hid (Below base w w') := (HB.out.alloc (by have := HB.out.size; have := HA.out; omega) _).trans b1
      clear o1 b1
      go_wp2
      go_roundw
      case rel => exact ⟨j + 1, by omega, by go_num, congrArg _ HD.out, B1.out, O1.out⟩
      case measure => simp [intOf]; omega
    · obtain rfl : j = many := by omega
      go_wp2
      go_ret
      exact ⟨_, rfl, HO.out, HB.out⟩

theorem app4 (v : Value) (k base : Nat) (F : Nat → Int) (x : Int) (w : World) (x0 : 0 ≤ x) (x1 : x < 18446744073709551616) (hk : k ≤ 100) (hF : ∀ j, j < 4 → byt x j = F (k + j)) (hbase : base ≤ w.heap.size)
    (hv : w.ownsRow base 5 1 v k (cellsOf k F)) :
    Calls Try.prog 19 #[v, .int .u64 x, .int .i64 4] w fun e w' => ∃ v', e = .returned v' ∧ w'.ownsRow base 5 1 v' (k + 4) (cellsOf (k + 4) F) ∧ Below base w w' :=
  appendC v k 4 base F x w x0 x1 (by omega) hk hF hbase hv

theorem app8 (v : Value) (k base : Nat) (F : Nat → Int) (x : Int) (w : World) (x0 : 0 ≤ x) (x1 : x < 18446744073709551616) (hk : k ≤ 100) (hF : ∀ j, j < 8 → byt x j = F (k + j)) (hbase : base ≤ w.heap.size)
    (hv : w.ownsRow base 5 1 v k (cellsOf k F)) :
    Calls Try.prog 19 #[v, .int .u64 x, .int .i64 8] w fun e w' => ∃ v', e = .returned v' ∧ w'.ownsRow base 5 1 v' (k + 8) (cellsOf (k + 8) F) ∧ Below base w w' :=
  appendC v k 8 base F x w x0 x1 (by omega) hk hF hbase hv

theorem lay4 (v : Value) (k base : Nat) (F : Nat → Int) (x : Int) (w : World) (x0 : 0 ≤ x) (x1 : x < 18446744073709551616) (hk : k ≤ 100) (hF : ∀ j, j < 4 → byt x j = F (k + j)) (hbase : base ≤ w.heap.size)
    (hv : w.ownsRow base 5 1 v k (cellsOf k F)) :
    Calls Try.prog 21 #[v, .int .u64 x, .int .i64 4] w fun e w' => ∃ v', e = .returned v' ∧ w'.ownsRow base 5 1 v' (k + 4) (cellsOf (k + 4) F) ∧ Below base w w' :=
  layC v k 4 base F x w x0 x1 (by omega) hk hF hbase hv

theorem lay8 (v : Value) (k base : Nat) (F : Nat → Int) (x : Int) (w : World) (x0 : 0 ≤ x) (x1 : x < 18446744073709551616) (hk : k ≤ 100) (hF : ∀ j, j < 8 → byt x j = F (k + j)) (hbase : base ≤ w.heap.size)
    (hv : w.ownsRow base 5 1 v k (cellsOf k F)) :
    Calls Try.prog 21 #[v, .int .u64 x, .int .i64 8] w fun e w' => ∃ v', e = .returned v' ∧ w'.ownsRow base 5 1 v' (k + 8) (cellsOf (k + 8) F) ∧ Below base w w' :=
  layC v k 8 base F x w x0 x1 (by omega) hk hF hbase hv

end Go.Proofs.Ytohkgfmimpockaa.Msg
