/- Contracts of layer 5's small functions (word.Turn, word.Odd, bits.OnesCount32) and of the reference's (Turn, Odd): each returns what the plain functions of the text WordNum tell. Conditions: bytes are from 0 to 255, words from 0 to 2^32 - 1. -/
import Derived.Test.YtjkfpnplocmhiaaWordNum
import Derived.BigQuiet
import Derived.Deep.QuietTactic
namespace Go.Proofs.Ytjkfpnplocmhiaa.Word
open Go.ChangeShapes Go.WideShapes Go.ChangeAt Go.RowKit Num

theorem turn (b : Int) (h0 : 0 ≤ b) (h1 : b < 256) (w : World) :
    Calls Try.prog 45 #[.int .u8 b] w fun e w' => e = .returned (.int .u8 (tn b)) ∧ w = w' := by
  go_enter Try.func45, Try.ntmps45
  go_wp2
  go_ret
  exact ⟨ret_int (t_eq b h0 h1).symm, rfl⟩

/-- The reference's turn, round by round. -/
def rt : Nat → Int → Int
  | 0, _ => 0
  | k + 1, b => (2 * rt k b + b / 2 ^ k % 2) % 256
theorem rt_in (k : Nat) (b : Int) : 0 ≤ rt k b ∧ rt k b < 256 := by cases k <;> simp only [rt] <;> omega
theorem rt_fin : ∀ n : Fin 256, rt 8 (n.val : Int) = tn (n.val : Int) := by decide +kernel
theorem rt_eq (b : Int) (h0 : 0 ≤ b) (h1 : b < 256) : rt 8 b = tn b := of_fin (f := rt 8) (g := tn) rt_fin b h0 h1

set_option maxHeartbeats 400000 in
theorem rTurn (b : Int) (h0 : 0 ≤ b) (h1 : b < 256) (w : World) :
    Calls Try.prog 33 #[.int .u8 b] w fun e w' => e = .returned (.int .u8 (tn b)) ∧ w = w' := by
  go_enter Try.func33, Try.ntmps33
  go_wp2
  go_loop [3, 4] (fun n i => ∃ k : Nat, k ≤ 8 ∧ i = .int .i64 k ∧ n = .int .u8 (rt k b)) (fun _ i => 8 - (intOf i).toNat)
  case atStart => exact ⟨0, Nat.zero_le _, rfl, rfl⟩
  case round =>
    obtain ⟨k, hk, rfl, rfl⟩ := hrel
    by_cases hlt : k < 8
    · go_wp2
      go_round
      case rel => exact ⟨k + 1, by omega, by go_num, congrArg (Value.int .u8) (by simp only [rt]; omega)⟩
      case measure => simp [intOf]; omega
    · obtain rfl : k = 8 := by omega
      go_wp2
      go_ret
      exact ⟨ret_int (rt_eq b h0 h1).symm, rfl⟩

theorem last_int (x : Int) (k : Nat) (h0 : 0 ≤ x) (a : Nat) : (a : Int) + x / 2 ^ k % 2 = ((a + x.toNat / 2 ^ k % 2 : Nat) : Int) := by
  obtain ⟨n, rfl⟩ := Int.eq_ofNat_of_zero_le h0
  simp
theorem odd_int (n : Nat) : ((n % 2 == 1) : Bool) = ((n : Int) % 2 == 1) := by
  rw [Bool.eq_iff_iff]; simp; omega
set_option maxHeartbeats 400000 in
theorem rOdd (x : Int) (h0 : 0 ≤ x) (w : World) :
    Calls Try.prog 32 #[.int .u32 x] w fun e w' => e = .returned (.bool (oddB x)) ∧ w = w' := by
  go_enter Try.func32, Try.ntmps32
  go_wp2
  go_loop [3, 4] (fun n i => ∃ k : Nat, k ≤ 32 ∧ i = .int .i64 k ∧ n = .int .i64 (ones k x.toNat)) (fun _ i => 32 - (intOf i).toNat)
  case atStart => exact ⟨0, Nat.zero_le _, rfl, rfl⟩
  case round =>
    obtain ⟨k, hk, rfl, rfl⟩ := hrel
    have hl := ones_le k x.toNat
    have hs := Lib.hid (ones_last k x.toNat)
    by_cases hlt : k < 32
    · go_wp2
      go_round
      case rel => exact ⟨k + 1, by omega, by go_num, congrArg (Value.int .i64) (by rw [hs.out]; exact last_int x k h0 _)⟩
      case measure => simp [intOf]; omega
    · obtain rfl : k = 32 := by omega
      go_wp2
      go_ret
      exact ⟨ret_bool (odd_int _), rfl⟩

/-- The library's table of ones, as this program's text spells it. -/
theorem foldPop : ByteArray.mk ((([0, 1, 1, 2, 1, 2, 2, 3, 1, 2, 2, 3, 2, 3, 3, 4, 1, 2, 2, 3, 2, 3, 3, 4, 2, 3, 3, 4, 3, 4, 4, 5, 1, 2, 2, 3, 2, 3, 3, 4, 2, 3, 3, 4, 3, 4, 4, 5, 2, 3, 3, 4, 3, 4, 4, 5, 3, 4, 4, 5, 4, 5, 5, 6] : List UInt8).append [1, 2, 2, 3, 2, 3, 3, 4, 2, 3, 3, 4, 3, 4, 4, 5, 2, 3, 3, 4, 3, 4, 4, 5, 3, 4, 4, 5, 4, 5, 5, 6, 2, 3, 3, 4, 3, 4, 4, 5, 3, 4, 4, 5, 4, 5, 5, 6, 3, 4, 4, 5, 4, 5, 5, 6, 4, 5, 5, 6, 5, 6, 6, 7]).append (List.append ([1, 2, 2, 3, 2, 3, 3, 4, 2, 3, 3, 4, 3, 4, 4, 5, 2, 3, 3, 4, 3, 4, 4, 5, 3, 4, 4, 5, 4, 5, 5, 6, 2, 3, 3, 4, 3, 4, 4, 5, 3, 4, 4, 5, 4, 5, 5, 6, 3, 4, 4, 5, 4, 5, 5, 6, 4, 5, 5, 6, 5, 6, 6, 7] : List UInt8) [2, 3, 3, 4, 3, 4, 4, 5, 3, 4, 4, 5, 4, 5, 5, 6, 3, 4, 4, 5, 4, 5, 5, 6, 4, 5, 5, 6, 5, 6, 6, 7, 3, 4, 4, 5, 4, 5, 5, 6, 4, 5, 5, 6, 5, 6, 6, 7, 4, 5, 5, 6, 5, 6, 6, 7, 5, 6, 6, 7, 6, 7, 7, 8])).toArray = Lib.pop8tab := by kernel_rfl
set_option maxHeartbeats 800000 in
theorem count (x : Int) (h0 : 0 ≤ x) (h1 : x < 4294967296) (w : World) :
    Calls Try.prog 50 #[.int .u32 x] w fun e w' => e = .returned (.int .i64 (ones 32 x.toNat)) ∧ ∃ n, w' = w.drewN n := by
  have hb := Lib.hid (ones_bytes x h0 h1)
  have hl := Lib.hid (ones_le 32 x.toNat)
  go_enter Try.func50, Try.ntmps50
  go_wp2
  simp only [foldPop]
  have i1 : 0 ≤ x / 16777216 := by omega
  have i2 : x / 16777216 ≤ 255 := by omega
  have i3 : 0 ≤ x / 65536 % 256 := by omega
  have i4 : x / 65536 % 256 ≤ 255 := by omega
  have i5 : 0 ≤ x / 256 % 256 := by omega
  have i6 : x / 256 % 256 ≤ 255 := by omega
  have i7 : 0 ≤ x % 256 := by omega
  have i8 : x % 256 ≤ 255 := by omega
  go_quiet (fail)
  go_wp2
  go_ret
  refine ⟨ret_int ?_, _, rfl⟩
  rw [hb.out]
  have := hl.out
  omega

theorem odd (x : Int) (h0 : 0 ≤ x) (h1 : x < 4294967296) (w : World) :
    Calls Try.prog 46 #[.int .u32 x] w fun e w' => e = .returned (.bool (oddB x)) ∧ ∃ n, w' = w.drewN n := by
  have hl := ones_le 32 x.toNat
  go_enter Try.func46, Try.ntmps46
  go_wp2_with fail
  refine (count x h0 h1 _).mono ?_
  rintro e w' ⟨rfl, n, rfl⟩
  go_wp2
  go_ret
  exact ⟨ret_bool (odd_int _), n, rfl⟩

end Go.Proofs.Ytjkfpnplocmhiaa.Word
