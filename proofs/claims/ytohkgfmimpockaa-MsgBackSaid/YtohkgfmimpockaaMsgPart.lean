/- Contracts of msg's small functions and the reference's: Sum, number, appendNumber, engageByte, mayCommand; lay, read. Conditions: bytes are from 0 to 255. -/
import Derived.Test.YtohkgfmimpockaaMsgNum
import Derived.Lib.EndianBits
namespace Go.Proofs.Ytohkgfmimpockaa.Msg
open Go.ChangeShapes Go.WideShapes Go.ChangeAt Go.RowKit Num By

theorem okc_yes {c : Int} (h1 : -1099511627776 ≤ c) (h2 : c ≤ 1099511627776) : okc c = true := decide_eq_true ⟨h1, h2⟩
theorem okc_no {c : Int} (h : c < -1099511627776 ∨ 1099511627776 < c) : okc c = false := decide_eq_false (by omega)

theorem mayCommand (c : Int) (w : World) :
    Calls Try.prog 25 #[.int .i64 c] w fun e w' => e = .returned (.bool (okc c)) ∧ w = w' := by
  by_cases h1 : -1099511627776 ≤ c
  · by_cases h2 : c ≤ 1099511627776
    · have H := Lib.hid (okc_yes h1 h2)
      go_enter Try.func25, Try.ntmps25
      go_wp2
      go_ret
      exact ⟨ret_bool H.out, rfl⟩
    · have H := Lib.hid (okc_no (c := c) (by omega))
      go_enter Try.func25, Try.ntmps25
      go_wp2
      go_ret
      exact ⟨ret_bool H.out, rfl⟩
  · have H := Lib.hid (okc_no (c := c) (by omega))
    go_enter Try.func25, Try.ntmps25
    go_wp2
    go_ret
    exact ⟨ret_bool H.out, rfl⟩

theorem rMayC (c : Int) (w : World) :
    Calls Try.prog 26 #[.int .i64 c] w fun e w' => e = .returned (.bool (okc c)) ∧ w = w' := by
  by_cases h1 : -1099511627776 ≤ c
  · by_cases h2 : c ≤ 1099511627776
    · have H := Lib.hid (okc_yes h1 h2)
      go_enter Try.func26, Try.ntmps26
      go_wp2
      go_ret
      exact ⟨ret_bool H.out, rfl⟩
    · have H := Lib.hid (okc_no (c := c) (by omega))
      go_enter Try.func26, Try.ntmps26
      go_wp2
      go_ret
      exact ⟨ret_bool H.out, rfl⟩
  · have H := Lib.hid (okc_no (c := c) (by omega))
    go_enter Try.func26, Try.ntmps26
    go_wp2
    go_ret
    exact ⟨ret_bool H.out, rfl⟩

def engI (b : Bool) : Int := if b = true then 1 else 0
theorem engageByte (b : Bool) (w : World) :
    Calls Try.prog 20 #[.bool b] w fun e w' => e = .returned (.int .u8 (engI b)) ∧ w = w' := by
  cases b
  all_goals
    go_enter Try.func20, Try.ntmps20
    go_wp2
    go_ret
    exact ⟨rfl, rfl⟩

set_option maxHeartbeats 1000000 in
theorem sumC (A : Option Addr) (n c : Nat) (L : Nat → Int) (w : World) (hn : n ≤ 140737488355328) (hL : Byte L) (hP : Bys w w.heap.size A n L) :
    Calls Try.prog 14 #[.slice A n c] w fun e w' => e = .returned (.int .u32 (sum n L)) ∧ w = w' := by
  have HL := Lib.hid hL
  have HP := Lib.hid hP
  clear hL hP
  go_enter Try.func14, Try.ntmps14
  go_wp2
  go_loop [3, 8] (fun s i => ∃ k : Nat, k ≤ n ∧ i = .int .i64 k ∧ s = .int .u32 (sum k L)) (fun _ i => n - (intOf i).toNat)
  case atStart => exact ⟨0, Nat.zero_le _, rfl, rfl⟩
  case round =>
    obtain ⟨k, hk, rfl, rfl⟩ := hrel
    have hs := sum_in k L
    obtain ⟨s0, s1⟩ := hs
    by_cases hlt : k < n
    · obtain ⟨b, off, rfl, hb, hc⟩ := HP.out (by omega)
      have ck := hc k hlt
      have HS := Lib.hid (sum_next k L)
      obtain ⟨l0, l1⟩ := HL.out k
      clear hc
      generalize sum k L = S at *
      go_wp2
      go_round
      case rel => exact ⟨k + 1, by omega, by go_num, congrArg _ HS.out⟩
      case measure => simp [intOf]; omega
    · obtain rfl : k = n := by omega
      go_wp2
      go_ret
      exact ⟨rfl, rfl⟩

set_option maxHeartbeats 1000000 in
theorem rSumC (A : Option Addr) (n c : Nat) (L : Nat → Int) (w : World) (hn : n ≤ 140737488355328) (hL : Byte L) (hP : Bys w w.heap.size A n L) :
    Calls Try.prog 15 #[.slice A n c] w fun e w' => e = .returned (.int .u32 (sum n L)) ∧ w = w' := by
  have HL := Lib.hid hL
  have HP := Lib.hid hP
  clear hL hP
  go_enter Try.func15, Try.ntmps15
  go_wp2
  go_loop [3, 4] (fun s i => ∃ k : Nat, k ≤ n ∧ i = .int .i64 k ∧ s = .int .u32 (sum k L)) (fun _ i => n - (intOf i).toNat)
  case atStart => exact ⟨0, Nat.zero_le _, rfl, rfl⟩
  case round =>
    obtain ⟨k, hk, rfl, rfl⟩ := hrel
    have hs := sum_in k L
    obtain ⟨s0, s1⟩ := hs
    by_cases hlt : k < n
    · obtain ⟨b, off, rfl, hb, hc⟩ := HP.out (by omega)
      have ck := hc k hlt
      have HS := Lib.hid (sum_next k L)
      obtain ⟨l0, l1⟩ := HL.out k
      clear hc
      generalize sum k L = S at *
      go_wp2
      go_round
      case rel => exact ⟨k + 1, by omega, by go_num, congrArg _ HS.out⟩
      case measure => simp [intOf]; omega
    · obtain rfl : k = n := by omega
      go_wp2
      go_ret
      exact ⟨rfl, rfl⟩

theorem pow7 (k : Nat) (hk : k < 8) : (256 : Int) ^ k ≤ 72057594037927936 := by
  match k, hk with
  | 0, _ => decide
  | 1, _ => decide
  | 2, _ => decide
  | 3, _ => decide
  | 4, _ => decide
  | 5, _ => decide
  | 6, _ => decide
  | 7, _ => decide
theorem num_next (k : Nat) (hk : k < 8) {L : Nat → Int} (hL : Byte L) : 0 ≤ num k L ∧ num k L < 72057594037927936 := by
  have b := num_in hL k
  have : (256 : Int) ^ k ≤ 72057594037927936 := pow7 k hk
  omega

theorem or_num (k : Nat) (hk : k < 8) {L : Nat → Int} (hL : Byte L) : bits .or .u64 (num k L) (IntKind.u64.wrap (L k * 2 ^ (8 * k))) = num (k + 1) L := by
  have b := num_in hL k
  have l := hL k
  have e : (2 : Int) ^ (8 * k) = 256 ^ k := by rw [Int.pow_mul]; rfl
  have p := pow_pos k
  have q0 : 0 ≤ L k * 256 ^ k := Int.mul_nonneg l.1 (Int.le_of_lt p)
  have q1 : L k * 256 ^ k ≤ 255 * 256 ^ k := Int.mul_le_mul_of_nonneg_right (by omega) (Int.le_of_lt p)
  have q2 := (num_next k hk hL)
  have q3 : (256 : Int) ^ k ≤ 72057594037927936 := pow7 k hk
  have q4 : L k * 256 ^ k < 18446744073709551616 := by omega
  have q5 : num k L < 18446744073709551616 := by omega
  rw [e, wraps_u64 _ q0 q4]
  exact bits_join_low .u64 64 (by decide) wraps_u64 (8 * k) (num k L) (L k * 256 ^ k) b.1 (by rw [e]; exact b.2) q5 q0 (by rw [e]; exact Int.mul_emod_left ..) q4

set_option maxHeartbeats 1000000 in
theorem numberC (A : Option Addr) (n c : Nat) (L : Nat → Int) (w : World) (hn : n ≤ 8) (hL : Byte L) (hP : Bys w w.heap.size A n L) :
    Calls Try.prog 22 #[.slice A n c] w fun e w' => e = .returned (.int .u64 (num n L)) ∧ w = w' := by
  have HL := Lib.hid hL
  have HP := Lib.hid hP
  clear hL hP
  go_enter Try.func22, Try.ntmps22
  go_wp2
  go_loop [3, 8] (fun s i => ∃ k : Nat, k ≤ n ∧ i = .int .i64 k ∧ s = .int .u64 (num k L)) (fun _ i => n - (intOf i).toNat)
  case atStart => exact ⟨0, Nat.zero_le _, rfl, rfl⟩
  case round =>
    obtain ⟨k, hk, rfl, rfl⟩ := hrel
    by_cases hlt : k < n
    · obtain ⟨s0, s1⟩ := num_next k (by omega) HL.out
      obtain ⟨b, off, rfl, hb, hc⟩ := HP.out (by omega)
      have ck := hc k hlt
      obtain ⟨l0, l1⟩ := HL.out k
      have HS := Lib.hid (or_num k (by omega) HL.out)
      clear hc
      generalize num k L = S at *
      go_wp2
      go_round
      case rel => exact ⟨k + 1, by omega, by go_num, congrArg _ HS.out⟩
      case measure => simp [intOf]; omega
    · obtain rfl : k = n := by omega
      go_wp2
      go_ret
      exact ⟨rfl, rfl⟩

/-- How the reference reads: from the highest byte on. -/
def hor (s : Nat) (L : Nat → Int) : Nat → Int
  | 0 => 0
  | k + 1 => 256 * hor s L k + L (s - 1 - k)
theorem hor_in {L : Nat → Int} (hL : Byte L) (s k : Nat) : 0 ≤ hor s L k ∧ hor s L k < 256 ^ k := by
  induction k with
  | zero => simp [hor]
  | succ k ih =>
    have h := hL (s - 1 - k)
    have e : (256 : Int) ^ (k + 1) = 256 ^ k * 256 := Int.pow_succ ..
    unfold hor
    omega
theorem hor_next {L : Nat → Int} (hL : Byte L) (s k : Nat) (hk : k < 8) : 0 ≤ hor s L k ∧ hor s L k < 72057594037927936 := by
  have b := hor_in hL s k
  have : (256 : Int) ^ k ≤ 72057594037927936 := pow7 k hk
  omega
theorem hor_num (s : Nat) (L : Nat → Int) (hs : s = 4 ∨ s = 8) : hor s L s = num s L := by
  rcases hs with rfl | rfl
  · simp [hor, num]; omega
  · simp [hor, num]; omega

set_option maxHeartbeats 1000000 in
theorem rReadC (A : Option Addr) (n c at_ s : Nat) (L : Nat → Int) (w : World) (hs : s = 4 ∨ s = 8) (hn : at_ + s ≤ n) (hb : n ≤ 1000) (hL : Byte L) (hP : Bys w w.heap.size A n L) :
    Calls Try.prog 24 #[.slice A n c, .int .i64 at_, .int .i64 s] w fun e w' => e = .returned (.int .u64 (num s fun i => L (at_ + i))) ∧ w = w' := by
  have HH := Lib.hid (hor_num s (fun i => L (at_ + i)) hs)
  have HL := Lib.hid hL
  have HP := Lib.hid hP
  have h8 : s ≤ 8 := by omega
  have h1 : 1 ≤ s := by omega
  clear hL hP hs
  go_enter Try.func24, Try.ntmps24
  go_wp2
  go_loop [7, 8] (fun x i => ∃ k : Nat, k ≤ s ∧ i = .int .i64 ((s : Int) - 1 - k) ∧ x = .int .u64 (hor s (fun i => L (at_ + i)) k)) (fun _ i => (intOf i + 1).toNat)
  case atStart => exact ⟨0, Nat.zero_le _, by simp, rfl⟩
  case round =>
    obtain ⟨k, hk, rfl, rfl⟩ := hrel
    by_cases hlt : k < s
    · obtain ⟨s0, s1⟩ := hor_next (L := fun i => L (at_ + i)) (off_byte HL.out at_) s k (by omega)
      obtain ⟨b, off, rfl, hb, hc⟩ := HP.out (by omega)
      have ck := hc (at_ + (s - 1 - k)) (by omega)
      obtain ⟨l0, l1⟩ := HL.out (at_ + (s - 1 - k))
      have HS : Hid (hor s (fun i => L (at_ + i)) (k + 1) = 256 * hor s (fun i => L (at_ + i)) k + L (at_ + (s - 1 - k))) := rfl
      replace HS := Lib.hid HS.out.symm
      have ei : ((at_ : Int) + ((s : Int) - 1 - k)).toNat = at_ + (s - 1 - k) := by omega
      clear hc
      generalize hor s (fun i => L (at_ + i)) k = S at *
      go_wp2
      go_round
      case rel => exact ⟨k + 1, by omega, by go_num, congrArg _ HS.out⟩
      case measure => simp [intOf]; omega
    · obtain rfl : k = s := by omega
      go_wp2
      go_ret
      exact ⟨ret_int HH.out.symm, rfl⟩

end Go.Proofs.Ytohkgfmimpockaa.Msg
