/- Contracts of layer 6's functions of numbers and of digits, and of the reference's: each returns what the plain functions of the text FieldNum tell. Conditions: data are from 0 to 2^32 - 1. -/
import Derived.Test.YtjkfpnplocmhiaaFieldNum
namespace Go.Proofs.Ytjkfpnplocmhiaa.Field
open Go.ChangeShapes Go.WideShapes Go.ChangeAt Go.RowKit Num Word

set_option maxHeartbeats 400000 in
theorem putNumber (n : Int) (w : World) :
    Calls Try.prog 27 #[.int .i64 n] w fun e w' => e = .returned (.tuple #[.int .u32 (pnN n), .int .i64 (pnE n)]) ∧ w = w' := by
  by_cases h : -262144 ≤ n ∧ n < 262144
  · have H := Lib.hid (pn_yes h)
    obtain ⟨h1, h2⟩ := h
    go_enter Try.func27, Try.ntmps27
    go_wp2
    go_ret2
    exact ⟨ret_two H.out.1 H.out.2, rfl⟩
  · have H := Lib.hid (pn_no h)
    go_enter Try.func27, Try.ntmps27
    go_wp2
    all_goals first | omega | skip
    all_goals
      go_ret2
      exact ⟨ret_two H.out.1 H.out.2, rfl⟩

set_option maxHeartbeats 400000 in
theorem rPutNumber (n : Int) (w : World) :
    Calls Try.prog 29 #[.int .i64 n] w fun e w' => e = .returned (.tuple #[.int .u32 (pnN n), .int .i64 (pnE n)]) ∧ w = w' := by
  by_cases h : -262144 ≤ n ∧ n < 262144
  · have H := Lib.hid (pn_yes h)
    obtain ⟨h1, h2⟩ := h
    by_cases h0 : n < 0
    · go_enter Try.func29, Try.ntmps29
      go_wp2
      go_ret2
      exact ⟨ret_two (H.out.1.trans (by omega)) H.out.2, rfl⟩
    · go_enter Try.func29, Try.ntmps29
      go_wp2
      go_ret2
      exact ⟨ret_two (H.out.1.trans (by omega)) H.out.2, rfl⟩
  · have H := Lib.hid (pn_no h)
    go_enter Try.func29, Try.ntmps29
    go_wp2
    all_goals first | omega | skip
    all_goals
      go_ret2
      exact ⟨ret_two H.out.1 H.out.2, rfl⟩

theorem nm_1 {d : Int} (h : d < 262144) : nmN d = d ∧ nmE d = 0 := by unfold nmN nmE; rw [if_pos h, if_pos (by omega)]; exact ⟨rfl, rfl⟩
theorem nm_2 {d : Int} (h : ¬ d < 262144) (g : d < 524288) : nmN d = d - 524288 ∧ nmE d = 0 := by unfold nmN nmE; rw [if_neg h, if_pos g, if_pos g]; exact ⟨rfl, rfl⟩

set_option maxHeartbeats 400000 in
theorem number (d : Int) (h0 : 0 ≤ d) (h1 : d < 4294967296) (w : World) :
    Calls Try.prog 37 #[.int .u32 d] w fun e w' => e = .returned (.tuple #[.int .i64 (nmN d), .int .i64 (nmE d)]) ∧ w = w' := by
  go_enter Try.func37, Try.ntmps37
  go_wp2
  all_goals
    go_ret2
    first | (have H := nm_1 (d := d) (by omega); exact ⟨ret_two H.1 H.2, rfl⟩) | (have H := nm_2 (d := d) (by omega) (by omega); exact ⟨ret_two (H.1.trans (by omega)) H.2, rfl⟩) | (have H := nm_no (d := d) (by omega); exact ⟨ret_two H.1 H.2, rfl⟩)

set_option maxHeartbeats 400000 in
theorem rNumber (d : Int) (h0 : 0 ≤ d) (h1 : d < 4294967296) (w : World) :
    Calls Try.prog 19 #[.int .u32 d] w fun e w' => e = .returned (.tuple #[.int .i64 (nmN d), .int .i64 (nmE d)]) ∧ w = w' := by
  go_enter Try.func19, Try.ntmps19
  go_wp2
  all_goals
    go_ret2
    first | (have H := nm_1 (d := d) (by omega); exact ⟨ret_two H.1 H.2, rfl⟩) | (have H := nm_2 (d := d) (by omega) (by omega); exact ⟨ret_two (H.1.trans (by omega)) H.2, rfl⟩) | (have H := nm_no (d := d) (by omega); exact ⟨ret_two H.1 H.2, rfl⟩)

theorem join (j : Nat) (a b : Int) (a0 : 0 ≤ a) (a1 : a < 2 ^ j) (b0 : 0 ≤ b) (b1 : b < 4294967296) (hd : b % 2 ^ j = 0) (a2 : a < 4294967296) : bits .or .u32 a b = a + b :=
  bits_join_low .u32 32 (by decide) wraps_u32 j a b a0 a1 (by omega) b0 hd (by omega)

/-- How far PutDigits has come: what is left of the number, where the next digit goes, the data. -/
def PD (n : Int) (x a y : Value) : Prop :=
  (x = .int .i64 n ∧ a = .int .i64 0 ∧ y = .int .u32 0) ∨
  (x = .int .i64 (n / 10) ∧ a = .int .i64 4 ∧ y = .int .u32 (n % 10)) ∨
  (x = .int .i64 (n / 100) ∧ a = .int .i64 8 ∧ y = .int .u32 (n % 10 + n / 10 % 10 * 16)) ∨
  (x = .int .i64 (n / 1000) ∧ a = .int .i64 12 ∧ y = .int .u32 (n % 10 + n / 10 % 10 * 16 + n / 100 % 10 * 256)) ∨
  (x = .int .i64 (n / 10000) ∧ a = .int .i64 16 ∧ y = .int .u32 (n % 10 + n / 10 % 10 * 16 + n / 100 % 10 * 256 + n / 1000 % 10 * 4096)) ∨
  (x = .int .i64 0 ∧ a = .int .i64 20 ∧ y = .int .u32 (pd5 n))

/-- How far the reference's PutDigits has come. -/
def RPD (n : Int) (x y b i : Value) : Prop :=
  (x = .int .i64 (n) ∧ y = .int .u32 (0) ∧ b = .int .u32 1 ∧ i = .int .i64 0) ∨
  (x = .int .i64 (n / 10) ∧ y = .int .u32 (n % 10) ∧ b = .int .u32 16 ∧ i = .int .i64 1) ∨
  (x = .int .i64 (n / 100) ∧ y = .int .u32 (n % 10 + n / 10 % 10 * 16) ∧ b = .int .u32 256 ∧ i = .int .i64 2) ∨
  (x = .int .i64 (n / 1000) ∧ y = .int .u32 (n % 10 + n / 10 % 10 * 16 + n / 100 % 10 * 256) ∧ b = .int .u32 4096 ∧ i = .int .i64 3) ∨
  (x = .int .i64 (n / 10000) ∧ y = .int .u32 (n % 10 + n / 10 % 10 * 16 + n / 100 % 10 * 256 + n / 1000 % 10 * 4096) ∧ b = .int .u32 65536 ∧ i = .int .i64 4) ∨
  (x = .int .i64 (0) ∧ y = .int .u32 (pd5 n) ∧ b = .int .u32 1048576 ∧ i = .int .i64 5)

/-- How far Digits has come: what is left of the data, the number, the next digit's worth. -/
def DG (d : Int) (x n o : Value) : Prop :=
  (x = .int .u32 (d) ∧ n = .int .i64 (0) ∧ o = .int .i64 1) ∨
  (x = .int .u32 (d / 16) ∧ n = .int .i64 (d % 16) ∧ o = .int .i64 10 ∧ d % 16 ≤ 9) ∨
  (x = .int .u32 (d / 256) ∧ n = .int .i64 (d % 16 + d / 16 % 16 * 10) ∧ o = .int .i64 100 ∧ d % 16 ≤ 9 ∧ d / 16 % 16 ≤ 9) ∨
  (x = .int .u32 (d / 4096) ∧ n = .int .i64 (d % 16 + d / 16 % 16 * 10 + d / 256 % 16 * 100) ∧ o = .int .i64 1000 ∧ d % 16 ≤ 9 ∧ d / 16 % 16 ≤ 9 ∧ d / 256 % 16 ≤ 9) ∨
  (x = .int .u32 (d / 65536) ∧ n = .int .i64 (d % 16 + d / 16 % 16 * 10 + d / 256 % 16 * 100 + d / 4096 % 16 * 1000) ∧ o = .int .i64 10000 ∧ d % 16 ≤ 9 ∧ d / 16 % 16 ≤ 9 ∧ d / 256 % 16 ≤ 9 ∧ d / 4096 % 16 ≤ 9) ∨
  (x = .int .u32 (0) ∧ n = .int .i64 (dg5 d) ∧ o = .int .i64 100000 ∧ d % 16 ≤ 9 ∧ d / 16 % 16 ≤ 9 ∧ d / 256 % 16 ≤ 9 ∧ d / 4096 % 16 ≤ 9)

/-- How far the reference's Digits has come. -/
def RDG (d : Int) (x n o i : Value) : Prop :=
  (x = .int .u32 (d) ∧ n = .int .i64 (0) ∧ o = .int .i64 1 ∧ i = .int .i64 0) ∨
  (x = .int .u32 (d / 16) ∧ n = .int .i64 (d % 16) ∧ o = .int .i64 10 ∧ i = .int .i64 1 ∧ d % 16 ≤ 9) ∨
  (x = .int .u32 (d / 256) ∧ n = .int .i64 (d % 16 + d / 16 % 16 * 10) ∧ o = .int .i64 100 ∧ i = .int .i64 2 ∧ d % 16 ≤ 9 ∧ d / 16 % 16 ≤ 9) ∨
  (x = .int .u32 (d / 4096) ∧ n = .int .i64 (d % 16 + d / 16 % 16 * 10 + d / 256 % 16 * 100) ∧ o = .int .i64 1000 ∧ i = .int .i64 3 ∧ d % 16 ≤ 9 ∧ d / 16 % 16 ≤ 9 ∧ d / 256 % 16 ≤ 9) ∨
  (x = .int .u32 (d / 65536) ∧ n = .int .i64 (d % 16 + d / 16 % 16 * 10 + d / 256 % 16 * 100 + d / 4096 % 16 * 1000) ∧ o = .int .i64 10000 ∧ i = .int .i64 4 ∧ d % 16 ≤ 9 ∧ d / 16 % 16 ≤ 9 ∧ d / 256 % 16 ≤ 9 ∧ d / 4096 % 16 ≤ 9) ∨
  (x = .int .u32 (0) ∧ n = .int .i64 (dg5 d) ∧ o = .int .i64 100000 ∧ i = .int .i64 5 ∧ d % 16 ≤ 9 ∧ d / 16 % 16 ≤ 9 ∧ d / 256 % 16 ≤ 9 ∧ d / 4096 % 16 ≤ 9)

end Go.Proofs.Ytjkfpnplocmhiaa.Field
