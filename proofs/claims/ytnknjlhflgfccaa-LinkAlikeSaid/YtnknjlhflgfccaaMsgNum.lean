/- Plain numbers of layer 12: a number's bytes, the sum of bytes by their places, a message's bytes and the message of bytes; what follows of them. Conditions: none. -/
import Derived.Test.YtnknjlhflgfccaaByt
namespace Go.Proofs.Ytnknjlhflgfccaa.Msg
open Go.ChangeShapes Go.WideShapes Go.ChangeAt Go.RowKit Num By

/-- The number of k bytes, the lowest first; the byte at place j of a number. -/
def num : Nat → (Nat → Int) → Int
  | 0, _ => 0
  | k + 1, L => num k L + L k * 256 ^ k
def byt (n : Int) (j : Nat) : Int := n / 256 ^ j % 256
theorem pow_pos (k : Nat) : (0 : Int) < 256 ^ k := Int.pow_pos (by decide)
theorem num_in {L : Nat → Int} (hL : Byte L) (k : Nat) : 0 ≤ num k L ∧ num k L < 256 ^ k := by
  induction k with
  | zero => simp [num]
  | succ k ih =>
    have h := hL k
    have p := pow_pos k
    have h1 : 0 ≤ L k * 256 ^ k := Int.mul_nonneg h.1 (Int.le_of_lt p)
    have h2 : L k * 256 ^ k ≤ 255 * 256 ^ k := Int.mul_le_mul_of_nonneg_right (by omega) (Int.le_of_lt p)
    have e : (256 : Int) ^ (k + 1) = 256 ^ k * 256 := Int.pow_succ ..
    unfold num
    omega
theorem byt_byte (n : Int) : Byte (byt n) := fun j => by unfold byt; omega
theorem byt_num {L : Nat → Int} (hL : Byte L) : ∀ n j, j < n → byt (num n L) j = L j := by
  intro n
  induction n with
  | zero => intro j h; omega
  | succ n ih =>
    intro j h
    have p := pow_pos j
    rcases Nat.lt_or_ge j n with hj | hj
    · have e : (256 : Int) ^ n = 256 ^ (n - 1 - j) * 256 * 256 ^ j := by
        rw [← Int.pow_succ, ← Int.pow_add]
        congr 1
        omega
      have i := ih j hj
      unfold byt at i ⊢
      unfold num
      rw [e, ← Int.mul_assoc, Int.add_mul_ediv_right _ _ (by omega), ← Int.mul_assoc, Int.add_mul_emod_self_right]
      exact i
    · obtain rfl : j = n := by omega
      have b := num_in hL j
      have l := hL j
      unfold byt num
      rw [Int.add_mul_ediv_right _ _ (by omega), Int.ediv_eq_zero_of_lt b.1 b.2, Int.zero_add]
      exact Int.emod_eq_of_lt l.1 l.2
theorem num_byt {x : Int} (hx : 0 ≤ x) (k : Nat) : num k (byt x) = x % 256 ^ k := by
  obtain ⟨n, rfl⟩ := Int.eq_ofNat_of_zero_le hx
  induction k with
  | zero => simp [num]
  | succ k ih =>
    have h := Nat.mod_pow_succ (x := n) (b := 256) (k := k)
    unfold num
    rw [ih]
    unfold byt
    have h' : ((n : Int) % 256 ^ (k + 1)) = (n : Int) % 256 ^ k + 256 ^ k * ((n : Int) / 256 ^ k % 256) := by
      have := congrArg (fun x : Nat => (x : Int)) h
      simpa using this
    rw [h', Int.mul_comm (256 ^ k)]
theorem num_as {k : Nat} {L M : Nat → Int} (h : ∀ j, j < k → L j = M j) : num k L = num k M := by
  induction k with
  | zero => rfl
  | succ k ih => unfold num; rw [ih fun j hj => h j (by omega), h k (by omega)]
theorem num_same {k : Nat} {L M : Nat → Int} (hL : Byte L) (hM : Byte M) (h : num k L = num k M) (j : Nat) (hj : j < k) : L j = M j := by
  rw [← byt_num hL k j hj, h, byt_num hM k j hj]
/-- What is above the first k bytes. -/
theorem byt_next (n : Int) (j : Nat) : n / 256 ^ j / 256 = n / 256 ^ (j + 1) := by
  rw [Int.pow_succ, Int.ediv_ediv_of_nonneg (Int.le_of_lt (pow_pos j))]

/-- The sum of n bytes, each by its place and 1; without what runs over 32 bits. -/
def sumZ : Nat → (Nat → Int) → Int
  | 0, _ => 0
  | k + 1, L => sumZ k L + L k * ((k : Int) + 1)
def sum (n : Nat) (L : Nat → Int) : Int := sumZ n L % 4294967296
theorem sum_in (n : Nat) (L : Nat → Int) : 0 ≤ sum n L ∧ sum n L < 4294967296 := by unfold sum; omega
theorem sumZ_in {L : Nat → Int} (hL : Byte L) (k : Nat) (hk : k ≤ 36) : 0 ≤ sumZ k L ∧ sumZ k L ≤ 9180 * k := by
  induction k with
  | zero => simp [sumZ]
  | succ k ih =>
    have h := hL k
    have i := ih (by omega)
    have h1 : 0 ≤ L k * ((k : Int) + 1) := Int.mul_nonneg h.1 (by omega)
    have h2 : L k * ((k : Int) + 1) ≤ 255 * 36 := Int.mul_le_mul (by omega) (by omega) (by omega) (by omega)
    unfold sumZ
    omega
theorem sum36 {L : Nat → Int} (hL : Byte L) : sum 36 L = sumZ 36 L := by
  have h := sumZ_in hL 36 (Nat.le_refl _)
  unfold sum
  omega
theorem sumZ_as {k : Nat} {L M : Nat → Int} (h : ∀ j, j < k → L j = M j) : sumZ k L = sumZ k M := by
  induction k with
  | zero => rfl
  | succ k ih => unfold sumZ; rw [ih fun j hj => h j (by omega), h k (by omega)]
theorem sum_as {k : Nat} {L M : Nat → Int} (h : ∀ j, j < k → L j = M j) : sum k L = sum k M := by unfold sum; rw [sumZ_as h]
theorem sum_next (k : Nat) (L : Nat → Int) : (sum k L + L k * (((k : Int) + 1) % 4294967296) % 4294967296) % 4294967296 = sum (k + 1) L := by
  show (sumZ k L % 4294967296 + L k * (((k : Int) + 1) % 4294967296) % 4294967296) % 4294967296 = (sumZ k L + L k * ((k : Int) + 1)) % 4294967296
  have e : L k * (((k : Int) + 1) % 4294967296) % 4294967296 = L k * ((k : Int) + 1) % 4294967296 := by
    rw [Int.mul_emod, Int.emod_emod, ← Int.mul_emod]
  rw [e, Int.emod_add_emod, Int.add_emod_emod]

/-- One byte, another. -/
def upd (L : Nat → Int) (k : Nat) (v : Int) (i : Nat) : Int := if i = k then v else L i
theorem upd_at (L : Nat → Int) (k : Nat) (v : Int) : upd L k v k = v := if_pos rfl
theorem upd_off {L : Nat → Int} {k i : Nat} {v : Int} (h : i ≠ k) : upd L k v i = L i := if_neg h
theorem upd_byte {L : Nat → Int} (hL : Byte L) {k : Nat} {v : Int} (hv : 0 ≤ v ∧ v < 256) : Byte (upd L k v) := by
  intro i
  unfold upd
  split
  · exact hv
  · exact hL i
theorem sumZ_upd (L : Nat → Int) (k : Nat) (v : Int) (n : Nat) (hk : k < n) : sumZ n (upd L k v) = sumZ n L + (v - L k) * ((k : Int) + 1) := by
  induction n with
  | zero => omega
  | succ n ih =>
    unfold sumZ
    rcases Nat.lt_or_ge k n with h | h
    · rw [ih h, upd_off (by omega)]
      omega
    · obtain rfl : k = n := by omega
      rw [upd_at, sumZ_as (M := L) fun j hj => upd_off (by omega), Int.sub_mul]
      omega

/-- A message. -/
structure Ms where
  lane : Int
  frame : Int
  h0 : Int
  h1 : Int
  h2 : Int
  mode : Int
  level : Int
  eng : Bool
  side : Int
  sink : Int
  turn : Int
abbrev mA (m : Ms) : Array Value := #[.int .u8 m.lane, .int .u32 m.frame, .int .u8 m.h0, .int .u8 m.h1, .int .u8 m.h2, .int .u8 m.mode, .int .u8 m.level, .bool m.eng, .int .i64 m.side, .int .i64 m.sink, .int .i64 m.turn]
abbrev m0 : Ms := ⟨0, 0, 0, 0, 0, 0, 0, false, 0, 0, 0⟩
def B8 (a : Int) : Prop := 0 ≤ a ∧ a < 256
/-- Its fields are what their types allow. -/
structure Wf (m : Ms) : Prop where
  lane : B8 m.lane
  frame : 0 ≤ m.frame ∧ m.frame < 4294967296
  h0 : B8 m.h0
  h1 : B8 m.h1
  h2 : B8 m.h2
  mode : B8 m.mode
  level : B8 m.level
  side : In m.side
  sink : In m.sink
  turn : In m.turn

def okc (c : Int) : Bool := decide (-1099511627776 ≤ c ∧ c ≤ 1099511627776)
/-- It may be. -/
def may (m : Ms) : Bool := decide (m.lane < 3 ∧ m.mode ≤ 6 ∧ m.level ≤ 2 ∧ okc m.side = true ∧ okc m.sink = true ∧ okc m.turn = true)

/-- A signed number's 64 bits, and back. -/
def u64 (x : Int) : Int := x % 18446744073709551616
theorem u64_in (x : Int) : 0 ≤ u64 x ∧ u64 x < 18446744073709551616 := by unfold u64; omega
theorem s64_u64 {x : Int} (h : In x) : wrap64 (u64 x) = x := by unfold wrap64 u64; unfold In at h; omega
theorem u64_s64 {x : Int} (h : 0 ≤ x ∧ x < 18446744073709551616) : u64 (wrap64 x) = x := by unfold wrap64 u64; omega
theorem s64_in (x : Int) : In (wrap64 x) := by unfold wrap64 In; omega

/-- The bytes of a message, ahead of the sum; all of them. -/
def b36 (m : Ms) (i : Nat) : Int :=
  if i = 0 then 165 else if i = 1 then m.lane else if i < 6 then byt m.frame (i - 2) else if i = 6 then m.h0 else if i = 7 then m.h1 else if i = 8 then m.h2 else if i = 9 then m.mode else if i = 10 then m.level else
  if i = 11 then (if m.eng then 1 else 0) else if i < 20 then byt (u64 m.side) (i - 12) else if i < 28 then byt (u64 m.sink) (i - 20) else byt (u64 m.turn) (i - 28)
def full (m : Ms) : Nat → Int := catL 36 (b36 m) (byt (sum 36 (b36 m)))
theorem b36_byte {m : Ms} (h : Wf m) : Byte (b36 m) := by
  intro i
  have := h.lane; have := h.h0; have := h.h1; have := h.h2; have := h.mode; have := h.level
  unfold B8 at *
  have k1 := byt_byte m.frame (i - 2); have k2 := byt_byte (u64 m.side) (i - 12); have k3 := byt_byte (u64 m.sink) (i - 20); have k4 := byt_byte (u64 m.turn) (i - 28)
  unfold b36
  repeat (first | omega | split)
theorem full_byte {m : Ms} (h : Wf m) : Byte (full m) := catL_byte (b36_byte h) (byt_byte _)

/-- The message of bytes. -/
def gm (L : Nat → Int) : Ms := ⟨L 1, num 4 fun i => L (2 + i), L 6, L 7, L 8, L 9, L 10, L 11 == 1, wrap64 (num 8 fun i => L (12 + i)), wrap64 (num 8 fun i => L (20 + i)), wrap64 (num 8 fun i => L (28 + i))⟩
/-- Get's error. -/
def gE (n : Nat) (L : Nat → Int) : Int :=
  if n < 40 then 4 else if 40 < n ∨ L 0 ≠ 165 then 5 else if sum 36 L ≠ num 4 (fun i => L (36 + i)) then 11 else if 1 < L 11 ∨ may (gm L) = false then 5 else 0
def gR (n : Nat) (L : Nat → Int) : Ms := if gE n L = 0 then gm L else m0
theorem off_byte {L : Nat → Int} (h : Byte L) (k : Nat) : Byte fun i => L (k + i) := fun _ => h _
theorem gm_wf {L : Nat → Int} (h : Byte L) : Wf (gm L) :=
  ⟨h 1, (num_in (off_byte h 2) 4), h 6, h 7, h 8, h 9, h 10, s64_in _, s64_in _, s64_in _⟩
theorem gE_cases (n : Nat) (L : Nat → Int) : gE n L = 0 ∨ gE n L = 4 ∨ gE n L = 5 ∨ gE n L = 11 := by
  unfold gE; repeat (first | omega | split)
theorem gE_yes {L : Nat → Int} : gE 40 L = 0 ↔ L 0 = 165 ∧ sum 36 L = num 4 (fun i => L (36 + i)) ∧ L 11 ≤ 1 ∧ may (gm L) = true := by
  unfold gE
  constructor
  · intro h
    by_cases h0 : 40 < 40 ∨ L 0 ≠ 165
    · rw [if_neg (by omega), if_pos h0] at h; omega
    by_cases h1 : sum 36 L ≠ num 4 (fun i => L (36 + i))
    · rw [if_neg (by omega), if_neg h0, if_pos h1] at h; omega
    by_cases h2 : 1 < L 11 ∨ may (gm L) = false
    · rw [if_neg (by omega), if_neg h0, if_neg h1, if_pos h2] at h; omega
    · refine ⟨by omega, by omega, by omega, ?_⟩
      cases hm : may (gm L)
      · exact absurd (.inr hm) h2
      · rfl
  · rintro ⟨h0, h1, h2, h3⟩
    rw [if_neg (by omega), if_neg (by omega), if_neg (by omega), if_neg (by rw [h3]; simp; omega)]

theorem full_lo {m : Ms} {i : Nat} (h : i < 36) : full m i = b36 m i := catL_lo h
theorem full_hi (m : Ms) (j : Nat) : full m (36 + j) = byt (sum 36 (b36 m)) j := catL_hi 36 j _ _
theorem full_frame (m : Ms) (j : Nat) (h : j < 4) : byt m.frame j = full m (2 + j) := by
  match j, h with
  | 0, _ => rfl
  | 1, _ => rfl
  | 2, _ => rfl
  | 3, _ => rfl
theorem full_side (m : Ms) (j : Nat) (h : j < 8) : byt (u64 m.side) j = full m (12 + j) := by
  match j, h with
  | 0, _ => rfl
  | 1, _ => rfl
  | 2, _ => rfl
  | 3, _ => rfl
  | 4, _ => rfl
  | 5, _ => rfl
  | 6, _ => rfl
  | 7, _ => rfl
theorem full_sink (m : Ms) (j : Nat) (h : j < 8) : byt (u64 m.sink) j = full m (20 + j) := by
  match j, h with
  | 0, _ => rfl
  | 1, _ => rfl
  | 2, _ => rfl
  | 3, _ => rfl
  | 4, _ => rfl
  | 5, _ => rfl
  | 6, _ => rfl
  | 7, _ => rfl
theorem full_turn (m : Ms) (j : Nat) (h : j < 8) : byt (u64 m.turn) j = full m (28 + j) := by
  match j, h with
  | 0, _ => rfl
  | 1, _ => rfl
  | 2, _ => rfl
  | 3, _ => rfl
  | 4, _ => rfl
  | 5, _ => rfl
  | 6, _ => rfl
  | 7, _ => rfl
theorem num8_u64 {x : Int} (h : In x) {L : Nat → Int} (e : ∀ j, j < 8 → byt (u64 x) j = L j) : wrap64 (num 8 L) = x := by
  have b := u64_in x
  rw [← num_as e, num_byt b.1, Int.emod_eq_of_lt b.1 (by simpa using b.2), s64_u64 h]
theorem gm_full {m : Ms} (h : Wf m) : gm (full m) = m := by
  have hf : (num 4 fun i => full m (2 + i)) = m.frame := by
    rw [← num_as (full_frame m), num_byt h.frame.1, Int.emod_eq_of_lt h.frame.1 (by simpa using h.frame.2)]
  have he : (full m 11 == 1) = m.eng := by
    show ((if m.eng = true then (1 : Int) else 0) == 1) = m.eng
    cases m.eng <;> rfl
  unfold gm
  rw [hf, he, num8_u64 h.side (full_side m), num8_u64 h.sink (full_sink m), num8_u64 h.turn (full_turn m)]
  rfl
theorem full_sum {m : Ms} : sum 36 (full m) = sum 36 (b36 m) := sum_as fun _ hj => full_lo hj
theorem full_tail {m : Ms} : (num 4 fun i => full m (36 + i)) = sum 36 (full m) := by
  have b := sum_in 36 (b36 m)
  rw [num_as (M := byt (sum 36 (b36 m))) fun _ _ => full_hi m _, num_byt b.1, Int.emod_eq_of_lt b.1 (by simpa using b.2), full_sum]
/-- P12.2: what is put is got. -/
theorem put_got {m : Ms} (h : Wf m) (hm : may m = true) : gE 40 (full m) = 0 := by
  rw [gE_yes, gm_full h, full_tail]
  refine ⟨rfl, rfl, ?_, hm⟩
  show (if m.eng = true then (1 : Int) else 0) ≤ 1
  split <;> omega
theorem byt8_s64 {L : Nat → Int} (hL : Byte L) (j : Nat) (hj : j < 8) : byt (u64 (wrap64 (num 8 L))) j = L j := by
  rw [u64_s64 (by have := num_in hL 8; simpa using this)]
  exact byt_num hL 8 j hj
/-- What is got is put as the same bytes. -/
theorem got_lo {L : Nat → Int} (hL : Byte L) (h : gE 40 L = 0) (i : Nat) (hi : i < 36) : b36 (gm L) i = L i := by
  obtain ⟨h0, h1, h2, h3⟩ := gE_yes.1 h
  have h11 := hL 11
  rcases Nat.lt_or_ge i 12 with g | g
  · match i, g with
    | 0, _ => exact h0.symm
    | 1, _ => rfl
    | 2, _ => exact byt_num (off_byte hL 2) 4 0 (by omega)
    | 3, _ => exact byt_num (off_byte hL 2) 4 1 (by omega)
    | 4, _ => exact byt_num (off_byte hL 2) 4 2 (by omega)
    | 5, _ => exact byt_num (off_byte hL 2) 4 3 (by omega)
    | 6, _ => rfl
    | 7, _ => rfl
    | 8, _ => rfl
    | 9, _ => rfl
    | 10, _ => rfl
    | 11, _ =>
      show (if (L 11 == 1) = true then (1 : Int) else 0) = L 11
      by_cases e : L 11 = 1
      · rw [e]; rfl
      · rw [if_neg (by simpa using e)]; omega
  · rcases Nat.lt_or_ge i 20 with g2 | g2
    · have e := full_side (gm L) (i - 12) (by omega)
      rw [show 12 + (i - 12) = i by omega, full_lo hi] at e
      rw [← e]
      refine (byt8_s64 (off_byte hL 12) (i - 12) (by omega)).trans ?_
      show L (12 + (i - 12)) = L i
      congr 1; omega
    rcases Nat.lt_or_ge i 28 with g3 | g3
    · have e := full_sink (gm L) (i - 20) (by omega)
      rw [show 20 + (i - 20) = i by omega, full_lo hi] at e
      rw [← e]
      refine (byt8_s64 (off_byte hL 20) (i - 20) (by omega)).trans ?_
      show L (20 + (i - 20)) = L i
      congr 1; omega
    · have e := full_turn (gm L) (i - 28) (by omega)
      rw [show 28 + (i - 28) = i by omega, full_lo hi] at e
      rw [← e]
      refine (byt8_s64 (off_byte hL 28) (i - 28) (by omega)).trans ?_
      show L (28 + (i - 28)) = L i
      congr 1; omega
theorem got_put {L : Nat → Int} (hL : Byte L) (h : gE 40 L = 0) (i : Nat) (hi : i < 40) : full (gm L) i = L i := by
  rcases Nat.lt_or_ge i 36 with g | g
  · rw [full_lo g]; exact got_lo hL h i g
  · obtain ⟨_, h1, _, _⟩ := gE_yes.1 h
    have e := full_hi (gm L) (i - 36)
    rw [show 36 + (i - 36) = i by omega, sum_as (fun j hj => got_lo hL h j hj), h1] at e
    rw [e]
    refine (byt_num (off_byte hL 36) 4 (i - 36) (by omega)).trans ?_
    show L (36 + (i - 36)) = L i
    congr 1; omega

/-- What is well has the sum that its last bytes tell. -/
theorem sum_of_got {L : Nat → Int} (hL : Byte L) (h : gE 40 L = 0) : sumZ 36 L = num 4 (fun i => L (36 + i)) := by
  rw [← sum36 hL]; exact (gE_yes.1 h).2.1
/-- P12.2: with one byte changed it is refused. -/
theorem changed_no {L : Nat → Int} (hL : Byte L) (h : gE 40 L = 0) {k : Nat} (hk : k < 40) {v : Int} (hv : 0 ≤ v ∧ v < 256) (ne : v ≠ L k) : gE 40 (upd L k v) ≠ 0 := by
  intro g
  have hU := upd_byte hL (k := k) hv
  have s1 := sum_of_got hL h
  have s2 := sum_of_got hU g
  rcases Nat.lt_or_ge k 36 with hk2 | hk2
  · rw [sumZ_upd L k v 36 hk2, num_as (M := fun i => L (36 + i)) (fun j hj => upd_off (by omega)), ← s1] at s2
    have e : (v - L k) * ((k : Int) + 1) = 0 := by omega
    rcases Int.mul_eq_zero.1 e with e | e <;> omega
  · rw [sumZ_as (M := L) (fun j hj => upd_off (by omega)), s1] at s2
    have e := num_same (off_byte hL 36) (off_byte hU 36) s2 (k - 36) (by omega)
    rw [show 36 + (k - 36) = k by omega, upd_at] at e
    exact ne e.symm
/-- .. with two bytes side by side, and unlike, changed for one another, too. -/
theorem swapped_no {L : Nat → Int} (hL : Byte L) (h : gE 40 L = 0) {k : Nat} (hk : k < 39) (ne : L k ≠ L (k + 1)) : gE 40 (upd (upd L k (L (k + 1))) (k + 1) (L k)) ≠ 0 := by
  intro g
  have hV := upd_byte hL (k := k) (hL (k + 1))
  have hU := upd_byte hV (k := k + 1) (hL k)
  have s1 := sum_of_got hL h
  have s2 := sum_of_got hU g
  have u0 : upd L k (L (k + 1)) (k + 1) = L (k + 1) := upd_off (by omega)
  rcases Nat.lt_or_ge k 35 with hk2 | hk2
  · rw [sumZ_upd _ (k + 1) _ 36 (by omega), sumZ_upd L k _ 36 (by omega), num_as (M := fun i => L (36 + i)) (fun j hj => (upd_off (by omega)).trans (upd_off (by omega))), ← s1, u0] at s2
    have e1 : ((((k + 1 : Nat) : Int)) + 1) = ((k : Int) + 1) + 1 := by omega
    rw [e1, Int.mul_add (L k - L (k + 1)), Int.mul_one, show (L (k + 1) - L k) * ((k : Int) + 1) = -((L k - L (k + 1)) * ((k : Int) + 1)) by rw [← Int.neg_mul]; congr 1; omega] at s2
    omega
  · rcases Nat.lt_or_ge k 36 with hk3 | hk3
    · obtain rfl : k = 35 := by omega
      rw [sumZ_as (M := upd L 35 (L 36)) (fun j hj => upd_off (by omega)), sumZ_upd L 35 _ 36 (by omega), s1] at s2
      have e1 : num 4 (fun i => L (36 + i)) = L 36 + L 37 * 256 + L 38 * 65536 + L 39 * 16777216 := by simp [num]
      have e2 : num 4 (fun i => upd (upd L 35 (L (35 + 1))) (35 + 1) (L 35) (36 + i)) = L 35 + L 37 * 256 + L 38 * 65536 + L 39 * 16777216 := by simp [num, upd]
      rw [e1, e2] at s2
      have e0 : L (35 + 1) = L 36 := rfl
      omega
    · rw [sumZ_as (M := L) (fun j hj => (upd_off (by omega)).trans (upd_off (by omega))), s1] at s2
      have e := num_same (off_byte hL 36) (off_byte hU 36) s2 (k - 36) (by omega)
      rw [show 36 + (k - 36) = k by omega, upd_off (by omega), upd_at] at e
      exact ne e

/-- Another one's bytes in a number are its bytes for ever. -/
theorem gE_short {n : Nat} (L : Nat → Int) (h : n < 40) : gE n L = 4 := if_pos h
theorem gE_long {n : Nat} (L : Nat → Int) (h : 40 < n) : gE n L = 5 := by unfold gE; rw [if_neg (by omega), if_pos (.inl h)]
theorem gR_no {n : Nat} {L : Nat → Int} (h : gE n L ≠ 0) : gR n L = m0 := if_neg h
theorem gR_yes {n : Nat} {L : Nat → Int} (h : gE n L = 0) : gR n L = gm L := if_pos h
theorem gE_as {L M : Nat → Int} (h : ∀ i, i < 40 → L i = M i) : gE 40 L = gE 40 M ∧ gm L = gm M := by
  have e1 : gm L = gm M := by
    unfold gm
    rw [h 1 (by omega), h 6 (by omega), h 7 (by omega), h 8 (by omega), h 9 (by omega), h 10 (by omega), h 11 (by omega), num_as (k := 4) (M := fun i => M (2 + i)) (fun j hj => h _ (by omega)), num_as (k := 8) (M := fun i => M (12 + i)) (fun j hj => h _ (by omega)),
      num_as (k := 8) (M := fun i => M (20 + i)) (fun j hj => h _ (by omega)), num_as (k := 8) (M := fun i => M (28 + i)) (fun j hj => h _ (by omega))]
  refine ⟨?_, e1⟩
  unfold gE
  rw [e1, h 0 (by omega), h 11 (by omega), sum_as (k := 36) (M := M) (fun j hj => h _ (by omega)), num_as (k := 4) (M := fun i => M (36 + i)) (fun j hj => h _ (by omega))]

end Go.Proofs.Ytnknjlhflgfccaa.Msg
