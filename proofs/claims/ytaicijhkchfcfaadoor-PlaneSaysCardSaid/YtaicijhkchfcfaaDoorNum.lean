/- Contracts of layer 1 (num) and of the document's own answers for it: each call returns the plain number that the definitions below say, and leaves the world as it was. Conditions: the arguments are int64 numbers. -/
import Derived.Test.YtaicijhkchfcfaaDoorBase
namespace Go.Proofs.YtaicijhkchfcfaaDoor.Num
open Go.ChangeShapes Go.WideShapes Go.ChangeAt Go.RowKit

/-- A sum, stopped at the ends. -/
def sat (s : Int) : Int := if 9223372036854775807 < s then 9223372036854775807 else if s < -9223372036854775808 then -9223372036854775808 else s

theorem sat_hi {s : Int} (h : 9223372036854775807 < s) : sat s = 9223372036854775807 := by unfold sat; rw [if_pos h]
theorem sat_lo {s : Int} (h : s < -9223372036854775808) : sat s = -9223372036854775808 := by unfold sat; rw [if_neg (by omega), if_pos h]
theorem sat_in {s : Int} (h1 : -9223372036854775808 ≤ s) (h2 : s ≤ 9223372036854775807) : sat s = s := by unfold sat; rw [if_neg (by omega), if_neg (by omega)]

theorem sat_cases (s : Int) : (9223372036854775807 < s ∧ sat s = 9223372036854775807) ∨ (s < -9223372036854775808 ∧ sat s = -9223372036854775808) ∨ (-9223372036854775808 ≤ s ∧ s ≤ 9223372036854775807 ∧ sat s = s) := by
  by_cases h : 9223372036854775807 < s
  · exact Or.inl ⟨h, sat_hi h⟩
  · by_cases g : s < -9223372036854775808
    · exact Or.inr (Or.inl ⟨g, sat_lo g⟩)
    · exact Or.inr (Or.inr ⟨by omega, by omega, sat_in (by omega) (by omega)⟩)

set_option maxHeartbeats 400000 in
theorem add (a b : Int) (w : World) (ha : In a) (hb : In b) :
    Calls Tryd.prog 18 #[.int .i64 a, .int .i64 b] w fun e w' => e = .returned (.int .i64 (sat (a + b))) ∧ w = w' := by
  obtain ⟨ha1, ha2⟩ := ha
  obtain ⟨hb1, hb2⟩ := hb
  go_enter Tryd.func18, Tryd.ntmps18
  go_wp2
  all_goals
    go_ret
    exact ⟨ret_int (by first | exact sat_in (by omega) (by omega) | exact sat_hi (by omega) | exact sat_lo (by omega)), rfl⟩

set_option maxHeartbeats 400000 in
theorem radd (a b : Int) (w : World) (ha : In a) (hb : In b) :
    Calls Tryd.prog 21 #[.int .i64 a, .int .i64 b] w fun e w' => e = .returned (.int .i64 (sat (a + b))) ∧ w = w' := by
  obtain ⟨ha1, ha2⟩ := ha
  obtain ⟨hb1, hb2⟩ := hb
  go_enter Tryd.func21, Tryd.ntmps21
  go_wp2
  all_goals
    go_ret
    exact ⟨ret_int (by first | exact sat_in (by omega) (by omega) | exact sat_hi (by omega) | exact sat_lo (by omega)), rfl⟩

set_option maxHeartbeats 400000 in
theorem sub (a b : Int) (w : World) (ha : In a) (hb : In b) :
    Calls Tryd.prog 17 #[.int .i64 a, .int .i64 b] w fun e w' => e = .returned (.int .i64 (sat (a - b))) ∧ w = w' := by
  obtain ⟨ha1, ha2⟩ := ha
  obtain ⟨hb1, hb2⟩ := hb
  go_enter Tryd.func17, Tryd.ntmps17
  go_wp2
  all_goals
    go_ret
    exact ⟨ret_int (by first | exact sat_in (by omega) (by omega) | exact sat_hi (by omega) | exact sat_lo (by omega)), rfl⟩

set_option maxHeartbeats 400000 in
theorem rsub (a b : Int) (w : World) (ha : In a) (hb : In b) :
    Calls Tryd.prog 20 #[.int .i64 a, .int .i64 b] w fun e w' => e = .returned (.int .i64 (sat (a - b))) ∧ w = w' := by
  obtain ⟨ha1, ha2⟩ := ha
  obtain ⟨hb1, hb2⟩ := hb
  go_enter Tryd.func20, Tryd.ntmps20
  go_wp2
  all_goals
    go_ret
    exact ⟨ret_int (by first | exact sat_in (by omega) (by omega) | exact sat_hi (by omega) | exact sat_lo (by omega)), rfl⟩

/-- P1.3, Within. -/
def within (n low high : Int) : Int := if n < low ∨ high < low then low else if high < n then high else n

theorem within_a {n l h : Int} (c : n < l ∨ h < l) : within n l h = l := by unfold within; rw [if_pos c]
theorem within_b {n l h : Int} (c : ¬ (n < l ∨ h < l)) (d : h < n) : within n l h = h := by unfold within; rw [if_neg c, if_pos d]
theorem within_c {n l h : Int} (c : ¬ (n < l ∨ h < l)) (d : ¬ h < n) : within n l h = n := by unfold within; rw [if_neg c, if_neg d]

set_option maxHeartbeats 400000 in
theorem withinC (n l h : Int) (w : World) (hn : In n) (hl : In l) (hh : In h) :
    Calls Tryd.prog 31 #[.int .i64 n, .int .i64 l, .int .i64 h] w fun e w' => e = .returned (.int .i64 (within n l h)) ∧ w = w' := by
  obtain ⟨ha1, ha2⟩ := hn
  obtain ⟨hb1, hb2⟩ := hl
  obtain ⟨hc1, hc2⟩ := hh
  go_enter Tryd.func31, Tryd.ntmps31
  go_wp2
  all_goals
    go_ret
    exact ⟨ret_int (by first | exact within_a (by omega) | exact within_b (by omega) (by omega) | exact within_c (by omega) (by omega)), rfl⟩

set_option maxHeartbeats 400000 in
theorem rwithin (n l h : Int) (w : World) (hn : In n) (hl : In l) (hh : In h) :
    Calls Tryd.prog 24 #[.int .i64 n, .int .i64 l, .int .i64 h] w fun e w' => e = .returned (.int .i64 (within n l h)) ∧ w = w' := by
  obtain ⟨ha1, ha2⟩ := hn
  obtain ⟨hb1, hb2⟩ := hl
  obtain ⟨hc1, hc2⟩ := hh
  go_enter Tryd.func24, Tryd.ntmps24
  go_wp2
  all_goals
    go_ret
    exact ⟨ret_int (by first | exact within_a (by omega) | exact within_b (by omega) (by omega) | exact within_c (by omega) (by omega)), rfl⟩

/-- P1.3, Clamp. -/
def clamp (n most : Int) : Int := if most < 0 then 0 else within n (-most) most

theorem clamp_a {n m : Int} (c : m < 0) : clamp n m = 0 := by unfold clamp; rw [if_pos c]
theorem clamp_b {n m : Int} (c : ¬ m < 0) : clamp n m = within n (-m) m := by unfold clamp; rw [if_neg c]

set_option maxHeartbeats 400000 in
theorem clampC (n m : Int) (w : World) (hn : In n) (hm : In m) :
    Calls Tryd.prog 26 #[.int .i64 n, .int .i64 m] w fun e w' => e = .returned (.int .i64 (clamp n m)) ∧ w = w' := by
  have hn' := Lib.hid hn
  obtain ⟨hb1, hb2⟩ := hm
  obtain ⟨ha1, ha2⟩ := hn
  by_cases c : m < 0
  · go_enter Tryd.func26, Tryd.ntmps26
    go_wp2
    go_ret
    exact ⟨ret_int (clamp_a c), rfl⟩
  · go_enter Tryd.func26, Tryd.ntmps26
    go_wp2_with fail
    refine (withinC n (-m) m _ hn'.out ⟨by omega, by omega⟩ ⟨by omega, by omega⟩).mono ?_
    rintro e w' ⟨rfl, rfl⟩
    go_wp2
    go_ret
    exact ⟨ret_int (clamp_b (by omega)), rfl⟩

set_option maxHeartbeats 400000 in
theorem rclamp (n m : Int) (w : World) (hn : In n) (hm : In m) :
    Calls Tryd.prog 27 #[.int .i64 n, .int .i64 m] w fun e w' => e = .returned (.int .i64 (clamp n m)) ∧ w = w' := by
  obtain ⟨hb1, hb2⟩ := hm
  obtain ⟨ha1, ha2⟩ := hn
  go_enter Tryd.func27, Tryd.ntmps27
  go_wp2
  all_goals
    go_ret
    exact ⟨ret_int (by first | exact clamp_a (by omega) | (rw [clamp_b (by omega)]; first | exact within_a (by omega) | exact within_b (by omega) (by omega) | exact within_c (by omega) (by omega))), rfl⟩

/-- P1.3, Near. -/
def near (f t s : Int) : Int := if s < 0 then f else if f < t then min (f + s) t else max (f - s) t

theorem near_a {f t s : Int} (c : s < 0) : near f t s = f := by unfold near; rw [if_pos c]
theorem near_b {f t s : Int} (c : ¬ s < 0) (d : f < t) : near f t s = min (f + s) t := by unfold near; rw [if_neg c, if_pos d]
theorem near_c {f t s : Int} (c : ¬ s < 0) (d : ¬ f < t) : near f t s = max (f - s) t := by unfold near; rw [if_neg c, if_neg d]

theorem near_up {f t s : Int} (c : 0 ≤ s) (d : f < t) (hf : In f) (ht : In t) : near f t s = gmin (sat (f + s)) t := by
  obtain ⟨a1, a2⟩ := hf; obtain ⟨b1, b2⟩ := ht
  have hs := sat_cases (f + s)
  have hm := gmin_cases (sat (f + s)) t
  rw [near_b (by omega) (by omega), Int.min_def]
  split <;> omega
theorem near_dn {f t s : Int} (c : 0 ≤ s) (d : t ≤ f) (hf : In f) (ht : In t) : near f t s = gmax (sat (f - s)) t := by
  obtain ⟨a1, a2⟩ := hf; obtain ⟨b1, b2⟩ := ht
  have hs := sat_cases (f - s)
  have hm := gmax_cases (sat (f - s)) t
  rw [near_c (by omega) (by omega), Int.max_def]
  split <;> omega

theorem sat_In (s : Int) : -9223372036854775808 ≤ sat s ∧ sat s ≤ 9223372036854775807 := by
  unfold sat; split
  · omega
  · split <;> omega

end Go.Proofs.YtaicijhkchfcfaaDoor.Num
