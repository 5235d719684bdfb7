/- Contracts of layer 5's word.Put and word.Get, and of the reference's Put and Get. Conditions: the fields are a byte, a byte, a number of 32 bits, a byte. -/
import Derived.Test.YtjkfpnplocmhiaaWord
import Derived.Below
namespace Go.Proofs.Ytjkfpnplocmhiaa.Word
open Go.ChangeShapes Go.WideShapes Go.ChangeAt Go.RowKit Num

/-- May these fields be put? -/
def fits (s d t : Int) : Prop := s ≤ 3 ∧ t ≤ 3 ∧ d < 524288
instance (s d t : Int) : Decidable (fits s d t) := by unfold fits; infer_instance
/-- The word without its bit of parity; with it. -/
def bare (l s d t : Int) : Int := tn l + s * 256 + d * 1024 + t * 536870912
def full (y : Int) : Int := if oddB y then y else y + 2147483648

theorem full_odd {y : Int} (h : oddB y = true) : full y = y := by unfold full; rw [if_pos h]
theorem full_even {y : Int} (h : oddB y = false) : full y = y + 2147483648 := by unfold full; rw [if_neg (by simp [h])]
theorem bare_in (l s d t : Int) (s0 : 0 ≤ s) (s1 : s ≤ 3) (d0 : 0 ≤ d) (d1 : d < 524288) (t0 : 0 ≤ t) (t1 : t ≤ 3) : 0 ≤ bare l s d t ∧ bare l s d t < 2147483648 := by
  have := tn_lo l; have := tn_hi l; unfold bare; omega
theorem joined (a s d t : Int) (a0 : 0 ≤ a) (a1 : a < 256) (s0 : 0 ≤ s) (s1 : s ≤ 3) (d0 : 0 ≤ d) (d1 : d < 524288) (t0 : 0 ≤ t) (t1 : t ≤ 3) :
    bits .or .u32 (bits .or .u32 (bits .or .u32 a (s * 256)) (d * 1024)) (t * 536870912) = a + s * 256 + d * 1024 + t * 536870912 := by
  rw [bits_join_low .u32 32 (by decide) wraps_u32 8 a (s * 256) (by omega) (by omega) (by omega) (by omega) (by omega) (by omega),
    bits_join_low .u32 32 (by decide) wraps_u32 10 _ (d * 1024) (by omega) (by omega) (by omega) (by omega) (by omega) (by omega),
    bits_join_low .u32 32 (by decide) wraps_u32 29 _ (t * 536870912) (by omega) (by omega) (by omega) (by omega) (by omega) (by omega)]
theorem topped (y : Int) (y0 : 0 ≤ y) (y1 : y < 2147483648) : bits .or .u32 y 2147483648 = y + 2147483648 :=
  bits_join_low .u32 32 (by decide) wraps_u32 31 y 2147483648 y0 (by omega) (by omega) (by omega) (by omega) (by omega)

set_option maxHeartbeats 800000 in
theorem put_no (l s d t : Int) (h : ¬ fits s d t) (w : World) :
    Calls Try.prog 28 #[.agg #[.int .u8 l, .int .u8 s, .int .u32 d, .int .u8 t]] w fun e w' => e = .returned (.tuple #[.int .u32 0, .int .i64 2]) ∧ Below w.heap.size w w' := by
  unfold fits at h
  go_enter Try.func28, Try.ntmps28
  go_wp2
  all_goals first | omega | skip
  all_goals
    go_ret2
    exact ⟨rfl, (Below.refl _ _).alloc (Nat.le_refl _) _⟩

set_option maxHeartbeats 800000 in
theorem put_yes (l s d t : Int) (l0 : 0 ≤ l) (l1 : l < 256) (s0 : 0 ≤ s) (s1 : s ≤ 3) (d0 : 0 ≤ d) (d1 : d < 524288) (t0 : 0 ≤ t) (t1 : t ≤ 3) (w : World) :
    Calls Try.prog 28 #[.agg #[.int .u8 l, .int .u8 s, .int .u32 d, .int .u8 t]] w fun e w' => e = .returned (.tuple #[.int .u32 (full (bare l s d t)), .int .i64 0]) ∧ Below w.heap.size w w' := by
  have n0 := tn_lo l
  have n1 := tn_hi l
  have bi := bare_in l s d t s0 s1 d0 d1 t0 t1
  have hj := Lib.hid (joined (tn l) s d t n0 n1 s0 s1 d0 d1 t0 t1)
  go_enter Try.func28, Try.ntmps28
  go_wp2_with fail
  refine (turn l l0 l1 _).mono ?_
  rintro e w' ⟨rfl, rfl⟩
  go_wp2_with fail
  rw [hj.out]
  rw [show tn l + s * 256 + d * 1024 + t * 536870912 = bare l s d t from rfl]
  refine (odd (bare l s d t) (by omega) (by omega) _).mono ?_
  rintro e w' ⟨rfl, m, rfl⟩
  clear hj
  have ht := Lib.hid (topped (bare l s d t) (by omega) (by omega))
  by_cases ho : oddB (bare l s d t) = true
  · have hf := Lib.hid (full_odd ho)
    go_wp2
    go_ret2
    exact ⟨ret_two hf.out rfl, below_drewN ((Below.refl _ _).alloc (Nat.le_refl _) _) _⟩
  · have ho' : oddB (bare l s d t) = false := by simpa using ho
    have hf := Lib.hid (full_even ho')
    clear ho
    go_wp2
    go_ret2
    exact ⟨ret_two (hf.out.trans ht.out.symm) rfl, below_drewN ((Below.refl _ _).alloc (Nat.le_refl _) _) _⟩

set_option maxHeartbeats 800000 in
theorem rput_no (l s d t : Int) (h : ¬ fits s d t) (w : World) :
    Calls Try.prog 30 #[.agg #[.int .u8 l, .int .u8 s, .int .u32 d, .int .u8 t]] w fun e w' => e = .returned (.tuple #[.int .u32 0, .int .i64 2]) ∧ Below w.heap.size w w' := by
  unfold fits at h
  go_enter Try.func30, Try.ntmps30
  go_wp2
  all_goals first | omega | skip
  all_goals
    go_ret2
    exact ⟨rfl, (Below.refl _ _).alloc (Nat.le_refl _) _⟩

set_option maxHeartbeats 800000 in
theorem rput_yes (l s d t : Int) (l0 : 0 ≤ l) (l1 : l < 256) (s0 : 0 ≤ s) (s1 : s ≤ 3) (d0 : 0 ≤ d) (d1 : d < 524288) (t0 : 0 ≤ t) (t1 : t ≤ 3) (w : World) :
    Calls Try.prog 30 #[.agg #[.int .u8 l, .int .u8 s, .int .u32 d, .int .u8 t]] w fun e w' => e = .returned (.tuple #[.int .u32 (full (bare l s d t)), .int .i64 0]) ∧ Below w.heap.size w w' := by
  have n0 := tn_lo l
  have n1 := tn_hi l
  have bi := bare_in l s d t s0 s1 d0 d1 t0 t1
  go_enter Try.func30, Try.ntmps30
  go_wp2_with fail
  go_quiet ((go_at_call 33; exact Calls.quiet_of_same ((rTurn l l0 l1 _).mono fun _ _ h => ⟨h.1, h.2.symm⟩)))
  go_wp2_with fail
  refine (rOdd (bare l s d t) (by omega) _).mono ?_
  rintro e w' ⟨rfl, rfl⟩
  by_cases ho : oddB (bare l s d t) = true
  · have hf := Lib.hid (full_odd ho)
    go_wp2
    go_ret2
    exact ⟨ret_two hf.out rfl, below_drewN ((Below.refl _ _).alloc (Nat.le_refl _) _) _⟩
  · have ho' : oddB (bare l s d t) = false := by simpa using ho
    have hf := Lib.hid (full_even ho')
    clear ho
    go_wp2
    go_ret2
    exact ⟨ret_two hf.out rfl, below_drewN ((Below.refl _ _).alloc (Nat.le_refl _) _) _⟩

set_option maxHeartbeats 800000 in
theorem get_no (x : Int) (x0 : 0 ≤ x) (x1 : x < 4294967296) (ho : oddB x = false) (w : World) :
    Calls Try.prog 31 #[.int .u32 x] w fun e w' => e = .returned (.tuple #[.agg #[.int .u8 0, .int .u8 0, .int .u32 0, .int .u8 0], .int .i64 6]) ∧ Below w.heap.size w w' := by
  go_enter Try.func31, Try.ntmps31
  go_wp2_with fail
  refine (odd x x0 x1 _).mono ?_
  rintro e w' ⟨rfl, m, rfl⟩
  go_wp2
  refine bodyPost_ret (v := .tuple #[.agg #[.int .u8 0, .int .u8 0, .int .u32 0, .int .u8 0], .int .i64 6]) (by simp [results, Try.results31, go_sem]) rfl ⟨rfl, ?_⟩
  exact ((((below_drewN ((Below.refl _ _).alloc (Nat.le_refl _) _) _).setCell (by simp) _).setCell (by simp) _).setCell (by simp) _).setCell (by simp) _

set_option maxHeartbeats 800000 in
theorem get_yes (x : Int) (x0 : 0 ≤ x) (x1 : x < 4294967296) (ho : oddB x = true) (w : World) :
    Calls Try.prog 31 #[.int .u32 x] w fun e w' => e = .returned (.tuple #[.agg #[.int .u8 (tn (x % 256)), .int .u8 (x / 256 % 4), .int .u32 (x / 1024 % 524288), .int .u8 (x / 536870912 % 4)], .int .i64 0]) ∧ Below w.heap.size w w' := by
  go_enter Try.func31, Try.ntmps31
  go_wp2_with fail
  refine (odd x x0 x1 _).mono ?_
  rintro e w' ⟨rfl, m, rfl⟩
  go_wp2_with fail
  refine (turn _ (by omega) (by omega) _).mono ?_
  rintro e w' ⟨rfl, rfl⟩
  go_wp2
  refine bodyPost_ret (v := .tuple #[.agg #[.int .u8 (tn (x % 256)), .int .u8 (x / 256 % 4), .int .u32 (x / 1024 % 524288), .int .u8 (x / 536870912 % 4)], .int .i64 0]) (by simp [results, Try.results31, go_sem]) rfl ⟨rfl, ?_⟩
  exact ((((below_drewN ((Below.refl _ _).alloc (Nat.le_refl _) _) _).setCell (by simp) _).setCell (by simp) _).setCell (by simp) _).setCell (by simp) _

set_option maxHeartbeats 800000 in
theorem rget_no (x : Int) (x0 : 0 ≤ x) (ho : oddB x = false) (w : World) :
    Calls Try.prog 18 #[.int .u32 x] w fun e w' => e = .returned (.tuple #[.agg #[.int .u8 0, .int .u8 0, .int .u32 0, .int .u8 0], .int .i64 6]) ∧ Below w.heap.size w w' := by
  go_enter Try.func18, Try.ntmps18
  go_wp2_with fail
  refine (rOdd x x0 _).mono ?_
  rintro e w' ⟨rfl, rfl⟩
  go_wp2
  refine bodyPost_ret (v := .tuple #[.agg #[.int .u8 0, .int .u8 0, .int .u32 0, .int .u8 0], .int .i64 6]) (by simp [results, Try.results18, go_sem]) rfl ⟨rfl, ?_⟩
  exact (Below.refl _ _).alloc (Nat.le_refl _) _

set_option maxHeartbeats 800000 in
theorem rget_yes (x : Int) (x0 : 0 ≤ x) (x1 : x < 4294967296) (ho : oddB x = true) (w : World) :
    Calls Try.prog 18 #[.int .u32 x] w fun e w' => e = .returned (.tuple #[.agg #[.int .u8 (tn (x % 256)), .int .u8 (x / 256 % 4), .int .u32 (x / 1024 % 524288), .int .u8 (x / 536870912 % 4)], .int .i64 0]) ∧ Below w.heap.size w w' := by
  go_enter Try.func18, Try.ntmps18
  go_wp2_with fail
  refine (rOdd x x0 _).mono ?_
  rintro e w' ⟨rfl, rfl⟩
  go_wp2_with fail
  refine (rTurn _ (by omega) (by omega) _).mono ?_
  rintro e w' ⟨rfl, rfl⟩
  go_wp2
  refine bodyPost_ret (v := .tuple #[.agg #[.int .u8 (tn (x % 256)), .int .u8 (x / 256 % 4), .int .u32 (x / 1024 % 524288), .int .u8 (x / 536870912 % 4)], .int .i64 0]) (by simp [results, Try.results18, go_sem]) rfl ⟨rfl, ?_⟩
  exact (Below.refl _ _).alloc (Nat.le_refl _) _

/-- What Put tells: the word, the error; what Get tells: the fields, the error. -/
def putN (l s d t : Int) : Int := if fits s d t then full (bare l s d t) else 0
def putE (s d t : Int) : Int := if fits s d t then 0 else 2
def gl (x : Int) : Int := if oddB x then tn (x % 256) else 0
def gs (x : Int) : Int := if oddB x then x / 256 % 4 else 0
def gd (x : Int) : Int := if oddB x then x / 1024 % 524288 else 0
def gt (x : Int) : Int := if oddB x then x / 536870912 % 4 else 0
def gE (x : Int) : Int := if oddB x then 0 else 6

theorem put (l s d t : Int) (l0 : 0 ≤ l) (l1 : l < 256) (s0 : 0 ≤ s) (d0 : 0 ≤ d) (t0 : 0 ≤ t) (w : World) :
    Calls Try.prog 28 #[.agg #[.int .u8 l, .int .u8 s, .int .u32 d, .int .u8 t]] w fun e w' => e = .returned (.tuple #[.int .u32 (putN l s d t), .int .i64 (putE s d t)]) ∧ Below w.heap.size w w' := by
  by_cases h : fits s d t
  · simp only [putN, putE, if_pos h]
    obtain ⟨s1, t1, d1⟩ := h
    exact put_yes l s d t l0 l1 s0 s1 d0 d1 t0 t1 w
  · simp only [putN, putE, if_neg h]
    exact put_no l s d t h w

theorem rPut (l s d t : Int) (l0 : 0 ≤ l) (l1 : l < 256) (s0 : 0 ≤ s) (d0 : 0 ≤ d) (t0 : 0 ≤ t) (w : World) :
    Calls Try.prog 30 #[.agg #[.int .u8 l, .int .u8 s, .int .u32 d, .int .u8 t]] w fun e w' => e = .returned (.tuple #[.int .u32 (putN l s d t), .int .i64 (putE s d t)]) ∧ Below w.heap.size w w' := by
  by_cases h : fits s d t
  · simp only [putN, putE, if_pos h]
    obtain ⟨s1, t1, d1⟩ := h
    exact rput_yes l s d t l0 l1 s0 s1 d0 d1 t0 t1 w
  · simp only [putN, putE, if_neg h]
    exact rput_no l s d t h w

theorem get (x : Int) (x0 : 0 ≤ x) (x1 : x < 4294967296) (w : World) :
    Calls Try.prog 31 #[.int .u32 x] w fun e w' => e = .returned (.tuple #[.agg #[.int .u8 (gl x), .int .u8 (gs x), .int .u32 (gd x), .int .u8 (gt x)], .int .i64 (gE x)]) ∧ Below w.heap.size w w' := by
  cases h : oddB x
  · simp only [gl, gs, gd, gt, gE, h]
    exact get_no x x0 x1 h w
  · simp only [gl, gs, gd, gt, gE, h]
    exact get_yes x x0 x1 h w

theorem rGet (x : Int) (x0 : 0 ≤ x) (x1 : x < 4294967296) (w : World) :
    Calls Try.prog 18 #[.int .u32 x] w fun e w' => e = .returned (.tuple #[.agg #[.int .u8 (gl x), .int .u8 (gs x), .int .u32 (gd x), .int .u8 (gt x)], .int .i64 (gE x)]) ∧ Below w.heap.size w w' := by
  cases h : oddB x
  · simp only [gl, gs, gd, gt, gE, h]
    exact rget_no x x0 h w
  · simp only [gl, gs, gd, gt, gE, h]
    exact rget_yes x x0 x1 h w

/-- The highest bit turns the parity. -/
theorem odd_top (y : Int) (y0 : 0 ≤ y) (y1 : y < 2147483648) : oddB (y + 2147483648) = !oddB y := by
  obtain ⟨n, rfl⟩ := Int.eq_ofNat_of_zero_le y0
  have hn : n < 2147483648 := by omega
  have e : ((n : Int) + 2147483648).toNat = n + 2147483648 := by omega
  have a := ones_last 31 n
  have b := ones_last 31 (n + 2147483648)
  have c := ones_mod 31 (n + 2147483648)
  have f := ones_mod 31 n
  have m1 : (n + 2147483648) % 2 ^ 31 = n % 2 ^ 31 := by omega
  have d1 : n / 2 ^ 31 % 2 = 0 := by omega
  have d2 : (n + 2147483648) / 2 ^ 31 % 2 = 1 := by omega
  rw [m1] at c
  unfold oddB
  rw [e, Int.toNat_natCast, show (32 : Nat) = 31 + 1 from rfl, a, b, d1, d2, ← c, f]
  generalize ones 31 n = k
  rw [Bool.eq_iff_iff]; simp; omega
theorem full_is_odd (y : Int) (y0 : 0 ≤ y) (y1 : y < 2147483648) : oddB (full y) = true := by
  cases h : oddB y
  · rw [full_even h, odd_top y y0 y1, h]; rfl
  · rw [full_odd h, h]
theorem full_in (y : Int) (y0 : 0 ≤ y) (y1 : y < 2147483648) : 0 ≤ full y ∧ full y < 4294967296 ∧ full y % 2147483648 = y := by
  cases h : oddB y
  · rw [full_even h]; omega
  · rw [full_odd h]; omega

/-- What is put is got. -/
theorem back (l s d t : Int) (l0 : 0 ≤ l) (l1 : l < 256) (s0 : 0 ≤ s) (d0 : 0 ≤ d) (t0 : 0 ≤ t) (h : fits s d t) :
    0 ≤ putN l s d t ∧ putN l s d t < 4294967296 ∧ oddB (putN l s d t) = true ∧ gl (putN l s d t) = l ∧ gs (putN l s d t) = s ∧ gd (putN l s d t) = d ∧ gt (putN l s d t) = t ∧ gE (putN l s d t) = 0 := by
  obtain ⟨s1, t1, d1⟩ := h
  have e : putN l s d t = full (bare l s d t) := if_pos ⟨s1, t1, d1⟩
  have bi := bare_in l s d t s0 s1 d0 d1 t0 t1
  have ho := full_is_odd _ bi.1 bi.2
  have hf := full_in _ bi.1 bi.2
  have n0 := tn_lo l
  have n1 := tn_hi l
  rw [e]
  simp only [gl, gs, gd, gt, gE, ho, if_true]
  have hb : bare l s d t = tn l + s * 256 + d * 1024 + t * 536870912 := rfl
  have hl : full (bare l s d t) % 256 = tn l := by omega
  rw [hl, tn_tn l l0 l1]
  refine ⟨hf.1, hf.2.1, trivial, rfl, ?_, ?_, ?_, trivial⟩ <;> omega

/-- What is got is put as the same word. -/
theorem forth (x : Int) (x0 : 0 ≤ x) (x1 : x < 4294967296) (ho : oddB x = true) : fits (gs x) (gd x) (gt x) ∧ putN (gl x) (gs x) (gd x) (gt x) = x := by
  have hfit : fits (gs x) (gd x) (gt x) := by
    unfold fits gs gd gt; rw [ho]; simp only [if_true]; omega
  refine ⟨hfit, ?_⟩
  rw [putN, if_pos hfit]
  have hb : bare (gl x) (gs x) (gd x) (gt x) = x % 2147483648 := by
    unfold bare gl gs gd gt; rw [ho]; simp only [if_true]
    rw [tn_tn _ (by omega) (by omega)]; omega
  rw [hb]
  by_cases h : x < 2147483648
  · rw [show x % 2147483648 = x by omega, full_odd ho]
  · have e : x % 2147483648 + 2147483648 = x := by omega
    have := odd_top (x % 2147483648) (by omega) (by omega)
    rw [e, ho] at this
    rw [full_even (by simpa using this.symm), e]

end Go.Proofs.Ytjkfpnplocmhiaa.Word
