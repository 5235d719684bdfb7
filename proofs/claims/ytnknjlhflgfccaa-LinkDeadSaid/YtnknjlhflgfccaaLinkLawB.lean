/- The walk of the law LinkDead: it returns true and turns nothing that was there. Conditions: the four arguments are from 0 to 255. -/
import Derived.Test.YtnknjlhflgfccaaLinkTie
import Derived.Test.YtnknjlhflgfccaaLinkApp
import Derived.Test.YtnknjlhflgfccaaLinkLives
namespace Go.Proofs.Ytnknjlhflgfccaa.Link
open Go.ChangeShapes Go.WideShapes Go.ChangeAt Go.RowKit Num By Msg

/-- The one message; what the lane o knows behind i frames; the two numbers by which k is alive. -/
abbrev dm (k : Nat) (i : Int) : Ms := ⟨(k : Int), i, 0, 0, 0, 0, 0, false, 0, 0, 0⟩
def dl (o k q : Nat) : Nat → Lk
  | 0 => newL o
  | i + 1 => if i + 1 = q then onL (goL (dl o k q i)) (dm k ((i : Int) + 1)) else goL (dl o k q i)
def dX (q : Nat) : Nat → Nat
  | 0 => 4294967295
  | i + 1 => if i + 1 = q then LinkN.up (dX q i) ||| 1 else LinkN.up (dX q i)
def dY : Nat → Nat
  | 0 => 4294967295
  | i + 1 => LinkN.up (dY i)
theorem dl_own (o k q i : Nat) : (dl o k q i).own = o := by
  induction i with
  | zero => rfl
  | succ i ih =>
    have g : (goL (dl o k q i)).own = o := ih
    unfold dl
    split
    · rw [onL_own, g]
    · exact g
theorem dl_fr (o k q i : Nat) (hi : i ≤ 100) : (dl o k q i).fr = (i : Int) := by
  induction i with
  | zero => rfl
  | succ i ih =>
    have g : (goL (dl o k q i)).fr = (i : Int) + 1 := by
      show ((dl o k q i).fr + 1) % 4294967296 = _
      rw [ih (by omega)]; omega
    unfold dl
    split
    · rw [on_fr, g]; omega
    · rw [g]; omega
theorem dX_lt (q i : Nat) : dX q i < 4294967296 := by
  cases i with
  | zero => show (4294967295 : Nat) < _; decide
  | succ i =>
    unfold dX
    split
    · exact or_lt (LinkN.up_lt _) (by decide)
    · exact LinkN.up_lt _
theorem dY_lt (i : Nat) : dY i < 4294967296 := by
  cases i with
  | zero => show (4294967295 : Nat) < _; decide
  | succ i => exact LinkN.up_lt _
theorem dl_at {o k t q : Nat} (hk : k < 3) (h2 : o ≠ k) (h1 : o ≠ t) (h3 : t ≠ k) (i : Nat) (hi : i ≤ 100) :
    (dl o k q i).h o k = (dX q i : Int) ∧ (dl o k q i).h t k = (dY i : Int) := by
  induction i with
  | zero => exact ⟨rfl, rfl⟩
  | succ i ih =>
    obtain ⟨x, y⟩ := ih (by omega)
    have gx : (goL (dl o k q i)).h o k = (LinkN.up (dX q i) : Int) := by
      show up ((dl o k q i).h o k) = _
      rw [x, up_nat]
    have gy : (goL (dl o k q i)).h t k = (dY (i + 1) : Int) := by
      show up ((dl o k q i).h t k) = _
      rw [y, up_nat]; rfl
    have go : (goL (dl o k q i)).own = o := dl_own o k q i
    unfold dl dX
    by_cases e : i + 1 = q
    · rw [if_pos e, if_pos e]
      have hp : isP (goL (dl o k q i)) (dm k ((i : Int) + 1)) = true := by
        unfold isP
        rw [go]
        have f : (goL (dl o k q i)).fr = (i : Int) + 1 := by
          show ((dl o k q i).fr + 1) % 4294967296 = _
          rw [dl_fr o k q i (by omega)]; omega
        rw [f]
        simp
        omega
      unfold onL
      rw [if_pos hp, hearL_h (m := dm k ((i : Int) + 1)) (f := k) rfl, hearL_h (m := dm k ((i : Int) + 1)) (f := k) rfl, go, if_pos ⟨rfl, rfl⟩, if_neg (by omega), if_neg (by omega), gx, gy]
      refine ⟨?_, rfl⟩
      have := orI_nat (LinkN.up (dX q i)) 1 (LinkN.up_lt _) (by decide)
      simpa using this
    · rw [if_neg e, if_neg e]
      exact ⟨gx, gy⟩
/-- What the law wants. -/
def wantD (n q : Nat) : Bool := decide (n ≤ 11) || (decide (1 ≤ q) && decide (q ≤ n) && decide (q + 3 < n) && decide (n ≤ q + 11))
theorem wants : ∀ n : Fin 60, ∀ q : Fin 60, ((dX q.val n.val ||| dY n.val) / 16 % 256 != 0) = wantD n.val q.val := by decide +kernel
theorem dead_alive {o k q n : Nat} (ho : o < 3) (hk : k < 3) (h : o ≠ k) (hn : n < 60) (hq : q < 60) : aliveL (dl o k q n) k = wantD n q := by
  obtain ⟨t, ht, h1, h3⟩ : ∃ t, t < 3 ∧ o ≠ t ∧ t ≠ k := by
    have ho3 : o = 0 ∨ o = 1 ∨ o = 2 := by omega
    have hk3 : k = 0 ∨ k = 1 ∨ k = 2 := by omega
    rcases ho3 with rfl | rfl | rfl <;> rcases hk3 with rfl | rfl | rfl <;> first | (exfalso; exact h rfl) | exact ⟨0, by decide⟩ | exact ⟨1, by decide⟩ | exact ⟨2, by decide⟩
  obtain ⟨x, y⟩ := dl_at (q := q) hk h h1 h3 n (by omega)
  rw [alive_two ho ht hk h1 h h3 (by rw [dl_own]; omega) x y (dX_lt _ _) (dY_lt _)]
  exact wants ⟨n, hn⟩ ⟨q, hq⟩
structure DeadAt (w0 : World) (g o k q i : Nat) (w : World) : Prop where
  below : Below w0.heap.size w0 w
  low : w0.heap.size ≤ g
  hl : Blk w g (lkA (dl o k q i)) 27
theorem dead_call {w0 w w1 : World} {g o k q i : Nat} (h : DeadAt w0 g o k q i w) (b : Below w.heap.size w w1) : DeadAt w0 g o k q i w1 := ⟨bthen h.below b, h.low, blk_kept h.hl b⟩
theorem dead_set {w0 w : World} {g o k q i : Nat} (h : DeadAt w0 g o k q i w) {l : Lk} (e : dl o k q (i + 1) = l) : DeadAt w0 g o k q (i + 1) (w.setRow g (lkA l)) := by
  subst e
  exact ⟨below_row h.below h.low _, h.low, blk_row h.hl _⟩
theorem dl_yes {o k q i : Nat} (e : i + 1 = q) : dl o k q (i + 1) = stL (dl o k q i) (updT (fun _ => m0) 0 (dm k ((i : Int) + 1))) 1 := by
  show (if i + 1 = q then _ else _) = onL (goL (dl o k q i)) (updT (fun _ => m0) 0 (dm k ((i : Int) + 1)) 0)
  rw [if_pos e, updT_at]
theorem dl_no {o k q i : Nat} (e : i + 1 ≠ q) : dl o k q (i + 1) = goL (dl o k q i) := if_neg e
theorem dm_ok (k : Nat) (hk : k < 3) (i : Int) : ∀ j, j < 1 → OkM (updT (fun _ => m0) 0 (dm k i) j) := fun j hj => by
  obtain rfl : j = 0 := by omega
  rw [updT_at]
  exact ⟨⟨Int.natCast_nonneg _, by show (k : Int) < 256; omega⟩, fun b => by unfold tl; simp only; split <;> (try split) <;> omega⟩

set_option maxRecDepth 100000 in
set_option maxHeartbeats 8000000 in
theorem deadLaw (own of frames at' : Int) (w : World) (a0 : 0 ≤ own) (a1 : own < 256) (b0 : 0 ≤ of) (b1 : of < 256) (c0 : 0 ≤ frames) (c1 : frames < 256) (d0 : 0 ≤ at') (d1 : at' < 256) :
    Calls Try.prog 4 #[.int .u8 own, .int .u8 of, .int .u8 frames, .int .u8 at'] w fun e w' => e = .returned (.bool true) ∧ Below w.heap.size w w' := by
  obtain ⟨o, eo, o3⟩ : ∃ o : Nat, own % 3 = (o : Int) ∧ o < 3 := ⟨(own % 3).toNat, by omega, by omega⟩
  obtain ⟨k, ek, k3, ne⟩ : ∃ k : Nat, ((o : Int) + 1 + of % 2) % 3 = (k : Int) ∧ k < 3 ∧ o ≠ k := ⟨(((o : Int) + 1 + of % 2) % 3).toNat, by omega, by omega, by omega⟩
  obtain ⟨n, en, n60⟩ : ∃ n : Nat, frames % 60 = (n : Int) ∧ n < 60 := ⟨(frames % 60).toNat, by omega, by omega⟩
  obtain ⟨q, eq, q60⟩ : ∃ q : Nat, at' % 60 = (q : Int) ∧ q < 60 := ⟨(at' % 60).toNat, by omega, by omega⟩
  have HV := Lib.hid (dead_alive (n := n) (q := q) o3 k3 ne n60 q60)
  have HO := Lib.hid o3
  have HK := Lib.hid k3
  have HE := Lib.hid ne
  have y0 : (0 : Int) ≤ (o : Int) := Int.natCast_nonneg _
  have y1 : (o : Int) < 3 := by omega
  have x0 : (0 : Int) ≤ (k : Int) := Int.natCast_nonneg _
  have x1 : (k : Int) < 3 := by omega
  have z0 : (0 : Int) ≤ (n : Int) := Int.natCast_nonneg _
  have z1 : (n : Int) < 60 := by omega
  have v0 : (0 : Int) ≤ (q : Int) := Int.natCast_nonneg _
  have v1 : (q : Int) < 60 := by omega
  have u0 : 0 ≤ of % 2 := by omega
  have u1 : of % 2 ≤ 1 := by omega
  clear o3 k3 ne
  go_enter Try.func4, Try.ntmps4
  go_wp2_with fail
  refine (newC o HO.out _).mono ?_
  rintro e w1 ⟨rfl, bb⟩
  have K0 := Lib.hid (show DeadAt w w1.heap.size o k q 0 (w1.alloc (.cells (lkA (newL o)) 27)) from ⟨below_new bb _, bb.size, blk_alloc _ _ _⟩)
  clear bb
  go_wp2
  clear eo ek en eq u0 u1 a0 a1 b0 b1 c0 c1 d0 d1
  generalize World.alloc w1 _ = W at *
  generalize w1.heap.size = g at *
  go_loopw [15] (fun v wr => ∃ i : Nat, v = .int .i64 ((i : Int) + 1) ∧ i ≤ n ∧ DeadAt w g o k q i wr) (fun v _ => (n + 1) - (intOf v).toNat)
  case atStart => exact ⟨0, rfl, by omega, K0.out⟩
  case round =>
    rename_i wr
    obtain ⟨i, rfl, hi, A⟩ := hrel
    have HA := Lib.hid A
    clear A K0
    by_cases hin : i < n
    · have i0 : (0 : Int) ≤ (i : Int) := Int.natCast_nonneg _
      have i1 : (i : Int) + 1 ≤ (n : Int) := by omega
      by_cases e : i + 1 = q
      · have he : (((i : Int) + 1) == (q : Int)) = true := by simp; omega
        have E := Lib.hid e
        clear e
        go_wp2_with (first
          | (at_builtin; refine wpList_append_m rfl (.tmp 50) (.tmp 56) rfl wr.heap.size 0 (fun _ => m0) _ wr.heap.size 1 (dm k ((i : Int) + 1)) rfl (own_nil _ _ _) (by simp) rfl (blk_alloc _ _ _) (by omega) ?_; intro v1 w1 o1 b1; obtain ⟨A1, c1, rfl, M1⟩ := mss_of o1; have HM := Lib.hid M1; have HB := Lib.hid (dead_call HA.out ((allocs wr _).trans b1)); clear o1 b1 M1 HA)
          | ((with_reducible refine load_l rfl (.tmp 11) rfl g _ HB.out.hl ?_ ?_); rfl))
        refine (stepC _ (by rw [dl_own]; exact HO.out) A1 1 c1 _ (dm_ok k HK.out _) _ HM.out (by omega)).mono ?_
        rintro e w2 ⟨rfl, b2⟩
        have HC := Lib.hid (dead_call HB.out b2)
        clear b2 HB HM
        go_wp2_with ((with_reducible refine store_l rfl (.tmp 11) (.tmp 60) rfl g (stL (dl o k q i) (updT (fun _ => m0) 0 (dm k ((i : Int) + 1))) 1) _ HC.out.hl ?_ ?_ ?_); rfl; rfl)
        go_roundw
        case rel => exact ⟨i + 1, by go_num, by omega, dead_set HC.out (dl_yes E.out)⟩
        case measure => simp [intOf]; omega
      · have he : (((i : Int) + 1) == (q : Int)) = false := by simp; omega
        have E := Lib.hid e
        clear e
        go_wp2_with ((with_reducible refine load_l rfl (.tmp 11) rfl g _ HA.out.hl ?_ ?_); rfl)
        refine (stepNil _ (by rw [dl_own]; exact HO.out) _).mono ?_
        rintro e w2 ⟨rfl, b2⟩
        have HC := Lib.hid (dead_call HA.out b2)
        clear b2 HA
        go_wp2_with ((with_reducible refine store_l rfl (.tmp 11) (.tmp 60) rfl g (goL (dl o k q i)) _ HC.out.hl ?_ ?_ ?_); rfl; rfl)
        go_roundw
        case rel => exact ⟨i + 1, by go_num, by omega, dead_set HC.out (dl_no E.out)⟩
        case measure => simp [intOf]; omega
    · obtain rfl : i = n := by omega
      have hw : (i ≤ 11 ∧ wantD i q = true) ∨ (11 < i ∧ q < 1 ∧ wantD i q = false) ∨ (11 < i ∧ 1 ≤ q ∧ i < q ∧ wantD i q = false) ∨ (11 < i ∧ 1 ≤ q ∧ q ≤ i ∧ i ≤ q + 3 ∧ wantD i q = false) ∨ (11 < i ∧ 1 ≤ q ∧ q ≤ i ∧ q + 3 < i ∧ q + 11 < i ∧ wantD i q = false) ∨ (11 < i ∧ 1 ≤ q ∧ q ≤ i ∧ q + 3 < i ∧ i ≤ q + 11 ∧ wantD i q = true) := by
        unfold wantD
        simp only [Bool.or_eq_true, Bool.and_eq_true, decide_eq_true_eq, Bool.or_eq_false_iff, Bool.and_eq_false_iff, decide_eq_false_iff_not]
        omega
      have i0 : (0 : Int) ≤ (i : Int) := Int.natCast_nonneg _
      rcases hw with ⟨g1, gw⟩ | ⟨g1, g2, gw⟩ | ⟨g1, g2, g3, gw⟩ | ⟨g1, g2, g3, g4, gw⟩ | ⟨g1, g2, g3, g4, g5, gw⟩ | ⟨g1, g2, g3, g4, g5, gw⟩
      all_goals
        rw [gw] at HV
        clear gw
        have t1 : (decide ((i : Int) ≤ 11) = true ∧ i ≤ 11) ∨ (decide ((i : Int) ≤ 11) = false ∧ 11 < i) := by
          rcases Nat.lt_or_ge 11 i with h | h
          · exact .inr ⟨decide_eq_false (by omega), h⟩
          · exact .inl ⟨decide_eq_true (by omega), h⟩
        have t2 : (decide ((1 : Int) ≤ (q : Int)) = true ∧ 1 ≤ q) ∨ (decide ((1 : Int) ≤ (q : Int)) = false ∧ q < 1) := by
          rcases Nat.lt_or_ge q 1 with h | h
          · exact .inr ⟨decide_eq_false (by omega), h⟩
          · exact .inl ⟨decide_eq_true (by omega), h⟩
        have t3 : (decide ((q : Int) ≤ (i : Int)) = true ∧ q ≤ i) ∨ (decide ((q : Int) ≤ (i : Int)) = false ∧ i < q) := by
          rcases Nat.lt_or_ge i q with h | h
          · exact .inr ⟨decide_eq_false (by omega), h⟩
          · exact .inl ⟨decide_eq_true (by omega), h⟩
        have t4 : (decide ((3 : Int) < (i : Int) - (q : Int)) = true ∧ q + 3 < i) ∨ (decide ((3 : Int) < (i : Int) - (q : Int)) = false ∧ i ≤ q + 3) := by
          rcases Nat.lt_or_ge (q + 3) i with h | h
          · exact .inl ⟨decide_eq_true (by omega), h⟩
          · exact .inr ⟨decide_eq_false (by omega), h⟩
        have t5 : (decide ((i : Int) - (q : Int) ≤ 11) = true ∧ i ≤ q + 11) ∨ (decide ((i : Int) - (q : Int) ≤ 11) = false ∧ q + 11 < i) := by
          rcases Nat.lt_or_ge (q + 11) i with h | h
          · exact .inr ⟨decide_eq_false (by omega), h⟩
          · exact .inl ⟨decide_eq_true (by omega), h⟩
        rcases t1 with ⟨t1, k1⟩ | ⟨t1, k1⟩ <;> first | (exfalso; omega) | skip
        all_goals rcases t2 with ⟨t2, k2⟩ | ⟨t2, k2⟩ <;> first | (exfalso; omega) | skip
        all_goals rcases t3 with ⟨t3, k3⟩ | ⟨t3, k3⟩ <;> first | (exfalso; omega) | skip
        all_goals rcases t4 with ⟨t4, k4⟩ | ⟨t4, k4⟩ <;> first | (exfalso; omega) | skip
        all_goals rcases t5 with ⟨t5, k5⟩ | ⟨t5, k5⟩ <;> first | (exfalso; omega) | skip
        all_goals
          go_wp2_with ((with_reducible refine load_l rfl (.tmp 11) rfl g _ HA.out.hl ?_ ?_); rfl)
          refine (aliveC _ (by rw [dl_own]; exact HO.out) _).mono ?_
          rintro e w2 ⟨rfl, b2⟩
          have HC := Lib.hid (dead_call HA.out b2)
          have jb := fun W => ix_b (aliveL (dl o k q i)) W k HK.out
          rw [HV.out] at jb
          clear b2
          go_wp2_with fail
          refine (lives _).mono ?_
          rintro e w3 ⟨rfl, b3⟩
          have HD := Lib.hid (dead_call HC.out b3)
          clear b3
          go_wp2
          go_ret
          exact ⟨rfl, HD.out.below⟩

end Go.Proofs.Ytnknjlhflgfccaa.Link
