/- Contracts of Next, Limit and Frames of layer 3 (lag), and of the document's own answers for them. Conditions: the arguments are int64 numbers. -/
import Derived.Test.YtblcejljgmjbcaaLag
namespace Go.Proofs.Ytblcejljgmjbcaa.Lag
open Go.ChangeShapes Go.WideShapes Go.ChangeAt Go.RowKit Num

def nextN (x t k : Int) : Int := if May x t k then nxt x t k else 0
def nextE (x t k : Int) : Int := if May x t k then 0 else 2
def limN (x t k s : Int) : Int := if May x t k ∧ 0 ≤ s then near x (nxt x t k) s else 0
def limE (x t k s : Int) : Int := if May x t k ∧ 0 ≤ s then 0 else 2

/-- Frames' loop, with so many rounds left. -/
def frm (t k : Int) : Nat → Nat → Int → Int × Bool
  | 0, _, _ => (0, false)
  | f + 1, n, x => if x = t then ((n : Int), true) else frm t k f (n + 1) (nxt x t k)
def frames (x t k m : Int) : Int × Bool := if May x t k ∧ 0 ≤ m ∧ m ≤ 65536 then frm t k (m.toNat + 1) 0 x else (0, false)

theorem frm_hit (t k : Int) (f n : Nat) : frm t k (f + 1) n t = ((n : Int), true) := by simp [frm]
theorem frm_on {t k : Int} (f n : Nat) {x : Int} (h : x ≠ t) : frm t k (f + 1) n x = frm t k f (n + 1) (nxt x t k) := by simp [frm, h]

theorem ret_nb {k : IntKind} {a b : Int} {c d : Bool} (h : b = a) (g : d = c) : Ending.returned (.tuple #[.int k a, .bool c]) = .returned (.tuple #[.int k b, .bool d]) := by rw [h, g]

set_option maxHeartbeats 400000 in
theorem next (x t k : Int) (w : World) :
    Calls Try.prog 6 #[.int .i64 x, .int .i64 t, .int .i64 k] w fun e w' => e = .returned (.tuple #[.int .i64 (nextN x t k), .int .i64 (nextE x t k)]) ∧ w = w' := by
  by_cases h : May x t k
  · have hd := Lib.hid (decide_eq_true h)
    have h' := Lib.hid h
    clear h
    go_enter Try.func6, Try.ntmps6
    go_wp2_with fail
    refine (mayFollow _ _ _ _).mono ?_
    rintro e w' ⟨rfl, rfl⟩
    rw [hd.out]
    go_wp2_with fail
    refine (follow _ _ _ _ h'.out.1 h'.out.2.1 h'.out.2.2.1).mono ?_
    rintro e w' ⟨rfl, rfl⟩
    go_wp2
    go_ret2
    exact ⟨ret_two (if_pos h'.out) (if_pos h'.out), rfl⟩
  · have hd := Lib.hid (decide_eq_false h)
    have h' := Lib.hid h
    clear h
    go_enter Try.func6, Try.ntmps6
    go_wp2_with fail
    refine (mayFollow _ _ _ _).mono ?_
    rintro e w' ⟨rfl, rfl⟩
    rw [hd.out]
    go_wp2
    go_ret2
    exact ⟨ret_two (if_neg h'.out) (if_neg h'.out), rfl⟩

set_option maxHeartbeats 400000 in
theorem rNext (x t k : Int) (w : World) :
    Calls Try.prog 7 #[.int .i64 x, .int .i64 t, .int .i64 k] w fun e w' => e = .returned (.tuple #[.int .i64 (nextN x t k), .int .i64 (nextE x t k)]) ∧ w = w' := by
  by_cases h : May x t k
  · have hd := Lib.hid (decide_eq_true h)
    have h' := Lib.hid h
    clear h
    go_enter Try.func7, Try.ntmps7
    go_wp2_with fail
    refine (rmay _ _ _ _).mono ?_
    rintro e w' ⟨rfl, rfl⟩
    rw [hd.out]
    go_wp2_with fail
    refine (rnext _ _ _ _ h'.out.1 h'.out.2.1 h'.out.2.2.1).mono ?_
    rintro e w' ⟨rfl, rfl⟩
    go_wp2
    go_ret2
    exact ⟨ret_two (if_pos h'.out) (if_pos h'.out), rfl⟩
  · have hd := Lib.hid (decide_eq_false h)
    have h' := Lib.hid h
    clear h
    go_enter Try.func7, Try.ntmps7
    go_wp2_with fail
    refine (rmay _ _ _ _).mono ?_
    rintro e w' ⟨rfl, rfl⟩
    rw [hd.out]
    go_wp2
    go_ret2
    exact ⟨ret_two (if_neg h'.out) (if_neg h'.out), rfl⟩

set_option maxHeartbeats 400000 in
theorem limit (x t k s : Int) (w : World) (hs : In s) :
    Calls Try.prog 8 #[.int .i64 x, .int .i64 t, .int .i64 k, .int .i64 s] w fun e w' => e = .returned (.tuple #[.int .i64 (limN x t k s), .int .i64 (limE x t k s)]) ∧ w = w' := by
  have hs' := Lib.hid hs
  clear hs
  by_cases h : May x t k
  · have hd := Lib.hid (decide_eq_true h)
    have h' := Lib.hid h
    clear h
    by_cases c : s < 0
    · go_enter Try.func8, Try.ntmps8
      go_wp2_with fail
      refine (mayFollow _ _ _ _).mono ?_
      rintro e w' ⟨rfl, rfl⟩
      rw [hd.out]
      go_wp2
      go_ret2
      exact ⟨ret_two (if_neg (by omega)) (if_neg (by omega)), rfl⟩
    · go_enter Try.func8, Try.ntmps8
      go_wp2_with fail
      refine (mayFollow _ _ _ _).mono ?_
      rintro e w' ⟨rfl, rfl⟩
      rw [hd.out]
      go_wp2_with fail
      refine (follow _ _ _ _ h'.out.1 h'.out.2.1 h'.out.2.2.1).mono ?_
      rintro e w' ⟨rfl, rfl⟩
      go_wp2_with fail
      refine (nearC _ _ _ _ (Be_In h'.out.1) (Be_In (nxt_Be h'.out.1 h'.out.2.1 h'.out.2.2.1)) hs'.out).mono ?_
      rintro e w' ⟨rfl, rfl⟩
      go_wp2
      go_ret2
      exact ⟨ret_two (if_pos ⟨h'.out, by omega⟩) (if_pos ⟨h'.out, by omega⟩), rfl⟩
  · have hd := Lib.hid (decide_eq_false h)
    have h' := Lib.hid h
    clear h
    go_enter Try.func8, Try.ntmps8
    go_wp2_with fail
    refine (mayFollow _ _ _ _).mono ?_
    rintro e w' ⟨rfl, rfl⟩
    rw [hd.out]
    go_wp2
    go_ret2
    exact ⟨ret_two (if_neg fun q => h'.out q.1) (if_neg fun q => h'.out q.1), rfl⟩

set_option maxHeartbeats 400000 in
theorem rLimit (x t k s : Int) (w : World) (hs : In s) :
    Calls Try.prog 9 #[.int .i64 x, .int .i64 t, .int .i64 k, .int .i64 s] w fun e w' => e = .returned (.tuple #[.int .i64 (limN x t k s), .int .i64 (limE x t k s)]) ∧ w = w' := by
  have hs' := Lib.hid hs
  clear hs
  by_cases h : May x t k
  · have hd := Lib.hid (decide_eq_true h)
    have h' := Lib.hid h
    clear h
    by_cases c : s < 0
    · go_enter Try.func9, Try.ntmps9
      go_wp2_with fail
      refine (rmay _ _ _ _).mono ?_
      rintro e w' ⟨rfl, rfl⟩
      rw [hd.out]
      go_wp2
      go_ret2
      exact ⟨ret_two (if_neg (by omega)) (if_neg (by omega)), rfl⟩
    · go_enter Try.func9, Try.ntmps9
      go_wp2_with fail
      refine (rmay _ _ _ _).mono ?_
      rintro e w' ⟨rfl, rfl⟩
      rw [hd.out]
      go_wp2_with fail
      refine (rnext _ _ _ _ h'.out.1 h'.out.2.1 h'.out.2.2.1).mono ?_
      rintro e w' ⟨rfl, rfl⟩
      go_wp2_with fail
      refine (rnear _ _ _ _ (Be_In h'.out.1) (Be_In (nxt_Be h'.out.1 h'.out.2.1 h'.out.2.2.1)) hs'.out).mono ?_
      rintro e w' ⟨rfl, rfl⟩
      go_wp2
      go_ret2
      exact ⟨ret_two (if_pos ⟨h'.out, by omega⟩) (if_pos ⟨h'.out, by omega⟩), rfl⟩
  · have hd := Lib.hid (decide_eq_false h)
    have h' := Lib.hid h
    clear h
    go_enter Try.func9, Try.ntmps9
    go_wp2_with fail
    refine (rmay _ _ _ _).mono ?_
    rintro e w' ⟨rfl, rfl⟩
    rw [hd.out]
    go_wp2
    go_ret2
    exact ⟨ret_two (if_neg fun q => h'.out q.1) (if_neg fun q => h'.out q.1), rfl⟩

/-- Where Frames' loop stands: what is left tells the same. -/
def Rel (x t k : Int) (m : Nat) (j : Nat) (y : Int) : Prop := Be y ∧ frm t k (m + 1 - j) j y = frm t k (m + 1) 0 x

theorem rel_end {x t k : Int} {m : Nat} {y : Int} (h : Rel x t k m (m + 1) y) : frm t k (m + 1) 0 x = (0, false) := by
  rw [← h.2, Nat.sub_self]; rfl
theorem rel_hit {x t k : Int} {m j : Nat} (hj : j < m + 1) (h : Rel x t k m j t) : frm t k (m + 1) 0 x = ((j : Int), true) := by
  rw [← h.2, show m + 1 - j = (m - j) + 1 by omega, frm_hit]
theorem rel_on {x t k : Int} {m j : Nat} {y : Int} (ht : Be t) (hk : 1 ≤ k) (hj : j < m + 1) (hy : y ≠ t) (h : Rel x t k m j y) : Rel x t k m (j + 1) (nxt y t k) := by
  refine ⟨nxt_Be h.1 ht hk, ?_⟩
  rw [← h.2, show m + 1 - j = (m - j) + 1 by omega, frm_on _ _ hy, show m + 1 - (j + 1) = m - j by omega]

set_option maxHeartbeats 800000 in
theorem framesC (x t k m : Int) (w : World) :
    Calls Try.prog 10 #[.int .i64 x, .int .i64 t, .int .i64 k, .int .i64 m] w fun e w' => e = .returned (.tuple #[.int .i64 (frames x t k m).1, .bool (frames x t k m).2]) ∧ w = w' := by
  by_cases h : May x t k
  · have hd := Lib.hid (decide_eq_true h)
    have h' := Lib.hid h
    clear h
    by_cases c : 0 ≤ m ∧ m ≤ 65536
    · have ef : Hid (frames x t k m = frm t k (m.toNat + 1) 0 x) := Lib.hid (if_pos ⟨h'.out, c.1, c.2⟩)
      obtain ⟨c1, c2⟩ := c
      obtain ⟨n, rfl⟩ : ∃ n : Nat, m = n := ⟨m.toNat, by omega⟩
      rw [Int.toNat_natCast] at ef
      have hn : n ≤ 65536 := by omega
      clear c1 c2
      go_enter Try.func10, Try.ntmps10
      go_wp2_with fail
      refine (mayFollow _ _ _ _).mono ?_
      rintro e w' ⟨rfl, rfl⟩
      rw [hd.out]
      go_wp2
      go_loop [0, 26] (fun a i => ∃ (j : Nat) (y : Int), j ≤ n + 1 ∧ i = .int .i64 j ∧ a = .int .i64 y ∧ Hid (Rel x t k n j y)) (fun _ i => n + 1 - (intOf i).toNat)
      case atStart => exact ⟨0, x, by omega, rfl, rfl, Lib.hid ⟨h'.out.1, rfl⟩⟩
      case round =>
        obtain ⟨j, y, hj, rfl, rfl, hr⟩ := hrel
        by_cases hlt : j < n + 1
        · by_cases hy : y = t
          · subst hy
            go_wp2
            go_ret2
            exact ⟨ret_nb (by rw [ef.out, rel_hit hlt hr.out]) (by rw [ef.out, rel_hit hlt hr.out]), rfl⟩
          · have hy0 : (y == t) = false := by simpa using hy
            have hy' := Lib.hid hy
            clear hy
            go_wp2_with fail
            refine (follow _ _ _ _ hr.out.1 h'.out.2.1 h'.out.2.2.1).mono ?_
            rintro e w' ⟨rfl, rfl⟩
            go_wp2
            go_round
            case rel => exact ⟨j + 1, _, by omega, by go_num, rfl, Lib.hid (rel_on h'.out.2.1 h'.out.2.2.1 hlt hy'.out hr.out)⟩
            case measure => simp [intOf]; omega
        · obtain rfl : j = n + 1 := by omega
          go_wp2
          go_ret2
          exact ⟨ret_nb (by rw [ef.out, rel_end hr.out]) (by rw [ef.out, rel_end hr.out]), rfl⟩
    · have ef : Hid (frames x t k m = (0, false)) := Lib.hid (if_neg fun q => c q.2)
      rcases (show m < 0 ∨ (0 ≤ m ∧ 65536 < m) by omega) with c1 | ⟨c1, c2⟩
      all_goals
        clear c
        go_enter Try.func10, Try.ntmps10
        go_wp2_with fail
        refine (mayFollow _ _ _ _).mono ?_
        rintro e w' ⟨rfl, rfl⟩
        rw [hd.out]
        go_wp2
        go_ret2
        exact ⟨ret_nb (by rw [ef.out]) (by rw [ef.out]), rfl⟩
  · have hd := Lib.hid (decide_eq_false h)
    have ef : Hid (frames x t k m = (0, false)) := Lib.hid (if_neg fun q => h q.1)
    clear h
    go_enter Try.func10, Try.ntmps10
    go_wp2_with fail
    refine (mayFollow _ _ _ _).mono ?_
    rintro e w' ⟨rfl, rfl⟩
    rw [hd.out]
    go_wp2
    go_ret2
    exact ⟨ret_nb (by rw [ef.out]) (by rw [ef.out]), rfl⟩

set_option maxHeartbeats 800000 in
theorem rframes (x t k m : Int) (w : World) :
    Calls Try.prog 11 #[.int .i64 x, .int .i64 t, .int .i64 k, .int .i64 m] w fun e w' => e = .returned (.tuple #[.int .i64 (frames x t k m).1, .bool (frames x t k m).2]) ∧ w = w' := by
  by_cases h : May x t k
  · have hd := Lib.hid (decide_eq_true h)
    have h' := Lib.hid h
    clear h
    by_cases c : 0 ≤ m ∧ m ≤ 65536
    · have ef : Hid (frames x t k m = frm t k (m.toNat + 1) 0 x) := Lib.hid (if_pos ⟨h'.out, c.1, c.2⟩)
      obtain ⟨c1, c2⟩ := c
      obtain ⟨n, rfl⟩ : ∃ n : Nat, m = n := ⟨m.toNat, by omega⟩
      rw [Int.toNat_natCast] at ef
      have hn : n ≤ 65536 := by omega
      clear c1 c2
      go_enter Try.func11, Try.ntmps11
      go_wp2_with fail
      refine (rmay _ _ _ _).mono ?_
      rintro e w' ⟨rfl, rfl⟩
      rw [hd.out]
      go_wp2
      go_loop [0, 10] (fun a i => ∃ (j : Nat) (y : Int), j ≤ n + 1 ∧ i = .int .i64 j ∧ a = .int .i64 y ∧ Hid (Rel x t k n j y)) (fun _ i => n + 1 - (intOf i).toNat)
      case atStart => exact ⟨0, x, by omega, rfl, rfl, Lib.hid ⟨h'.out.1, rfl⟩⟩
      case round =>
        obtain ⟨j, y, hj, rfl, rfl, hr⟩ := hrel
        by_cases hlt : j < n + 1
        · by_cases hy : y = t
          · subst hy
            go_wp2
            go_ret2
            exact ⟨ret_nb (by rw [ef.out, rel_hit hlt hr.out]) (by rw [ef.out, rel_hit hlt hr.out]), rfl⟩
          · have hy0 : (y == t) = false := by simpa using hy
            have hy' := Lib.hid hy
            clear hy
            go_wp2_with fail
            refine (rnext _ _ _ _ hr.out.1 h'.out.2.1 h'.out.2.2.1).mono ?_
            rintro e w' ⟨rfl, rfl⟩
            go_wp2
            go_round
            case rel => exact ⟨j + 1, _, by omega, by go_num, rfl, Lib.hid (rel_on h'.out.2.1 h'.out.2.2.1 hlt hy'.out hr.out)⟩
            case measure => simp [intOf]; omega
        · obtain rfl : j = n + 1 := by omega
          go_wp2
          go_ret2
          exact ⟨ret_nb (by rw [ef.out, rel_end hr.out]) (by rw [ef.out, rel_end hr.out]), rfl⟩
    · have ef : Hid (frames x t k m = (0, false)) := Lib.hid (if_neg fun q => c q.2)
      rcases (show m < 0 ∨ (0 ≤ m ∧ 65536 < m) by omega) with c1 | ⟨c1, c2⟩
      all_goals
        clear c
        go_enter Try.func11, Try.ntmps11
        go_wp2_with fail
        refine (rmay _ _ _ _).mono ?_
        rintro e w' ⟨rfl, rfl⟩
        rw [hd.out]
        go_wp2
        go_ret2
        exact ⟨ret_nb (by rw [ef.out]) (by rw [ef.out]), rfl⟩
  · have hd := Lib.hid (decide_eq_false h)
    have ef : Hid (frames x t k m = (0, false)) := Lib.hid (if_neg fun q => h q.1)
    clear h
    go_enter Try.func11, Try.ntmps11
    go_wp2_with fail
    refine (rmay _ _ _ _).mono ?_
    rintro e w' ⟨rfl, rfl⟩
    rw [hd.out]
    go_wp2
    go_ret2
    exact ⟨ret_nb (by rw [ef.out]) (by rw [ef.out]), rfl⟩
end Go.Proofs.Ytblcejljgmjbcaa.Lag
