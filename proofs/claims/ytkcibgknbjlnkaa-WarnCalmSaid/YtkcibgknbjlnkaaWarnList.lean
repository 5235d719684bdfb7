/- Contracts of the least of a list of warnings, and of their words; of the document's own. Conditions: a slice's reach; a warning is no less than 0. -/
import Derived.Test.YtkcibgknbjlnkaaWarnRow
import Derived.Test.YtkcibgknbjlnkaaByt
namespace Go.Proofs.Ytkcibgknbjlnkaa.Wr
open Go.ChangeShapes Go.WideShapes Go.ChangeAt Go.RowKit Num Mem Md
open By (Bys)

theorem cntC (x : Int) (w : World) : Calls Try.prog 16 #[.int .u8 x] w fun e w' => e = .returned (.bool (inW x)) ∧ w = w' := by
  have HA := Lib.hid (show inW x = (decide (1 ≤ x) && decide (x ≤ 4)) from rfl)
  by_cases h : 1 ≤ x
  all_goals
    have HB := Lib.hid h
    go_enter Try.func16, Try.ntmps16
    go_wp2
    go_ret
    exact ⟨ret_bool (by have := HB.out; rw [HA.out]; simp [this] <;> omega), rfl⟩
theorem cntYes (x : Int) (h : inW x = true) (w : World) : Calls Try.prog 16 #[.int .u8 x] w fun e w' => e = .returned (.bool true) ∧ w = w' := by
  have := cntC x w
  rwa [h] at this
theorem cntNo (x : Int) (h : inW x = false) (w : World) : Calls Try.prog 16 #[.int .u8 x] w fun e w' => e = .returned (.bool false) ∧ w = w' := by
  have := cntC x w
  rwa [h] at this

set_option maxRecDepth 100000 in
set_option maxHeartbeats 4000000 in
theorem leastC (A : Option Addr) (n c : Nat) (K : Nat → Int) (w : World) (hn : n ≤ 140737488355328) (hP : Bys w w.heap.size A n K) :
    Calls Try.prog 15 #[.slice A n c, .func (.func 16) #[] #[]] w fun e w' => e = .returned (.tuple #[.int .u8 (grv K n), .bool (grv K n != 0)]) ∧ w = w' := by
  have HP := Lib.hid hP
  have n1 : (n : Int) ≤ 140737488355328 := by omega
  clear hP
  go_enter Try.func15, Try.ntmps15
  go_wp2
  go_loop [6, 7, 12] (fun x q i => ∃ (k : Nat) (p : Bool), k ≤ n ∧ i = .int .i64 k ∧ x = .int .u8 (grv K k) ∧ q = .bool p ∧ Hid (p = (grv K k != 0))) (fun _ _ i => n - (intOf i).toNat)
  case atStart => exact ⟨0, false, Nat.zero_le _, rfl, rfl, rfl, rfl⟩
  case round =>
    obtain ⟨k, p, hk, rfl, rfl, rfl, Hp⟩ := hrel
    by_cases hkn : k < n
    · obtain ⟨b, off, rfl, hb, hc0⟩ := HP.out (by omega)
      have hcl := hc0 k hkn
      have HE : Hid (grv K (k + 1) = pk (grv K k) (K k)) := show grv K (k + 1) = _ from rfl
      have k1 : (k : Int) < (n : Int) := by omega
      clear hc0
      generalize grv K k = g at *
      generalize K k = u at *
      by_cases hu : inW u = true
      · have hu0 := inW_of hu
        have HU := Lib.hid hu
        have HV := Lib.hid (show (u != 0) = true by simp; omega)
        clear hu hu0
        cases p
        · have hg : g = 0 := by have := Hp.out; simpa using this.symm
          have HF := Lib.hid (show grv K (k + 1) = u by rw [HE.out, pk_yes HU.out (Or.inl hg)])
          clear hg
          go_wp2_with (refine (cntYes u HU.out _).mono ?_; rintro e w' ⟨rfl, rfl⟩)
          go_round
          case rel => exact ⟨k + 1, true, by omega, by go_num, by rw [HF.out], rfl, by rw [HF.out, HV.out]; rfl⟩
          case measure => simp [intOf]; omega
        · have hg : g ≠ 0 := by have := Hp.out; intro e; rw [e] at this; cases this
          by_cases hl : u < g
          · have HF := Lib.hid (show grv K (k + 1) = u by rw [HE.out, pk_yes HU.out (Or.inr hl)])
            clear hg
            go_wp2_with (refine (cntYes u HU.out _).mono ?_; rintro e w' ⟨rfl, rfl⟩)
            go_round
            case rel => exact ⟨k + 1, true, by omega, by go_num, by rw [HF.out], rfl, by rw [HF.out, HV.out]; rfl⟩
            case measure => simp [intOf]; omega
          · have HF := Lib.hid (show grv K (k + 1) = g by rw [HE.out, pk_no HU.out hg hl])
            clear hg
            go_wp2_with (refine (cntYes u HU.out _).mono ?_; rintro e w' ⟨rfl, rfl⟩)
            go_round
            case rel => exact ⟨k + 1, true, by omega, by go_num, by rw [HF.out], rfl, by rw [HF.out]; exact Hp⟩
            case measure => simp [intOf]; omega
      · have HU := Lib.hid (show inW u = false by simpa using hu)
        have HF := Lib.hid (show grv K (k + 1) = g by rw [HE.out, pk_out HU.out])
        clear hu
        go_wp2_with (refine (cntNo u HU.out _).mono ?_; rintro e w' ⟨rfl, rfl⟩)
        go_round
        case rel => exact ⟨k + 1, p, by omega, by go_num, by rw [HF.out], rfl, by rw [HF.out]; exact Hp⟩
        case measure => simp [intOf]; omega
    · obtain rfl : k = n := by omega
      go_wp2
      go_ret2
      exact ⟨by rw [Hp.out]; rfl, rfl⟩

theorem gravestC (A : Option Addr) (n c : Nat) (K : Nat → Int) (w : World) (hn : n ≤ 140737488355328) (hP : Bys w w.heap.size A n K) :
    Calls Try.prog 9 #[.slice A n c] w fun e w' => e = .returned (.int .u8 (grv K n)) ∧ w = w' := by
  have LC := Lib.hid (leastC A n c K w hn hP)
  clear hP
  generalize grv K n = g at *
  obtain ⟨p, hp⟩ : ∃ p, (g != 0) = p := ⟨_, rfl⟩
  rw [hp] at LC
  have HP := Lib.hid hp
  clear hp
  cases p
  all_goals
    go_enter Try.func9, Try.ntmps9
    go_wp2_with (refine LC.out.mono ?_; rintro e w' ⟨rfl, rfl⟩)
    go_ret
    exact ⟨by have := HP.out; first | rfl | (have e0 : g = 0 := by simpa using this
                                             rw [e0]; rfl), rfl⟩

set_option maxRecDepth 100000 in
set_option maxHeartbeats 4000000 in
theorem rGravestC (A : Option Addr) (n c : Nat) (K : Nat → Int) (w : World) (hn : n ≤ 140737488355328) (hP : Bys w w.heap.size A n K) :
    Calls Try.prog 10 #[.slice A n c] w fun e w' => e = .returned (.int .u8 (grv K n)) ∧ w = w' := by
  have HP := Lib.hid hP
  have n1 : (n : Int) ≤ 140737488355328 := by omega
  clear hP
  go_enter Try.func10, Try.ntmps10
  go_wp2
  go_loop [3] (fun i => ∃ x : Int, i = .int .u8 x ∧ 1 ≤ x ∧ x ≤ 5 ∧ Hid (Past K n x)) (fun i => (5 - intOf i).toNat)
  case atStart => exact ⟨1, rfl, by omega, by omega, past_one K n⟩
  case round =>
    obtain ⟨x, rfl, x1, x5, HX⟩ := hrel
    by_cases hx4 : x ≤ 4
    · go_wp2
      go_loop [4] (fun i => ∃ k : Nat, i = .int .i64 k ∧ k ≤ n ∧ Hid (∀ j, j < k → K j ≠ x)) (fun i => n - (intOf i).toNat)
      case atStart => exact ⟨0, rfl, by omega, fun j hj => absurd hj (Nat.not_lt_zero j)⟩
      case round =>
        obtain ⟨k, rfl, hk, HN⟩ := hrel
        by_cases hkn : k < n
        · obtain ⟨b, off, rfl, hb, hc0⟩ := HP.out (by omega)
          have hcl := hc0 k hkn
          have k1 : (k : Int) < (n : Int) := by omega
          clear hc0
          by_cases hv : K k = x
          · have HR := Lib.hid (show grv K n = x from past_hit HX.out hkn hv x1 hx4)
            go_wp2
            go_ret
            exact ⟨by rw [HR.out]; rfl, rfl⟩
          · have HM : Hid (∀ j, j < k + 1 → K j ≠ x) := fun j hj => by
              rcases Nat.lt_succ_iff_lt_or_eq.1 hj with h | h
              · exact HN.out j h
              · rw [h]; exact hv
            go_wp2
            go_round
            case rel => exact ⟨k + 1, by go_num, by omega, HM⟩
            case measure => simp [intOf]; omega
        · obtain rfl : k = n := by omega
          have HY : Hid (Past K k (x + 1)) := past_next HX.out HN.out
          go_wp2
          go_round
          case rel => exact ⟨x + 1, by go_num, by omega, by omega, HY⟩
          case measure => simp [intOf]; omega
    · obtain rfl : x = 5 := by omega
      have HR := Lib.hid (past_end HX.out)
      go_wp2
      go_ret
      exact ⟨by rw [HR.out]; rfl, rfl⟩

end Go.Proofs.Ytkcibgknbjlnkaa.Wr
