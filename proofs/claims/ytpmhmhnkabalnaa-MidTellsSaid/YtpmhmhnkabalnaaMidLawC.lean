/- The walk of the law MidTells: it returns true and turns nothing that was there. Conditions: the numbers are int64; the list is a slice of int64 numbers. -/
import Derived.Test.YtpmhmhnkabalnaaMidLaw
namespace Go.Proofs.Ytpmhmhnkabalnaa.Mid
open Go.ChangeShapes Go.WideShapes Go.ChangeAt Go.RowKit Num

theorem Ints.here {w : World} {A : Option Addr} {n : Nat} {L : Nat → Int} (h : Ints w w.heap.size A n L) (k : Nat) : Ints (w.drewN k) (w.drewN k).heap.size A n L := h

set_option maxHeartbeats 2000000 in
set_option maxRecDepth 100000 in
theorem tellsLaw (a b c d : Int) (A : Option Addr) (n k : Nat) (L : Nat → Int) (w : World) (ha : In a) (hb : In b) (hd : In d) (hn : n ≤ maxLen) (hnil : A = none → n = 0 ∧ k = 0) (hL : ∀ i, i < n → In (L i)) (hP : Ints w w.heap.size A n L) :
    Calls Try.prog 3 #[.int .i64 a, .int .i64 b, .int .i64 c, .int .i64 d, .slice A n k] w fun e w' => e = .returned (.bool true) ∧ Below w.heap.size w w' := by
  have HN := Lib.hid hn
  unfold maxLen at hn
  have HP := Lib.hid hP
  have HL := Lib.hid hL
  have HNil := Lib.hid hnil
  have ha' := Lib.hid ha
  have hb' := Lib.hid hb
  have hd' := Lib.hid hd
  clear hP hnil hL ha hb hd
  by_cases h100 : n ≤ 100
  · go_enter Try.func3, Try.ntmps3
    go_wp2_with (at_builtin; refine wpList_append_ints rfl (.tmp 21) (.tmp 22) rfl A n k L rfl rfl HP.out HNil.out h100 ?_; intro A' c' w1 p1 b1)
    have P1 := Lib.hid p1
    have B1 := Lib.hid b1
    clear p1 b1
    refine (ofC A' n c' L _ HN.out HL.out P1.out).mono ?_
    rintro e w2 ⟨rfl, b2⟩
    have P2 := Lib.hid (P1.out.next b2)
    have B2 := Lib.hid (bthen B1.out b2)
    clear b2
    go_wp2_with fail
    refine (rOf A n k L _ HN.out HL.out (HP.out.next B2.out)).mono ?_
    rintro e w3 ⟨rfl, b3⟩
    have P3 := Lib.hid (P2.out.next b3)
    have B3 := Lib.hid (bthen B2.out b3)
    clear b3
    generalize ofN n L = x
    generalize ofB n = y
    go_wp2
    go_loopw [16] (fun i wr => ∃ j : Nat, j ≤ n ∧ i = .int .i64 j ∧ Below w3.heap.size w3 wr) (fun i _ => n - (intOf i).toNat)
    case atStart => exact ⟨0, Nat.zero_le _, rfl, Below.refl _ _⟩
    case round =>
      obtain ⟨j, hj, rfl, hbl⟩ := hrel
      have HB := Lib.hid hbl
      clear hbl
      by_cases hlt : j < n
      · obtain ⟨b0, o0, rfl, g0, hc0⟩ := (P3.out.next HB.out) (by omega)
        obtain ⟨b4, o4, rfl, g4, hc4⟩ := (HP.out.next (bthen B3.out HB.out)) (by omega)
        have c0 := hc0 j hlt
        have c4 := hc4 j hlt
        clear hc0 hc4
        generalize L j = l at c0 c4
        go_wp2
        go_quiet (fail)
        go_wp2
        go_roundw
        case rel => exact ⟨j + 1, by omega, by go_num, below_drewN HB.out _⟩
        case measure => simp [intOf]; omega
      · have B4 := Lib.hid (bthen B3.out HB.out)
        go_wp2_with fail
        refine (middleC a b c _).mono ?_
        rintro e w' ⟨rfl, rfl⟩
        go_wp2_with fail
        refine (rMiddle a b c _).mono ?_
        rintro e w' ⟨rfl, rfl⟩
        go_wp2_with fail
        refine (averageC a b _ ha'.out hb'.out).mono ?_
        rintro e w' ⟨rfl, rfl⟩
        go_wp2_with fail
        refine (rAverage a b _ ha'.out hb'.out).mono ?_
        rintro e w' ⟨rfl, rfl⟩
        go_wp2_with fail
        refine (farC a b d _ ha'.out hb'.out hd'.out).mono ?_
        rintro e w' ⟨rfl, rfl⟩
        go_wp2_with fail
        refine (rFar a b d _ ha'.out hb'.out hd'.out).mono ?_
        rintro e w' ⟨rfl, rfl⟩
        go_wp2_with fail
        refine (lives _).mono ?_
        rintro e w5 ⟨rfl, b5⟩
        have B5 := Lib.hid (bthen B4.out b5)
        clear b5
        go_wp2
        go_ret
        exact ⟨rfl, B5.out⟩
  · go_enter Try.func3, Try.ntmps3
    go_wp2_with fail
    refine (lives _).mono ?_
    rintro e w2 ⟨rfl, b2⟩
    have B2 := Lib.hid b2
    clear b2
    go_wp2
    go_ret
    exact ⟨rfl, B2.out⟩

end Go.Proofs.Ytpmhmhnkabalnaa.Mid
