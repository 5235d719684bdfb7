/- The contract of the document's own comparison of points: of the same points it says true. -/
import Derived.Test.YtpgknkpdceaogaaPts
import Derived.Test.YtpgknkpdceaogaaArrEq
namespace Go.Proofs.Ytpgknkpdceaogaa.Num
open Go.ChangeShapes Go.WideShapes Go.ChangeAt Go.RowKit

set_option maxHeartbeats 1000000 in
theorem points (A B : Option Addr) (n ca cb : Nat) (X Y : Nat → Int) (w : World) (hn : n ≤ maxLen) (hA : Pts w w.heap.size A n X Y) (hB : Pts w w.heap.size B n X Y) :
    Calls Try.prog 10 #[.slice A n ca, .slice B n cb] w fun e w' => e = .returned (.bool true) ∧ Below w.heap.size w w' := by
  unfold maxLen at hn
  have HA := Lib.hid hA
  have HB := Lib.hid hB
  clear hA hB
  go_enter Try.func10, Try.ntmps10
  go_wp2
  go_loopw [5] (fun i wr => ∃ k : Nat, k ≤ n ∧ i = .int .i64 k ∧ Below w.heap.size w wr) (fun i _ => n - (intOf i).toNat)
  case atStart => exact ⟨0, Nat.zero_le _, rfl, Below.refl _ _⟩
  case round =>
    obtain ⟨k, hk, rfl, hbl⟩ := hrel
    by_cases hlt : k < n
    · obtain ⟨b, off, rfl, hb, hc⟩ := (HA.out.next hbl) (by omega)
      obtain ⟨b', off', rfl, hb', hc'⟩ := (HB.out.next hbl) (by omega)
      have c0 := (hc k hlt).1
      have c1 := (hc k hlt).2
      have d0 := (hc' k hlt).1
      have d1 := (hc' k hlt).2
      have HBL := Lib.hid hbl
      clear hbl hc hc'
      go_wp2
      go_quiet (fail)
      go_wp2
      go_roundw
      case rel => exact ⟨k + 1, by omega, by go_num, below_drewN HBL.out _⟩
      case measure => simp [intOf]; omega
    · go_wp2
      go_ret
      exact ⟨rfl, hbl⟩

end Go.Proofs.Ytpgknkpdceaogaa.Num
