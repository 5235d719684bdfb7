/- The closed examples of layer 1 (the law's own 'lives'): the call returns true and leaves the world as it was. No condition. -/
import Derived.Test.YtlllflhmoeoklaaNumMul
namespace Go.Proofs.Ytlllflhmoeoklaa.Num
open Go.ChangeShapes Go.WideShapes Go.ChangeAt Go.RowKit

set_option maxHeartbeats 800000 in
theorem lives (w : World) :
    Calls Try.prog 16 #[] w fun e w' => e = .returned (.bool true) ∧ w = w' := by
  go_enter Try.func16, Try.ntmps16
  go_wp2
  go_ret
  exact ⟨rfl, rfl⟩
end Go.Proofs.Ytlllflhmoeoklaa.Num
