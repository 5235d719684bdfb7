/- Contracts of persist.Next and of the reference's Next. Conditions: none. -/
import Derived.Test.YtpjekkdidihagaaPers
import Derived.Deep.DeepCutAuto
namespace Go.Proofs.Ytpjekkdidihagaa.Pers
open Go.ChangeShapes Go.WideShapes Go.ChangeAt Go.RowKit Num Bl

end Go.Proofs.Ytpjekkdidihagaa.Pers
