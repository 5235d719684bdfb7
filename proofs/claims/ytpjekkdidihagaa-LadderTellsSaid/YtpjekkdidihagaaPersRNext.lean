/- Contract of the reference's Next. Conditions: none. -/
import Derived.Test.YtpjekkdidihagaaPersNext
namespace Go.Proofs.Ytpjekkdidihagaa.Pers
open Go.ChangeShapes Go.WideShapes Go.ChangeAt Go.RowKit Num Bl

end Go.Proofs.Ytpjekkdidihagaa.Pers
