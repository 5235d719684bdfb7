/- Contract of the reference's Next. Conditions: none. -/
import Derived.Test.YtijjanoagimmhaaPersNext
namespace Go.Proofs.Ytijjanoagimmhaa.Pers
open Go.ChangeShapes Go.WideShapes Go.ChangeAt Go.RowKit Num Bl

end Go.Proofs.Ytijjanoagimmhaa.Pers
