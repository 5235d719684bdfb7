/- Four signals' healths in memory, known whole: what lies at a place, a signal's part, one source put out. Conditions: none. -/
import Derived.Test.YtpjekkdidihagaaVote
import Derived.Deep.MidRow
namespace Go.Proofs.Ytpjekkdidihagaa.Vote
open Go.ChangeShapes Go.WideShapes Go.ChangeAt Go.RowKit Num Bl Pers Mid

end Go.Proofs.Ytpjekkdidihagaa.Vote
