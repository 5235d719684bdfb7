/- Signals in memory: one, four of them in a block; what the modes are told; the package's table of edges; loads kept shut. Conditions: none. -/
import Derived.Test.YtkcibgknbjlnkaaBandNum
import Derived.Test.YtkcibgknbjlnkaaMem
namespace Go.Proofs.Ytkcibgknbjlnkaa.Band
open Go.ChangeShapes Go.WideShapes Go.ChangeAt Go.RowKit Num Mem

/-- What the modes are told. -/
structure Se where
  bd : Int
  l : Bool
  g : Bool
  w : Bool
  lv : Int
  cr : Int
  wd : Bool
abbrev seA (s : Se) : Array Value := #[.int .u8 s.bd, .bool s.l, .bool s.g, .bool s.w, .int .u8 s.lv, .int .u8 s.cr, .bool s.wd]
abbrev zSe : Se := ⟨0, false, false, false, 0, 0, false⟩

end Go.Proofs.Ytkcibgknbjlnkaa.Band
