/- Trees: whether two are alike, how many entries there are; the program's. -/
import Derived.Test.YtemilfojnecldaaGreatTreeRefSame
import Derived.Test.YtemilfojnecldaaGreatTreeRight
namespace Go.Proofs.YtemilfojnecldaaGreat
open Go.ChangeShapes Go.WideShapes Go.ChangeAt Go.RowKit
namespace Tr
open Sp Rw
end Tr
end Go.Proofs.YtemilfojnecldaaGreat
