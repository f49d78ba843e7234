/- Trees: whether two are alike, how many entries there are; the program's. -/
import Derived.Test.YtolanjimmbpijaaTreeRefSame
import Derived.Test.YtolanjimmbpijaaTreeRight
namespace Go.Proofs.Ytolanjimmbpijaa
open Go.ChangeShapes Go.WideShapes Go.ChangeAt Go.RowKit
namespace Tr
open Sp Rw
end Tr
end Go.Proofs.Ytolanjimmbpijaa
