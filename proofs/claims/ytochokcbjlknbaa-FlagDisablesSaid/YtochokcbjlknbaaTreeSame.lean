/- Trees: whether two are alike, how many entries there are; the program's. -/
import Derived.Test.YtochokcbjlknbaaTreeRefSame
import Derived.Test.YtochokcbjlknbaaTreeRight
namespace Go.Proofs.Ytochokcbjlknbaa
open Go.ChangeShapes Go.WideShapes Go.ChangeAt Go.RowKit
namespace Tr
open Sp Rw
end Tr
end Go.Proofs.Ytochokcbjlknbaa
