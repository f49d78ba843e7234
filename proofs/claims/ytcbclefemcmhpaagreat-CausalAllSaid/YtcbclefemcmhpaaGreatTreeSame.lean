/- Trees: whether two are alike, how many entries there are; the program's. -/
import Derived.Test.YtcbclefemcmhpaaGreatTreeRefSame
import Derived.Test.YtcbclefemcmhpaaGreatTreeRight
namespace Go.Proofs.YtcbclefemcmhpaaGreat
open Go.ChangeShapes Go.WideShapes Go.ChangeAt Go.RowKit
namespace Tr
open Sp Rw
end Tr
end Go.Proofs.YtcbclefemcmhpaaGreat
