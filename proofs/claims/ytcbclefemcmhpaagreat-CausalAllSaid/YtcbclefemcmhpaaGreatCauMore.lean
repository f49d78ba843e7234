/- Compared, cloned, told of some keys: the program's. -/
import Derived.Test.YtcbclefemcmhpaaGreatG00
import Derived.Test.YtcbclefemcmhpaaGreatCauJoin
namespace Go.Proofs.YtcbclefemcmhpaaGreat
open Go.ChangeShapes Go.WideShapes Go.ChangeAt Go.RowKit
namespace Cs
open Tr Cx Sp Rw Classical
end Cs
end Go.Proofs.YtcbclefemcmhpaaGreat
