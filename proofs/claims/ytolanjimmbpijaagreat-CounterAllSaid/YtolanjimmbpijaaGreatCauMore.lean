/- Compared, cloned, told of some keys: the program's. -/
import Derived.Test.YtolanjimmbpijaaGreatG00
import Derived.Test.YtolanjimmbpijaaGreatCauJoin
namespace Go.Proofs.YtolanjimmbpijaaGreat
open Go.ChangeShapes Go.WideShapes Go.ChangeAt Go.RowKit
namespace Cs
open Tr Cx Sp Rw Classical
end Cs
end Go.Proofs.YtolanjimmbpijaaGreat
