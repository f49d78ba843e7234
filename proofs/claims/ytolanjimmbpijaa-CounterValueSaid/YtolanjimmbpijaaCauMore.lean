/- Compared, cloned, told of some keys: the program's. -/
import Derived.Test.YtolanjimmbpijaaG00
import Derived.Test.YtolanjimmbpijaaCauJoin
namespace Go.Proofs.Ytolanjimmbpijaa
open Go.ChangeShapes Go.WideShapes Go.ChangeAt Go.RowKit
namespace Cs
open Tr Cx Sp Rw Classical
end Cs
end Go.Proofs.Ytolanjimmbpijaa
