/- Compared, cloned, told of some keys: the program's. -/
import Derived.Test.YtochokcbjlknbaaG00
import Derived.Test.YtochokcbjlknbaaCauJoin
namespace Go.Proofs.Ytochokcbjlknbaa
open Go.ChangeShapes Go.WideShapes Go.ChangeAt Go.RowKit
namespace Cs
open Tr Cx Sp Rw Classical
end Cs
end Go.Proofs.Ytochokcbjlknbaa
