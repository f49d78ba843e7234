/- What is known: which entries stay. -/
import Derived.Test.YtochokcbjlknbaaG00
import Derived.Test.YtochokcbjlknbaaCauHas
namespace Go.Proofs.Ytochokcbjlknbaa
open Go.ChangeShapes Go.WideShapes Go.ChangeAt Go.RowKit
namespace Cs
open Tr Cx Sp Rw
end Cs
end Go.Proofs.Ytochokcbjlknbaa
