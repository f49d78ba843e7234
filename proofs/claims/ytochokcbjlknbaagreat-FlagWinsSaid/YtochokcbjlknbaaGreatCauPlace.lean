/- Leaves of one dot, at one place: the document's place and find. -/
import Derived.Test.YtochokcbjlknbaaGreatG00
import Derived.Test.YtochokcbjlknbaaGreatG10
namespace Go.Proofs.YtochokcbjlknbaaGreat
open Go.ChangeShapes Go.WideShapes Go.ChangeAt Go.RowKit
namespace Cs
open Tr Cx Sp Rw Classical
end Cs
end Go.Proofs.YtochokcbjlknbaaGreat
