/- Two joined: the document's. -/
import Derived.Test.YtochokcbjlknbaaGreatG00
import Derived.Test.YtochokcbjlknbaaGreatCauPlace
import Derived.Test.YtochokcbjlknbaaGreatCauHasL
import Derived.Test.YtochokcbjlknbaaGreatG120
import Derived.Test.YtochokcbjlknbaaGreatCauKit
import Derived.Test.YtochokcbjlknbaaGreatG20
import Derived.Test.YtochokcbjlknbaaGreatTreeBuild
import Derived.Test.YtochokcbjlknbaaGreatG10
import Derived.Test.YtochokcbjlknbaaGreatTreeLeaves
namespace Go.Proofs.YtochokcbjlknbaaGreat
open Go.ChangeShapes Go.WideShapes Go.ChangeAt Go.RowKit
namespace Cs
open Tr Cx Sp Rw Classical
end Cs
end Go.Proofs.YtochokcbjlknbaaGreat
