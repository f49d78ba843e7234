/- Is there an entry of a dot below keys. -/
import Derived.Test.YtochokcbjlknbaaGreatG00
import Derived.Test.YtochokcbjlknbaaGreatCauKit
import Derived.Test.YtochokcbjlknbaaGreatG10
import Derived.Test.YtochokcbjlknbaaGreatG20
namespace Go.Proofs.YtochokcbjlknbaaGreat
open Go.ChangeShapes Go.WideShapes Go.ChangeAt Go.RowKit
namespace Cs
open Tr Cx Sp Rw Classical
end Cs
end Go.Proofs.YtochokcbjlknbaaGreat
