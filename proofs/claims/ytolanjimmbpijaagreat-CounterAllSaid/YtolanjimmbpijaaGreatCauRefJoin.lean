/- Two joined: the document's. -/
import Derived.Test.YtolanjimmbpijaaGreatG00
import Derived.Test.YtolanjimmbpijaaGreatCauPlace
import Derived.Test.YtolanjimmbpijaaGreatCauHasL
import Derived.Test.YtolanjimmbpijaaGreatG120
import Derived.Test.YtolanjimmbpijaaGreatCauKit
import Derived.Test.YtolanjimmbpijaaGreatG20
import Derived.Test.YtolanjimmbpijaaGreatTreeBuild
import Derived.Test.YtolanjimmbpijaaGreatG10
import Derived.Test.YtolanjimmbpijaaGreatTreeLeaves
namespace Go.Proofs.YtolanjimmbpijaaGreat
open Go.ChangeShapes Go.WideShapes Go.ChangeAt Go.RowKit
namespace Cs
open Tr Cx Sp Rw Classical
end Cs
end Go.Proofs.YtolanjimmbpijaaGreat
