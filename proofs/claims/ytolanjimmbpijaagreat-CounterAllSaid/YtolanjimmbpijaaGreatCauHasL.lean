/- Is there an entry of a dot below keys. -/
import Derived.Test.YtolanjimmbpijaaGreatG00
import Derived.Test.YtolanjimmbpijaaGreatCauKit
import Derived.Test.YtolanjimmbpijaaGreatG10
import Derived.Test.YtolanjimmbpijaaGreatG20
namespace Go.Proofs.YtolanjimmbpijaaGreat
open Go.ChangeShapes Go.WideShapes Go.ChangeAt Go.RowKit
namespace Cs
open Tr Cx Sp Rw Classical
end Cs
end Go.Proofs.YtolanjimmbpijaaGreat
