/- Leaves of one dot, at one place: the document's place and find. -/
import Derived.Test.YtolanjimmbpijaaGreatG00
import Derived.Test.YtolanjimmbpijaaGreatG10
namespace Go.Proofs.YtolanjimmbpijaaGreat
open Go.ChangeShapes Go.WideShapes Go.ChangeAt Go.RowKit
namespace Cs
open Tr Cx Sp Rw Classical
end Cs
end Go.Proofs.YtolanjimmbpijaaGreat
