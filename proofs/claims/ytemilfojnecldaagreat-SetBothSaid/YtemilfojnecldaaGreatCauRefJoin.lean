/- Two joined: the document's. -/
import Derived.Test.YtemilfojnecldaaGreatG00
import Derived.Test.YtemilfojnecldaaGreatCauPlace
import Derived.Test.YtemilfojnecldaaGreatCauHasL
import Derived.Test.YtemilfojnecldaaGreatG120
import Derived.Test.YtemilfojnecldaaGreatCauKit
import Derived.Test.YtemilfojnecldaaGreatG20
import Derived.Test.YtemilfojnecldaaGreatTreeBuild
import Derived.Test.YtemilfojnecldaaGreatG10
import Derived.Test.YtemilfojnecldaaGreatTreeLeaves
namespace Go.Proofs.YtemilfojnecldaaGreat
open Go.ChangeShapes Go.WideShapes Go.ChangeAt Go.RowKit
namespace Cs
open Tr Cx Sp Rw Classical
end Cs
end Go.Proofs.YtemilfojnecldaaGreat
