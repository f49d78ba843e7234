/- Is there an entry of a dot below keys. -/
import Derived.Test.YtemilfojnecldaaGreatG00
import Derived.Test.YtemilfojnecldaaGreatCauKit
import Derived.Test.YtemilfojnecldaaGreatG10
import Derived.Test.YtemilfojnecldaaGreatG20
namespace Go.Proofs.YtemilfojnecldaaGreat
open Go.ChangeShapes Go.WideShapes Go.ChangeAt Go.RowKit
namespace Cs
open Tr Cx Sp Rw Classical
end Cs
end Go.Proofs.YtemilfojnecldaaGreat
