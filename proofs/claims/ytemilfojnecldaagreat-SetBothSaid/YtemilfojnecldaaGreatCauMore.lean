/- Compared, cloned, told of some keys: the program's. -/
import Derived.Test.YtemilfojnecldaaGreatG00
import Derived.Test.YtemilfojnecldaaGreatCauJoin
namespace Go.Proofs.YtemilfojnecldaaGreat
open Go.ChangeShapes Go.WideShapes Go.ChangeAt Go.RowKit
namespace Cs
open Tr Cx Sp Rw Classical
end Cs
end Go.Proofs.YtemilfojnecldaaGreat
