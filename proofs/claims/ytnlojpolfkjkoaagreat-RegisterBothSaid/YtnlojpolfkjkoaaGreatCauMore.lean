/- Compared, cloned, told of some keys: the program's. -/
import Derived.Test.YtnlojpolfkjkoaaGreatG00
import Derived.Test.YtnlojpolfkjkoaaGreatCauJoin
namespace Go.Proofs.YtnlojpolfkjkoaaGreat
open Go.ChangeShapes Go.WideShapes Go.ChangeAt Go.RowKit
namespace Cs
open Tr Cx Sp Rw Classical
end Cs
end Go.Proofs.YtnlojpolfkjkoaaGreat
