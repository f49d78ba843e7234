/- Is there an entry of a dot below keys. -/
import Derived.Test.YtnlojpolfkjkoaaGreatG00
import Derived.Test.YtnlojpolfkjkoaaGreatCauKit
import Derived.Test.YtnlojpolfkjkoaaGreatG10
import Derived.Test.YtnlojpolfkjkoaaGreatG20
namespace Go.Proofs.YtnlojpolfkjkoaaGreat
open Go.ChangeShapes Go.WideShapes Go.ChangeAt Go.RowKit
namespace Cs
open Tr Cx Sp Rw Classical
end Cs
end Go.Proofs.YtnlojpolfkjkoaaGreat
