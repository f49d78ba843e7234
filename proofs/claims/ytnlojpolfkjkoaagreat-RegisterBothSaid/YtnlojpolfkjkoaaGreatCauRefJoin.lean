/- Two joined: the document's. -/
import Derived.Test.YtnlojpolfkjkoaaGreatG00
import Derived.Test.YtnlojpolfkjkoaaGreatCauPlace
import Derived.Test.YtnlojpolfkjkoaaGreatCauHasL
import Derived.Test.YtnlojpolfkjkoaaGreatG120
import Derived.Test.YtnlojpolfkjkoaaGreatCauKit
import Derived.Test.YtnlojpolfkjkoaaGreatG20
import Derived.Test.YtnlojpolfkjkoaaGreatTreeBuild
import Derived.Test.YtnlojpolfkjkoaaGreatG10
import Derived.Test.YtnlojpolfkjkoaaGreatTreeLeaves
namespace Go.Proofs.YtnlojpolfkjkoaaGreat
open Go.ChangeShapes Go.WideShapes Go.ChangeAt Go.RowKit
namespace Cs
open Tr Cx Sp Rw Classical
end Cs
end Go.Proofs.YtnlojpolfkjkoaaGreat
