/- Sets: what may be changed; an element is taken away: the program. -/
import Derived.Test.YtnlojpolfkjkoaaGreatG00
import Derived.Test.YtnlojpolfkjkoaaGreatG1220
import Derived.Test.YtnlojpolfkjkoaaGreatFlag2
import Derived.Test.YtnlojpolfkjkoaaGreatG90
import Derived.Test.YtnlojpolfkjkoaaGreatG20
import Derived.Test.YtnlojpolfkjkoaaGreatG10
import Derived.Test.YtnlojpolfkjkoaaGreatG140
namespace Go.Proofs.YtnlojpolfkjkoaaGreat
open Go.ChangeShapes Go.WideShapes Go.ChangeAt Go.RowKit
namespace Cs
open Tr Cx Sp Rw Classical
end Cs
end Go.Proofs.YtnlojpolfkjkoaaGreat
