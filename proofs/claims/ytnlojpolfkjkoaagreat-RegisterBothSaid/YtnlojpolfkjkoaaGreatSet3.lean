/- Sets: the elements; is a text one of them: the program. -/
import Derived.Test.YtnlojpolfkjkoaaGreatSet1
namespace Go.Proofs.YtnlojpolfkjkoaaGreat
open Go.ChangeShapes Go.WideShapes Go.ChangeAt Go.RowKit
namespace Cs
open Tr Cx Sp Rw Classical
end Cs
end Go.Proofs.YtnlojpolfkjkoaaGreat
