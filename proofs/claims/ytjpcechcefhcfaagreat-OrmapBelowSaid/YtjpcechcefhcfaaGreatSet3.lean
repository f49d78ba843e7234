/- Sets: the elements; is a text one of them: the program. -/
import Derived.Test.YtjpcechcefhcfaaGreatSet1
namespace Go.Proofs.YtjpcechcefhcfaaGreat
open Go.ChangeShapes Go.WideShapes Go.ChangeAt Go.RowKit
namespace Cs
open Tr Cx Sp Rw Classical
end Cs
end Go.Proofs.YtjpcechcefhcfaaGreat
