/- Texts, each once, rising: the document's. -/
import Derived.Test.YtjpcechcefhcfaaGreatG20
import Derived.Test.YtjpcechcefhcfaaGreatG90
import Derived.Test.YtjpcechcefhcfaaGreatG30
import Derived.Test.YtjpcechcefhcfaaGreatG00
namespace Go.Proofs.YtjpcechcefhcfaaGreat
open Go.ChangeShapes Go.WideShapes Go.ChangeAt Go.RowKit
namespace Cs
open Tr Cx Sp Rw Classical
end Cs
end Go.Proofs.YtjpcechcefhcfaaGreat
