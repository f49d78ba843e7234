/- A tree's leaves: the document's. -/
import Derived.Test.YtcbpgemiffmieaaG00
import Derived.Test.YtcbpgemiffmieaaG10
namespace Go.Proofs.Ytcbpgemiffmieaa
open Go.ChangeShapes Go.WideShapes Go.ChangeAt Go.RowKit
namespace Tr
open Sp Rw
end Tr
end Go.Proofs.Ytcbpgemiffmieaa
