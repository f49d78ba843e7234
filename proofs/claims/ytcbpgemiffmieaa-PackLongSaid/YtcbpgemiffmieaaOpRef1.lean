/- Changes: the document's kinds, paths, acts. -/
import Derived.Test.YtcbpgemiffmieaaG00
import Derived.Test.YtcbpgemiffmieaaG50
import Derived.Test.YtcbpgemiffmieaaG20
namespace Go.Proofs.Ytcbpgemiffmieaa
open Go.ChangeShapes Go.WideShapes Go.ChangeAt Go.RowKit
namespace Cs
open Tr Cx Sp Rw Classical
end Cs
end Go.Proofs.Ytcbpgemiffmieaa
