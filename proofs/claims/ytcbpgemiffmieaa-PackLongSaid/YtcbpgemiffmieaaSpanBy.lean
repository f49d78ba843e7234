/- Two sets put together; the set of numbers: the document's. -/
import Derived.Test.YtcbpgemiffmieaaG00
namespace Go.Proofs.Ytcbpgemiffmieaa
open Go.ChangeShapes Go.WideShapes Go.ChangeAt Go.RowKit
namespace Sp
end Sp
end Go.Proofs.Ytcbpgemiffmieaa
