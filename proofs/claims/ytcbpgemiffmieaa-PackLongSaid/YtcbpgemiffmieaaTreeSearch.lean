/- The library's two binary searches: over kids, over texts. -/
import Derived.Test.YtcbpgemiffmieaaG00
namespace Go.Proofs.Ytcbpgemiffmieaa
open Go.ChangeShapes Go.WideShapes Go.ChangeAt Go.RowKit
namespace Tr
open Sp Rw
def strs (l:List ByteArray):List Value:=l.map Value.string
end Tr
end Go.Proofs.Ytcbpgemiffmieaa
