/- What is known: two rising lists of entries, side by side. -/
import Derived.Test.YtcbpgemiffmieaaG00
import Derived.Test.YtcbpgemiffmieaaG20
namespace Go.Proofs.Ytcbpgemiffmieaa
open Go.ChangeShapes Go.WideShapes Go.ChangeAt Go.RowKit
namespace Cs
open Tr Cx Sp Rw
section
variable {l:List (Addr×Value)} {w0 W w':World} {p:Nat}
end
end Cs
end Go.Proofs.Ytcbpgemiffmieaa
