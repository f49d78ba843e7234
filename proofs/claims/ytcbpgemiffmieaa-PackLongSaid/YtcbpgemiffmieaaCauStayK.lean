/- What is known: which kids stay. -/
import Derived.Test.YtcbpgemiffmieaaG00
import Derived.Test.YtcbpgemiffmieaaCauMrgE
import Derived.Test.YtcbpgemiffmieaaG10
namespace Go.Proofs.Ytcbpgemiffmieaa
open Go.ChangeShapes Go.WideShapes Go.ChangeAt Go.RowKit
namespace Cs
open Tr Cx Sp Rw
section
variable {l:List (Addr×Value)} {w0 W w':World} {p:Nat}
end
end Cs
end Go.Proofs.Ytcbpgemiffmieaa
