/- What is known: two rising lists of entries, side by side. -/
import Derived.Test.YtcbpgemiffmieaaGreatG00
import Derived.Test.YtcbpgemiffmieaaGreatG20
namespace Go.Proofs.YtcbpgemiffmieaaGreat
open Go.ChangeShapes Go.WideShapes Go.ChangeAt Go.RowKit
namespace Cs
open Tr Cx Sp Rw
section
variable {l:List (Addr×Value)} {w0 W w':World} {p:Nat}
end
end Cs
end Go.Proofs.YtcbpgemiffmieaaGreat
