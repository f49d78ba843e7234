/- What is known: which kids stay. -/
import Derived.Test.YtcbpgemiffmieaaGreatG00
import Derived.Test.YtcbpgemiffmieaaGreatCauMrgE
import Derived.Test.YtcbpgemiffmieaaGreatG10
namespace Go.Proofs.YtcbpgemiffmieaaGreat
open Go.ChangeShapes Go.WideShapes Go.ChangeAt Go.RowKit
namespace Cs
open Tr Cx Sp Rw
section
variable {l:List (Addr×Value)} {w0 W w':World} {p:Nat}
end
end Cs
end Go.Proofs.YtcbpgemiffmieaaGreat
