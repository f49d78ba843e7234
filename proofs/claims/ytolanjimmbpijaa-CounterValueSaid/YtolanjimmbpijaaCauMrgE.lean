/- What is known: two rising lists of entries, side by side. -/
import Derived.Test.YtolanjimmbpijaaG00
import Derived.Test.YtolanjimmbpijaaCauStayE
import Derived.Test.YtolanjimmbpijaaG30
namespace Go.Proofs.Ytolanjimmbpijaa
open Go.ChangeShapes Go.WideShapes Go.ChangeAt Go.RowKit
namespace Cs
open Tr Cx Sp Rw
section
variable {l : List (Addr × Value)} {w0 W w' : World} {p : Nat}
end
end Cs
end Go.Proofs.Ytolanjimmbpijaa
