/- What is known: which kids stay. -/
import Derived.Test.YtolanjimmbpijaaG00
import Derived.Test.YtolanjimmbpijaaCauMrgE
import Derived.Test.YtolanjimmbpijaaG10
namespace Go.Proofs.Ytolanjimmbpijaa
open Go.ChangeShapes Go.WideShapes Go.ChangeAt Go.RowKit
namespace Cs
open Tr Cx Sp Rw
section
variable {l : List (Addr × Value)} {w0 W w' : World} {p : Nat}
end
end Cs
end Go.Proofs.Ytolanjimmbpijaa
