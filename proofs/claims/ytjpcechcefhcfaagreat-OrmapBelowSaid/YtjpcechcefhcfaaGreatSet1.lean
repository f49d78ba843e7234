/- Sets: what may be changed; an element is taken away: the program. -/
import Derived.Test.YtjpcechcefhcfaaGreatG00
import Derived.Test.YtjpcechcefhcfaaGreatG1220
import Derived.Test.YtjpcechcefhcfaaGreatFlag2
import Derived.Test.YtjpcechcefhcfaaGreatG90
import Derived.Test.YtjpcechcefhcfaaGreatG20
import Derived.Test.YtjpcechcefhcfaaGreatG10
import Derived.Test.YtjpcechcefhcfaaGreatG140
namespace Go.Proofs.YtjpcechcefhcfaaGreat
open Go.ChangeShapes Go.WideShapes Go.ChangeAt Go.RowKit
namespace Cs
open Tr Cx Sp Rw Classical
theorem nodes_kid_at (t:T) (s:ByteArray):nodes (kidAt t.ks s)≤nodes t:=by
 cases t
 exact nodes_kidAt _ _ _
end Cs
end Go.Proofs.YtjpcechcefhcfaaGreat
