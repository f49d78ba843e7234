/- Is there an entry of a dot below keys. -/
import Derived.Test.YtjpcechcefhcfaaGreatG00
import Derived.Test.YtjpcechcefhcfaaGreatCauKit
import Derived.Test.YtjpcechcefhcfaaGreatG10
import Derived.Test.YtjpcechcefhcfaaGreatG20
namespace Go.Proofs.YtjpcechcefhcfaaGreat
open Go.ChangeShapes Go.WideShapes Go.ChangeAt Go.RowKit
namespace Cs
open Tr Cx Sp Rw Classical
end Cs
end Go.Proofs.YtjpcechcefhcfaaGreat
