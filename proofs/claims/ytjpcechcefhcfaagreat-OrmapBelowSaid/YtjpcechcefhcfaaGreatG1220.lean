/- Flags: checked, the program. -/
import Derived.Test.YtjpcechcefhcfaaGreatG120
namespace Go.Proofs.YtjpcechcefhcfaaGreat
open Go.ChangeShapes Go.WideShapes Go.ChangeAt Go.RowKit
namespace Cs
open Tr Cx Sp Rw Classical
end Cs
end Go.Proofs.YtjpcechcefhcfaaGreat
