/- Two sets put together; the set of numbers: the document's. -/
import Derived.Test.YtgeafpaognhokaaGreatG00
namespace Go.Proofs.YtgeafpaognhokaaGreat
open Go.ChangeShapes Go.WideShapes Go.ChangeAt Go.RowKit
namespace Sp
end Sp
end Go.Proofs.YtgeafpaognhokaaGreat
