/- Layer 17: a tape is as the document says; a program that does nothing. -/
import Derived.Test.YtcffbgehopjgpaaTapeRef
import Derived.Test.YtcffbgehopjgpaaTape3
import Derived.BigQuiet
namespace Go.Proofs.Ytcffbgehopjgpaa
open Go.ChangeShapes Go.WideShapes Go.ChangeAt Go.RowKit
namespace Tpe
open By
set_option maxRecDepth 100000
set_option maxHeartbeats 1000000
end Tpe
end Go.Proofs.Ytcffbgehopjgpaa
