/- Layer 17: a program that does nothing answers wrongly. -/
import Derived.Test.YtcffbgehopjgpaaTape2
import Derived.Lib.SlBytesConst
namespace Go.Proofs.Ytcffbgehopjgpaa
open Go.ChangeShapes Go.WideShapes Go.ChangeAt Go.RowKit
namespace Tpe
open By
set_option maxRecDepth 100000
set_option maxHeartbeats 1000000
end Tpe
end Go.Proofs.Ytcffbgehopjgpaa
