/- Trees: what hangs below keys: the document's. -/
import Derived.Test.YtgeafpaognhokaaGreatTreeBuild
namespace Go.Proofs.YtgeafpaognhokaaGreat
open Go.ChangeShapes Go.WideShapes Go.ChangeAt Go.RowKit
namespace Tr
open Sp Rw
end Tr
end Go.Proofs.YtgeafpaognhokaaGreat
