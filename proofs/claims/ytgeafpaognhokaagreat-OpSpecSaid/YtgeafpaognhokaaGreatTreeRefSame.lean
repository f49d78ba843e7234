/- Trees: whether two are alike; the document's. -/
import Derived.Test.YtgeafpaognhokaaGreatG00
namespace Go.Proofs.YtgeafpaognhokaaGreat
open ChangeShapes WideShapes ChangeAt RowKit
namespace Tr
open Sp Rw
end Tr
end Go.Proofs.YtgeafpaognhokaaGreat
