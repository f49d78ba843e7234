/- Changes that were made: the document's Spec. -/
import Derived.Test.YtgeafpaognhokaaGreatG50
import Derived.Test.YtgeafpaognhokaaGreatG60
namespace Go.Proofs.YtgeafpaognhokaaGreat
open Go.ChangeShapes Go.WideShapes Go.ChangeAt Go.RowKit
namespace Cs
open Tr Cx Sp Rw Classical
section
variable {kd:Nat} {p:List ByteArray} {l:List EvP} {k:Nat} {y:EvP}
end
end Cs
end Go.Proofs.YtgeafpaognhokaaGreat
