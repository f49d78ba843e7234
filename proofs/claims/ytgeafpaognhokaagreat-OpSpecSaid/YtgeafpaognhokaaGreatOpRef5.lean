/- Changes that were made: the document's Spec. -/
import Derived.Test.YtgeafpaognhokaaGreatG00
import Derived.Test.YtgeafpaognhokaaGreatG50
import Derived.Test.YtgeafpaognhokaaGreatG60
namespace Go.Proofs.YtgeafpaognhokaaGreat
open ChangeShapes WideShapes ChangeAt RowKit
namespace Cs
open Tr Cx Sp Rw Classical
section
variable {kd:Nat} {p:List ByteArray} {l:List jw} {k:Nat} {y:jw}
end
end Cs
end Go.Proofs.YtgeafpaognhokaaGreat
