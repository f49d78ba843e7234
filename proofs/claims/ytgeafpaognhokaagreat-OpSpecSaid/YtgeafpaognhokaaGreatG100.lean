/- op.Apply, Read, Same: the program's, whole. -/
import Derived.Test.YtgeafpaognhokaaGreatG00
import Derived.Test.YtgeafpaognhokaaGreatOpApp
import Derived.Test.YtgeafpaognhokaaGreatG80
import Derived.Test.YtgeafpaognhokaaGreatG60
import Derived.Test.YtgeafpaognhokaaGreatOpView
namespace Go.Proofs.YtgeafpaognhokaaGreat
open ChangeShapes WideShapes ChangeAt RowKit
namespace Cs
open Tr Cx Sp Rw Classical
end Cs
end Go.Proofs.YtgeafpaognhokaaGreat
