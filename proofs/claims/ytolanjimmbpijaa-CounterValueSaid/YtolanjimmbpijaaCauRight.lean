/- What may be known: the program's, and the document's. -/
import Derived.Test.YtolanjimmbpijaaG00
import Derived.Test.YtolanjimmbpijaaCauTrees
import Derived.Test.YtolanjimmbpijaaTreeDots
import Derived.Test.YtolanjimmbpijaaG50
import Derived.Test.YtolanjimmbpijaaTreeRefRight
import Derived.Test.YtolanjimmbpijaaG20
namespace Go.Proofs.Ytolanjimmbpijaa
open Go.ChangeShapes Go.WideShapes Go.ChangeAt Go.RowKit
namespace Cs
open Tr Cx Sp Rw Classical
theorem Calls.some {P : Program} {f : FuncId} {args : Array Value} {w : World} {R : Ending → World → Prop} (h : Calls P f args w R) : ∃ e w', R e w' := by
 obtain ⟨e, w', _, hr, _⟩ := h []; exact ⟨e, w', hr⟩
end Cs
end Go.Proofs.Ytolanjimmbpijaa
