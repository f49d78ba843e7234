/- Is there an entry of a dot below keys. -/
import Derived.Test.YtcbclefemcmhpaaGreatG00
import Derived.Test.YtcbclefemcmhpaaGreatCauKit
import Derived.Test.YtcbclefemcmhpaaGreatG10
import Derived.Test.YtcbclefemcmhpaaGreatG20
namespace Go.Proofs.YtcbclefemcmhpaaGreat
open Go.ChangeShapes Go.WideShapes Go.ChangeAt Go.RowKit
namespace Cs
open Tr Cx Sp Rw Classical
theorem hasCB_of {l : List S3} (h : RightC l) (a v : Int) : hasCB l a v = hasC l a v := by
 unfold hasCB
 rw [rightCB_true h, Bool.true_and]
 show (Dt.rightB a v && hasC l a v) = hasC l a v
 cases e : hasC l a v with
 | false => exact Bool.and_false _
 | true => rw [has_right h e]; rfl
end Cs
end Go.Proofs.YtcbclefemcmhpaaGreat
