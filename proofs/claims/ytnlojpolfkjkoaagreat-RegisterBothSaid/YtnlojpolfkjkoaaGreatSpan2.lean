/- Sets of numbers: the front, how many numbers there are, what is in them; the program's, the document's; lists laid over. -/
import Derived.Test.YtnlojpolfkjkoaaGreatG00
namespace Go.Proofs.YtnlojpolfkjkoaaGreat
open Go.ChangeShapes Go.WideShapes Go.ChangeAt Go.RowKit
namespace Sp
def frontI : List (Int × Int) → Int
 | [] => 0
 | r :: _ => if r.1 = 1 then r.2 else 0
theorem RightF.of_append : ∀ {a b : List (Int × Int)} {m : Int}, RightF m (a ++ b) → RightF m a
 | [], _, _, _ => trivial
 | _ :: _, _, _, h => ⟨h.1, h.2.1, h.2.2.1, RightF.of_append h.2.2.2⟩
theorem RightF.take {l : List (Int × Int)} {m : Int} (h : RightF m l) (k : Nat) : RightF m (l.take k) := RightF.of_append (b := l.drop k) (by rwa [List.take_append_drop])
end Sp
end Go.Proofs.YtnlojpolfkjkoaaGreat
