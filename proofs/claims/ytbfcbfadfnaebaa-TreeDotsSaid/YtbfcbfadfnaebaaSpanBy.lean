/- Two sets put together; the set of numbers: the document's. -/
import Derived.Test.YtbfcbfadfnaebaaCtxLow
namespace Go.Proofs.Ytbfcbfadfnaebaa
open Go.ChangeShapes Go.WideShapes Go.ChangeAt Go.RowKit
namespace Sp
/-- what the document's way answers -/
def ByIs (f : Bool → Bool → Bool) (a b : List (Int × Int)) (w : World) (e : Ending) (w' : World) : Prop :=
  ∃ l A c, e = .returned (.slice A l.length c) ∧ RightF 1 l ∧ (∀ n, hasB l n = f (hasB a n) (hasB b n)) ∧ Own w' w.heap.size 118 2 A l.length c (runsC l) ∧ Below w.heap.size w w'
/-- how two sets are put together, by number -/
def HowIs (how : Int) (f : Bool → Bool → Bool) : Prop := (how = 0 ∧ f = fun x y => x || y) ∨ (how = 1 ∧ f = fun x y => x && y) ∨ (how = 2 ∧ f = fun x y => x && !y)
theorem HowIs.ff {how : Int} {f : Bool → Bool → Bool} (h : HowIs how f) : f false false = false := by
  rcases h with ⟨_, rfl⟩ | ⟨_, rfl⟩ | ⟨_, rfl⟩ <;> rfl
end Sp
end Go.Proofs.Ytbfcbfadfnaebaa
