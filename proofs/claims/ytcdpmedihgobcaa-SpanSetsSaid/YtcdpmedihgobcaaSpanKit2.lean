/- The contracts of layer 6 as its laws use them: the document's way to put sets together. -/
import Derived.Test.YtcdpmedihgobcaaSpanKit1
import Derived.Test.YtcdpmedihgobcaaSpanBy
namespace Go.Proofs.Ytcdpmedihgobcaa
open Go.ChangeShapes Go.WideShapes Go.ChangeAt Go.RowKit
namespace Sp
section
variable (a b : List (Int × Int)) (n m : Nat) (A B : Option Addr) (c d : Nat) (w : World)
/-- the document's, told what the program's made -/
theorem refby_to (f : Bool → Bool → Bool) (how : Int) (hh : HowIs how f) (hla : a.length = n) (hlb : b.length = m) (hn : n ≤ 1000) (hm : m ≤ 1000) (hra : Rd w w.heap.size 2 A n c (runsC a)) (hrb : Rd w w.heap.size 2 B m d (runsC b)) (oa : RightF 1 a) (ob : RightF 1 b) (u : List (Int × Int)) (hu : Put f a b u) (q : Nat) (hq : u.length = q) :
    Calls Try.prog 29 #[.slice A n c, .slice B m d, .int .i64 how] w (SlIs q u w) := by
  refine (refby_any f how hh a b n m A B c d w hla hlb hn hm hra hrb oa ob).mono ?_
  rintro e w' ⟨l, A', c', he, h1, h2, ho, hb⟩
  have : l = u := ext h1 hu.right fun x => by rw [h2, hu.has]
  subst this
  subst hq
  exact ⟨A', c', he, ho.rd, hb⟩
end
end Sp
end Go.Proofs.Ytcdpmedihgobcaa
