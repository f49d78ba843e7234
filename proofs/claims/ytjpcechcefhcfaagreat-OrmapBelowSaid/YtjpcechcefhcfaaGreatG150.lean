/- What is known, in a box: what a joining leaves. -/
import Derived.Test.YtjpcechcefhcfaaGreatG140
import Derived.Test.YtjpcechcefhcfaaGreatCauOwnRef
import Derived.Test.YtjpcechcefhcfaaGreatCauAll
namespace Go.Proofs.YtjpcechcefhcfaaGreat
open Go.ChangeShapes Go.WideShapes Go.ChangeAt Go.RowKit
namespace Cs
open Tr Cx Sp Rw Classical
def MidJ (v:World) (g:Nat) (p:CP) (w:World):Prop:=RdP w p∧Kept [(⟨g,0,none⟩,.slice p.e.A p.e.n p.e.c),(⟨g,1,none⟩,.slice p.d.A p.d.n p.d.c),(⟨g,2,none⟩,.slice p.c.A p.c.n p.c.c)] v w
theorem cpV_flat:∀ ps:List CP,(ps.flatMap cpV).length=ps.length*3
 | []=>rfl
 | p::ps=>by rw[List.flatMap_cons,List.length_append,cpV_flat ps,cpV_len,List.length_cons];omega
theorem rd_rowP (w:World) (ps:List CP) (cs:Array Value) (n:Nat) (hn:ps.length=n) (hcs:cs.toList=ps.flatMap cpV):Rd (w.alloc (.cells cs 29)) (w.heap.size+1) 3 (some ⟨w.heap.size,0,none⟩) n n (ps.flatMap cpV):=
 ⟨by rw[cpV_flat,hn],Nat.le_refl _,fun u hu=>by
  obtain⟨p,_,h⟩:=List.mem_flatMap.1 hu
  exact cpV_one p u h,fun _=>⟨_,_,rfl,by omega,fun j u hu=>by
  rw[Nat.zero_add,cell_of_row _ _ j _ _ (0,0) (heap_alloc_new _ _),← Array.getElem?_toList,hcs]
  exact hu⟩⟩
theorem AllJ.rot {a:K} {l:List K} {x y:K} (h:AllJ (a::l) x) (h2:AllJ (l++[a]) y):x=y:=ext_st h.right h2.right fun p q=>by
 rw[h.st,h2.st,stAll_append,stAll_one];exact mx_comm (st_at a p q) (stAll_at l p q)
end Cs
end Go.Proofs.YtjpcechcefhcfaaGreat
