/- A copy: the document's; what may be written over. -/
import Derived.Test.YtjpcechcefhcfaaGreatG00
import Derived.Test.YtjpcechcefhcfaaGreatCauKit
import Derived.Test.YtjpcechcefhcfaaGreatCauMore
import Derived.Test.YtjpcechcefhcfaaGreatG10
import Derived.Test.YtjpcechcefhcfaaGreatG20
namespace Go.Proofs.YtjpcechcefhcfaaGreat
open Go.ChangeShapes Go.WideShapes Go.ChangeAt Go.RowKit
namespace Cs
open Tr Cx Sp Rw Classical
def ScrC (w:World) (lo:Nat) (A:Option Addr) (n:Nat):Prop:=0<n→∃ b o,A=some ⟨b,o,none⟩∧lo≤b∧b<w.heap.size∧(∀ j,w.frozen? ⟨b,j,none⟩=false)∧∀ i,i<n→∃ x0 x1 x2:Int,w.cell? ⟨b,o+i*3,none⟩=some (.int .i64 x0)∧w.cell? ⟨b,o+i*3+1,none⟩=some (.int .i64 x1)∧w.cell? ⟨b,o+i*3+2,none⟩=some (.int .i64 x2)
theorem ScrC.of_ro {w:World} {ok:Nat→Prop} {lo:Nat} (hok:∀ b,ok b→b<w.heap.size→lo≤b) {A:Option Addr} {n c:Nat} {cs:List S3} (hl:cs.length=n) (h:RO w ok 3 A n c (spsC cs)):ScrC w lo A n:=fun hn=>by
 obtain⟨b,o,e,q1,q2,q3,q4⟩:=h.at_ hn;refine⟨b,o,e,hok b q1 q2,q2,q3,fun i hi=>?_⟩
 have hi':i<cs.length:=by omega
 have f:=fun j hj=>flat_at spC_len cs i j hi' hj;refine⟨(cs[i]).1,(cs[i]).2.1,(cs[i]).2.2,q4 _ _ (f 0 (by omega)),?_,?_⟩
 ·rw[Nat.add_assoc];exact q4 _ _ (f 1 (by omega))
 ·rw[Nat.add_assoc];exact q4 _ _ (f 2 (by omega))
structure ScrP (w:World) (lo:Nat) (p:CP):Prop where
 tree:ScrT w lo p.k.1 p.e p.d
 few:LenT reachBytes p.k.1
 ctx:ScrC w lo p.c.A p.c.n
 len:p.c.n≤1000
theorem ScrP.of_own {w:World} {lo lo':Nat} {k:K} {Ae Ak Ca:Option Addr} {ne ce nk ck na ca9:Nat} (h:OwC w lo' k Ae ne ce Ak nk ck Ca na ca9) (hl:lo≤lo') (hn:nodes k.1≤1000) (hna:na≤1000):ScrP w lo ⟨k,⟨Ae,ne,ce⟩,⟨Ak,nk,ck⟩,⟨Ca,na,ca9⟩⟩:=
 ⟨ScrT.of_rd (fun b hb _=>Nat.le_trans hl hb) _ h.tree,LenT.few (by show nodes k.1≤_;omega),ScrC.of_ro (fun b hb _=>Nat.le_trans hl hb) h.len h.ctx,hna⟩
structure NoC (w:World) (ok:Nat→Prop) (p:CP):Prop where
 tree:RdO w ok p.k.1 p.e p.d
 len:p.k.2.length=p.c.n
 ctx:RO w ok 3 p.c.A p.c.n p.c.c (spsC p.k.2)
theorem NoC.of_own {w:World} {lo:Nat} {ok:Nat→Prop} {k:K} {Ae Ak Ca:Option Addr} {ne ce nk ck na ca9:Nat} (h:OwC w lo k Ae ne ce Ak nk ck Ca na ca9) (ho:∀ b,lo≤b→b<w.heap.size→ok b):NoC w ok ⟨k,⟨Ae,ne,ce⟩,⟨Ak,nk,ck⟩,⟨Ca,na,ca9⟩⟩:=⟨RdO.mono ho _ h.tree,h.len,h.ctx.mono ho⟩
theorem NoC.mono {w:World} {ok ok':Nat→Prop} {p:CP} (h:NoC w ok p) (ho:∀ b,ok b→b<w.heap.size→ok' b):NoC w ok' p:=⟨RdO.mono ho _ h.tree,h.len,h.ctx.mono ho⟩
theorem NoC.keep {w w':World} {ok:Nat→Prop} {p:CP} (h:NoC w ok p) (hs:w.heap.size≤w'.heap.size) (hk:∀ b,ok b→b<w.heap.size→w'.heap[b]?=w.heap[b]?):NoC w' ok p:=⟨RdO.keep hs hk _ h.tree,h.len,h.ctx.keep hs hk⟩
theorem NoC.later {w w':World} {ok:Nat→Prop} {p:CP} (h:NoC w ok p) (hb:Below w.heap.size w w'):NoC w' ok p:=h.keep hb.size fun b _ hlt=>hb.block b hlt
theorem NoC.rd {w:World} {ok:Nat→Prop} {p:CP} (h:NoC w ok p):RdP w p:=⟨RdO.rd _ h.tree,h.len,h.ctx.rd⟩
end Cs
end Go.Proofs.YtjpcechcefhcfaaGreat
