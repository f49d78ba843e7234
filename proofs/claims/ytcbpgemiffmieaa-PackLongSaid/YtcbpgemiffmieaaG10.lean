/- Texts of the lower layers, and of layer 9, put together. -/
import Derived.Test.YtcbpgemiffmieaaTreeSearch
import Derived.Test.YtcbpgemiffmieaaG00
import Derived.RangeFuncBox
import Derived.RangeFuncLeaves
import Derived.Shelf.Abstract
import Derived.WalkKit
import Derived.OwnWalkIn
import Derived.TacticsInMore
import Derived.LoopNIn
import Derived.LoopIn
import Derived.Maps.AppendAt
import Derived.Sort.OwnSorted
import Derived.Test.YtcbpgemiffmieaaTreeRight
import Derived.Test.YtcbpgemiffmieaaTreeRefSame
import Derived.SizedLaws
import Derived.ProofKit
import Derived.OpenShut
import Derived.ChangeMaps5
import Derived.Test.YtcbpgemiffmieaaCtx1
import Derived.Test.YtcbpgemiffmieaaSpanJoin
import Derived.Test.YtcbpgemiffmieaaG01
import Derived.Test.YtcbpgemiffmieaaSpanBy
namespace Go.Proofs.Ytcbpgemiffmieaa
open Go.ChangeShapes Go.WideShapes Go.ChangeAt Go.RowKit
namespace Tr
open Rw Sp
abbrev Lf:=List ByteArray×E
def leafC (x:SV×E):List Value:=[.slice x.1.A x.1.n x.1.c,.int .i64 x.2.a,.int .i64 x.2.n,.string x.2.s,.int .i64 x.2.v]
theorem leafC_len (x:SV×E):(leafC x).length=5:=rfl
theorem leafC_one (x:SV×E):∀ u∈leafC x,u.oneCell'=true:=by
 intro u hu;simp[leafC]at hu
 rcases hu with rfl | rfl | rfl | rfl | rfl <;> rfl
structure RX (w:World) (ok:Nat→Prop) (sz:Nat) (A:Option Addr) (n c:Nat) (xs:List Value):Prop where
 len:xs.length=n*sz
 cap:n≤c
 one:∀ u∈xs,u.oneCell'=true
 at_:0<n→∃ b o,A=some ⟨b,o,none⟩∧ok b∧b<w.heap.size∧∀ j u,xs[j]?=some u→w.cell? ⟨b,o+j,none⟩=some u
namespace RX
variable {w w':World} {ok ok':Nat→Prop} {sz n c:Nat} {A:Option Addr} {xs:List Value}
theorem rd (h:RX w ok sz A n c xs):Rd w w.heap.size sz A n c xs:=⟨h.len,h.cap,h.one,fun hn=>by obtain⟨b,o,e,_,hb,hc⟩:=h.at_ hn;exact⟨b,o,e,hb,hc⟩⟩
theorem of_rd {B:Nat} (h:Rd w B sz A n c xs) (hB:B≤w.heap.size) (hok:∀ b,b<B→ok b):RX w ok sz A n c xs:=⟨h.len,h.cap,h.one,fun hn=>by obtain⟨b,o,e,hb,hc⟩:=h.at_ hn;exact⟨b,o,e,hok b hb,by omega,hc⟩⟩
theorem mono (h:RX w ok sz A n c xs) (ho:∀ b,ok b→b<w.heap.size→ok' b):RX w ok' sz A n c xs:=
 ⟨h.len,h.cap,h.one,fun hn=>by obtain⟨b,o,e,h1,hb,hc⟩:=h.at_ hn;exact⟨b,o,e,ho b h1 hb,hb,hc⟩⟩
theorem keep (h:RX w ok sz A n c xs) (hs:w.heap.size≤w'.heap.size) (hk:∀ b,ok b→b<w.heap.size→w'.heap[b]?=w.heap[b]?):RX w' ok sz A n c xs:=
 ⟨h.len,h.cap,h.one,fun hn=>by
  obtain⟨b,o,e,h1,hb,hc⟩:=h.at_ hn
  exact⟨b,o,e,h1,Nat.lt_of_lt_of_le hb hs,fun j u hu=>(World.cell?_of_block (a:=⟨b,o+j,none⟩) (hk b h1 hb)).trans (hc j u hu)⟩⟩
theorem later (h:RX w ok sz A n c xs) (hb:Below w.heap.size w w'):RX w' ok sz A n c xs:=h.keep hb.size fun b _ hlt=>hb.block b hlt
end RX
def Paths (w:World) (ok:Nat→Prop) (ls:List Lf) (lr:List (SV×E)):Prop:=ls.length=lr.length∧∀ (i:Nat) (h:i<ls.length) (h':i<lr.length),lr[i].2=ls[i].2∧ls[i].1.length=lr[i].1.n∧RX w ok 1 lr[i].1.A lr[i].1.n lr[i].1.c (strs ls[i].1)
namespace Paths
variable {w w':World} {ok ok':Nat→Prop} {ls ls2:List Lf} {lr lr2:List (SV×E)}
theorem nil (w:World) (ok:Nat→Prop):Paths w ok [] []:=⟨rfl,fun i h=>by simp at h⟩
theorem mono (h:Paths w ok ls lr) (ho:∀ b,ok b→b<w.heap.size→ok' b):Paths w ok' ls lr:=⟨h.1,fun i hi hi'=>⟨(h.2 i hi hi').1,(h.2 i hi hi').2.1,(h.2 i hi hi').2.2.mono ho⟩⟩
theorem keep (h:Paths w ok ls lr) (hs:w.heap.size≤w'.heap.size) (hk:∀ b,ok b→b<w.heap.size→w'.heap[b]?=w.heap[b]?):Paths w' ok ls lr:=⟨h.1,fun i hi hi'=>⟨(h.2 i hi hi').1,(h.2 i hi hi').2.1,(h.2 i hi hi').2.2.keep hs hk⟩⟩
theorem later (h:Paths w ok ls lr) (hb:Below w.heap.size w w'):Paths w' ok ls lr:=h.keep hb.size fun b _ hlt=>hb.block b hlt
theorem app (h:Paths w ok ls lr) (h2:Paths w ok ls2 lr2):Paths w ok (ls++ls2) (lr++lr2):=by
 refine⟨by rw[List.length_append,List.length_append,h.1,h2.1],fun i hi hi'=>?_⟩
 by_cases hlt:i<ls.length
 ·have hlt':i<lr.length:=by rw[← h.1];exact hlt
  rw[List.getElem_append_left hlt,List.getElem_append_left hlt'];exact h.2 i hlt hlt'
 ·have e1:=h.1
  have e2:i-ls.length<ls2.length:=by rw[List.length_append]at hi;omega
  have e3:i-lr.length<lr2.length:=by rw[List.length_append]at hi';omega
  rw[List.getElem_append_right (by omega),List.getElem_append_right (by omega)];have:=h2.2 (i-ls.length) e2 (by rw[e1];exact e3)
  simpa [e1] using this
theorem one {p:List ByteArray} {e:E} {s:SV} (hl:p.length=s.n) (h:RX w ok 1 s.A s.n s.c (strs p)):Paths w ok [(p,e)] [(s,e)]:=⟨rfl,fun i hi hi'=>by
 obtain rfl:i=0:=by simp at hi;omega
 exact⟨rfl,hl,h⟩⟩
theorem take (h:Paths w ok ls lr) (k:Nat):Paths w ok (ls.take k) (lr.take k):=⟨by rw[List.length_take,List.length_take,h.1],fun i hi hi'=>by
 rw[List.length_take]at hi hi';rw[List.getElem_take,List.getElem_take]
 exact h.2 i (by omega) (by omega)⟩
end Paths
def LfRd (w:World) (B:Nat) (A:Option Addr) (n c:Nat) (ls:List Lf):Prop:=ls.length=n∧∃ lr:List (SV×E),Rd w B 5 A n c (lr.flatMap leafC)∧Paths w (fun b=>b<B) ls lr
namespace LfRd
variable {w w':World} {B n c:Nat} {A:Option Addr} {ls:List Lf}
theorem below (h:LfRd w B A n c ls) (_hB:B≤w.heap.size) (hb:Below B w w'):LfRd w' B A n c ls:=by
 obtain⟨h1,lr,h2,h3⟩:=h;exact⟨h1,lr,h2.below hb,h3.keep hb.size fun b hlt _=>hb.block b hlt⟩
theorem more {B':Nat} (h:LfRd w B A n c ls) (hB:B≤B'):LfRd w B' A n c ls:=by
 obtain⟨h1,lr,h2,h3⟩:=h;exact⟨h1,lr,h2.more hB,h3.mono fun b hlt _=>Nat.lt_of_lt_of_le hlt hB⟩
theorem later (h:LfRd w w.heap.size A n c ls) (hb:Below w.heap.size w w'):LfRd w' w'.heap.size A n c ls:=(h.below (Nat.le_refl _) hb).more hb.size
theorem at_ (h:LfRd w B A n c ls) (hn:0<n):∃ b o,A=some ⟨b,o,none⟩∧b<B∧∀ (i:Nat) (hi:i<ls.length),∃ s:SV,w.cell? ⟨b,o+i*5,none⟩=some (.slice s.A s.n s.c)∧w.cell? ⟨b,o+i*5+1,none⟩=some (.int .i64 (ls[i]).2.a)∧w.cell? ⟨b,o+i*5+2,none⟩=some (.int .i64 (ls[i]).2.n)∧w.cell? ⟨b,o+i*5+3,none⟩=some (.string (ls[i]).2.s)∧w.cell? ⟨b,o+i*5+4,none⟩=some (.int .i64 (ls[i]).2.v)∧(ls[i]).1.length=s.n∧RX w (fun b=>b<B) 1 s.A s.n s.c (strs (ls[i]).1):=by
 obtain⟨h1,lr,h2,h3⟩:=h;obtain⟨b,o,e,hb,hc⟩:=rd_elem leafC_len h2 hn;refine⟨b,o,e,hb,fun i hi=>?_⟩
 have hi':i<lr.length:=by rw[← h3.1];exact hi
 obtain⟨e1,e2,e3⟩:=h3.2 i hi hi';refine⟨lr[i].1,hc i hi' 0 _ rfl,?_,?_,?_,?_,e2,e3⟩
 ·rw[← e1];exact hc i hi' 1 _ rfl
 ·rw[← e1];exact hc i hi' 2 _ rfl
 ·rw[← e1];exact hc i hi' 3 _ rfl
 ·rw[← e1];exact hc i hi' 4 _ rfl
end LfRd
structure LfRow (w:World) (base e:Nat) (A:Option Addr) (n c:Nat) (ls:List Lf) (lr:List (SV×E)):Prop where
 len:ls.length=n
 own:Own w base e 5 A n c (lr.flatMap leafC)
 paths:Paths w (fun b=>(Value.slice A n c).ownBlock≠some b) ls lr
namespace LfRow
variable {w w':World} {base e n c:Nat} {A:Option Addr} {ls:List Lf} {lr:List (SV×E)}
theorem nil (w:World) (base e:Nat):LfRow w base e none 0 0 [] []:=⟨rfl,⟨World.ownsRow_nil _ _ _ _,by simp⟩,Paths.nil _ _⟩
theorem later (h:LfRow w base e A n c ls lr) (hb:Below w.heap.size w w'):LfRow w' base e A n c ls lr:=⟨h.len,own_later h.own hb,h.paths.later hb⟩
theorem mono {base':Nat} (h:LfRow w base e A n c ls lr) (hb:base'≤base):LfRow w base' e A n c ls lr:=⟨h.len,h.own.mono hb,h.paths⟩
theorem rd (h:LfRow w base e A n c ls lr):LfRd w w.heap.size A n c ls:=⟨h.len,lr,h.own.rd,⟨h.paths.1,fun i hi hi'=>⟨(h.paths.2 i hi hi').1,(h.paths.2 i hi hi').2.1,((h.paths.2 i hi hi').2.2).mono fun _ _ hlt=>hlt⟩⟩⟩
theorem app {t by_:Nat} {z:Value} (ht:Try.prog.underlying t=some (.slice e)) (hi:(Try.prog.info? e).map (fun i=>(i.zero,i.size,i.bytes))=some (some z,5,by_)) (hzs:z.cells.size=5) (hby:by_≤1000000)
  (h:LfRow w base e A n c ls lr) (hb:base≤w.heap.size) {B:Nat} {A2:Option Addr} {m c2:Nat} {ls2:List Lf} {lr2:List (SV×E)} (hr:Rd w B 5 A2 m c2 (lr2.flatMap leafC)) (hl2:ls2.length=m) (hp:Paths w (fun b=>(Value.slice A n c).ownBlock≠some b) ls2 lr2) (hn:n+m≤900000) :
  ∃ A' c' w',(Builtin.append_ #[t,t] t #[.slice A n c,.slice A2 m c2]).run Try.prog w = .ok (.slice A' (n+m) c') w'∧LfRow w' base e A' (n+m) c' (ls++ls2) (lr++lr2)∧Below base w w'∧∀ (P:Nat→Prop) (ls:List Lf) (lr:List (SV×E)),Paths w (fun b=>(Value.slice A n c).ownBlock≠some b∧P b) ls lr→Paths w' (fun b=>(Value.slice A' (n+m) c').ownBlock≠some b∧P b) ls lr:=by
 obtain⟨i0,hi0,hz0,hz1,hz2⟩:=info_of hi;obtain⟨v',w',r1,r2,r3,r4⟩:=run_app (P:=Try.prog) w base t t e i0 z 5 by_ ht hi0 hz0 hz1 hz2 hzs (by omega) h.own.row hr (by omega) hby hb
 have e1:(lr++lr2).flatMap leafC=lr.flatMap leafC++lr2.flatMap leafC:=by simp
 rw[← e1]at r2
 obtain⟨A',c',rfl,ho⟩:=Own.of_row r2 (fun u hu=>by
  obtain⟨x,_,hu⟩:=List.mem_flatMap.1 hu
  exact leafC_one x u hu)
 have hk:∀ b,(Value.slice A n c).ownBlock≠some b→b<w.heap.size→w'.heap[b]?=w.heap[b]?:=fun b hb hlt=>r3.block b hlt (fun e=>hb e.symm)
 have hnew:∀ b,(Value.slice A n c).ownBlock≠some b→b<w.heap.size→(Value.slice A' (n+m) c').ownBlock≠some b:=fun b hb hlt he=>by
  rcases r4 with r4 | r4
  ·exact hb (r4.symm.trans he)
  ·have:some b=some w.heap.size:=he.symm.trans r4
   injection this with this;omega
 have hto:∀ {ls:List Lf} {lr:List (SV×E)},Paths w (fun b=>(Value.slice A n c).ownBlock≠some b) ls lr→Paths w' (fun b=>(Value.slice A' (n+m) c').ownBlock≠some b) ls lr:=fun hp=>
  ((hp.mono (ok':=fun b=>(Value.slice A' (n+m) c').ownBlock≠some b∧(Value.slice A n c).ownBlock≠some b) (fun b hb hlt=>⟨hnew b hb hlt,hb⟩)).keep r3.size (fun b hb hlt=>hk b hb.2 hlt)).mono (fun b hb _=>hb.1)
 exact⟨A',c',w',r1,⟨by rw[List.length_append,h.len,hl2],ho,(hto h.paths).app (hto hp)⟩,(Below.refl base w).grown r3 hb (fun k hk=>(h.own.row.lt k hk).1),fun P ls lr hp=>((hp.mono (ok':=fun b=>(Value.slice A' (n+m) c').ownBlock≠some b∧(Value.slice A n c).ownBlock≠some b∧P b) (fun b hb hlt=>⟨hnew b hb.1 hlt,hb⟩)).keep r3.size (fun b hb hlt=>hk b hb.2.1 hlt)).mono (fun b hb _=>⟨hb.1,hb.2.2⟩)⟩
end LfRow
end Tr
end Go.Proofs.Ytcbpgemiffmieaa
namespace Go.Proofs.Ytcbpgemiffmieaa
open Go.RowKit Go.Shelf
namespace Tr
open Sp Rw
attribute [local go_sem] Oper.semAt_some

def TextsAt (n₀:Nat) (W:World) (A:Option Addr) (len:Nat) (f:Nat→ByteArray):Prop:=∀ j,j<len→∃ b o,A=some ⟨b,o,none⟩∧b<n₀∧W.cell? ⟨b,o+j,none⟩=some (.string (f j))
theorem TextsAt.below {n₀:Nat} {W W':World} {A:Option Addr} {len:Nat} {f:Nat→ByteArray} (h:TextsAt n₀ W A len f) (hb:Below n₀ W W'):TextsAt n₀ W' A len f:=fun j hj=>by
 obtain⟨b,o,e,hlt,hc⟩:=h j hj;exact⟨b,o,e,hlt,(hb.cell (p:=⟨b,o+j,none⟩) hlt).trans hc⟩
theorem TextsAt.of_rd {W:World} {B:Nat} {A:Option Addr} {n c:Nat} {l:List ByteArray} (h:Rd W B 1 A n c (strs l)):TextsAt B W A n (fun j=>l[j]?.getD ByteArray.empty):=fun j hj=>by
 obtain⟨b,o,e,hb,hc⟩:=h.at_ (by omega)
 have hl:l.length=n:=by have:=h.len;simpa [strs] using this
 exact⟨b,o,e,hb,hc j _ (by simp[strs,show j<l.length by omega])⟩
theorem infoS:(Try.prog.info? 9).map (fun i=>(i.zero,i.size,i.bytes))=some (some (.string ⟨#[]⟩),1,16):=by kernel_rfl
end Tr
end Go.Proofs.Ytcbpgemiffmieaa
namespace Go.Proofs.Ytcbpgemiffmieaa
open Go.RowKit Go.Shelf Go.Sort
namespace Tr
open Sp Rw
end Tr
end Go.Proofs.Ytcbpgemiffmieaa
namespace Go.Proofs.Ytcbpgemiffmieaa
open Go.ChangeShapes Go.WideShapes Go.ChangeAt Go.RowKit
namespace Tr
open Sp Rw
theorem infoE:(Try.prog.info? 37).map (fun i=>(i.zero,i.size,i.bytes))=some (some (.agg #[.int .i64 0,.int .i64 0,.string ⟨#[]⟩,.int .i64 0]),4,40):=by kernel_rfl
theorem infoK:(Try.prog.info? 72).map (fun i=>(i.zero,i.size,i.bytes))=some (some (.agg #[.string ⟨#[]⟩,.slice none 0 0,.slice none 0 0]),3,64):=by kernel_rfl
end Tr
end Go.Proofs.Ytcbpgemiffmieaa
namespace Go.Proofs.Ytcbpgemiffmieaa
open Go.ChangeShapes Go.WideShapes Go.ChangeAt Go.RowKit
namespace Pk
open Tr Cx Sp Rw Codec
structure StT (w:World) (g:Nat) (A:Option Addr) (m c:Nat) (b:Bool) (Ae:Option Addr) (ne ce:Nat) (Ak:Option Addr) (nk ck:Nat) (wr:World):Prop where
 kept:Kept [(⟨g,0,none⟩,.slice A m c),(⟨g,1,none⟩,.bool b),(⟨g+1,0,none⟩,.slice none 0 0),(⟨g+1,1,none⟩,.slice none 0 0),(⟨g+2,0,none⟩,.slice none 0 0),(⟨g+2,1,none⟩,.bool false),(⟨g+3,0,none⟩,.slice Ae ne ce),(⟨g+3,1,none⟩,.slice Ak nk ck)] w wr
 f0:Free g wr
 f1:Free (g+1) wr
 f2:Free (g+2) wr
 f3:Free (g+3) wr
 gw:w.heap.size≤g
namespace StT
variable {w wr w':World} {g m c ne ce nk ck m' c' n':Nat} {A Ae Ak A':Option Addr} {b b':Bool}
theorem later (h:StT w g A m c b Ae ne ce Ak nk ck wr) (hb:Below wr.heap.size wr w'):StT w g A m c b Ae ne ce Ak nk ck w':=⟨h.kept.later hb,h.f0.later hb,h.f1.later hb,h.f2.later hb,h.f3.later hb,h.gw⟩
theorem free_low {q:Nat} (h:Free q wr) (hb:Below (g+4) wr w') (hq:q<g+4):Free q w':=⟨Nat.lt_of_lt_of_le h.1 hb.size,fun j=>(hb.frozen (p:=⟨q,j,none⟩) hq).trans (h.2 j)⟩
theorem low (h:StT w g A m c b Ae ne ce Ak nk ck wr) (hb:Below (g+4) wr w'):StT w g A m c b Ae ne ce Ak nk ck w':=by
 have hgw:=h.gw;refine⟨⟨h.kept.1.trans (hb.mono (by omega)),fun x hx=>?_⟩,free_low h.f0 hb (by omega),free_low h.f1 hb (by omega),free_low h.f2 hb (by omega),free_low h.f3 hb (by omega),hgw⟩;obtain⟨h1,h2⟩:=h.kept.2 x hx;refine⟨Nat.lt_of_lt_of_le h1 hb.size,(hb.cell (p:=x.1) ?_).trans h2⟩;simp only[List.mem_cons,List.not_mem_nil,or_false]at hx
 rcases hx with rfl | rfl | rfl | rfl | rfl | rfl | rfl | rfl <;> (dsimp only;omega)
theorem put (h:StT w g A m c b Ae ne ce Ak nk ck wr) (A':Option Addr) (m' c':Nat) (b':Bool):StT w g A' m' c' b' Ae ne ce Ak nk ck ((wr.setCell ⟨g,0,none⟩ (.slice A' m' c')).setCell ⟨g,1,none⟩ (.bool b')):=by
 obtain⟨k0,k1,k2,k3,k4,k5,k6,k7,-⟩:=h.kept.cj;have hgw:=h.gw
 have n01:¬g=g+1:=by omega
 have n02:¬g=g+2:=by omega
 have n03:¬g=g+3:=by omega
 have n10:¬g+1=g:=by omega
 have n12:¬g+1=g+2:=by omega
 have n13:¬g+1=g+3:=by omega
 have n20:¬g+2=g:=by omega
 have n21:¬g+2=g+1:=by omega
 have n23:¬g+2=g+3:=by omega
 have n30:¬g+3=g:=by omega
 have n31:¬g+3=g+1:=by omega
 have n32:¬g+3=g+2:=by omega
 have h1:=((Kept.nil_of h.kept.below).set (a:=⟨g,0,none⟩) hgw (by simp) (.slice A' m' c')).set (a:=⟨g,1,none⟩) hgw (by simp) (.bool b')
 refine⟨(((((((h1.cons_of ?_).cons_of ?_).cons_of ?_).cons_of ?_).cons_of ?_).cons_of ?_).cons_of ?_).cons_of ?_,(h.f0.set _ _).set _ _,(h.f1.set _ _).set _ _,(h.f2.set _ _).set _ _,(h.f3.set _ _).set _ _,hgw⟩ <;> go_simp
end StT
theorem kid_gb {w w':World} {base e n c:Nat} {A:Option Addr} {ks:List (ByteArray×T)} {kr:List (ByteArray×SV×SV)} (h:KidRow w base e A n c ks kr) {g:Nat} (hg:w.grownBy w' (some g)) (hb:g<base):KidRow w' base e A n c ks kr:=
 ⟨h.len,h.lenr,own_gb h.own hg hb,fun i hi hi'=>⟨(h.kid i hi hi').1,(h.kid i hi hi').2.keep hg.size (fun b hb2 hlt=>hg.block b hlt (fun e=>by injection e with e;have:=hb2.1;omega))⟩⟩
end Pk
end Go.Proofs.Ytcbpgemiffmieaa
namespace Go.Proofs.Ytcbpgemiffmieaa
open Go.RowKit Go.Shelf
namespace Tr
open Sp Rw
attribute [local go_sem] Oper.semAt_some
theorem RdO.one {w:World} {ok:Nat→Prop} {t:T} {A B:Option Addr} {n c m d:Nat} (h:RdO w ok t ⟨A,n,c⟩ ⟨B,m,d⟩) (hok:ok w.heap.size) (k:ByteArray) (ty:TypeId) :
  RdO (w.alloc (.cells #[.string k,.slice A n c,.slice B m d] ty)) ok (.mk [] [(k,t)]) ⟨Option.none,0,0⟩ ⟨some ⟨w.heap.size,0,Option.none⟩,1,1⟩:=by
 rw[rdO_mk];refine⟨rfl,RO.nil _ _ _ _ _,rfl,[.string k,.slice A n c,.slice B m d],⟨rfl,Nat.le_refl _,fun u hu=>?_,fun _=>⟨w.heap.size,0,rfl,hok,by simp,fun j=>by go_simp,fun j u hu=>?_⟩⟩,fun i hi=>?_⟩
 ·simp at hu
  rcases hu with rfl | rfl | rfl <;> rfl
 ·rw[Nat.zero_add,cell_of_row _ _ j _ _ (0,0) (heap_alloc_new _ _)]
  simpa using hu
 ·have:i=0:=by simp at hi;omega
  subst this;exact⟨⟨A,n,c⟩,⟨B,m,d⟩,rfl,rfl,rfl,RdO.later h ((Below.refl _ _).alloc (Nat.le_refl _) _)⟩
end Tr
end Go.Proofs.Ytcbpgemiffmieaa
namespace Go.Proofs.Ytcbpgemiffmieaa
open Go.ChangeShapes Go.WideShapes Go.ChangeAt Go.RowKit Go.Shelf
namespace Tr
open Sp Rw
attribute [local go_sem] Oper.semAt_some
end Tr
end Go.Proofs.Ytcbpgemiffmieaa
namespace Go.Proofs.Ytcbpgemiffmieaa
open Go.ChangeShapes Go.WideShapes Go.ChangeAt Go.RowKit
namespace Tr
open Sp Rw
def TreeIs (u:T) (w:World) (e:Ending) (w':World):Prop:=∃ Ae ne ce Ak nk ck,e = .returned (.agg #[.slice Ae ne ce,.slice Ak nk ck])∧RdO w' (fun b=>w.heap.size≤b) u ⟨Ae,ne,ce⟩ ⟨Ak,nk,ck⟩∧Below w.heap.size w w'
theorem TreeIs.rd {u:T} {Ae Ak:Option Addr} {ne nk ce ck lo:Nat} {w:World} (h:RdO w (fun b=>lo≤b) u ⟨Ae,ne,ce⟩ ⟨Ak,nk,ck⟩):RdT w w.heap.size u ⟨Ae,ne,ce⟩ ⟨Ak,nk,ck⟩:=h.rd
end Tr
end Go.Proofs.Ytcbpgemiffmieaa
namespace Go.Proofs.Ytcbpgemiffmieaa
open Go.ChangeShapes Go.WideShapes Go.ChangeAt Go.RowKit
namespace Tr
open Sp Rw
end Tr
end Go.Proofs.Ytcbpgemiffmieaa
namespace Go.Proofs.Ytcbpgemiffmieaa
open Go.ChangeShapes Go.WideShapes Go.ChangeAt Go.RowKit
namespace Tr
open Sp Rw
def kA:ByteArray:=⟨#[97]⟩
def kB:ByteArray:=⟨#[98]⟩
end Tr
end Go.Proofs.Ytcbpgemiffmieaa
namespace Go.Proofs.Ytcbpgemiffmieaa
open Go.ChangeShapes Go.WideShapes Go.ChangeAt Go.RowKit
namespace Tr
open Sp Rw
set_option maxRecDepth 100000
theorem LenT.of_nodes {m:Nat} : ∀ {t:T},nodes t≤m→LenT m t:=by
 intro t
 induction t using T.ind with
 | h es ks ih=>
  intro h;have:=nodes_es es ks;exact .mk (by omega) (by omega) fun k hk=>ih k hk (Nat.le_trans (nodes_kid hk) h)
theorem LenT.mono {m m':Nat} (hm:m≤m'):∀ {t:T},LenT m t→LenT m' t:=by
 intro t
 induction t using T.ind with
 | h es ks ih=>exact fun h=>.mk (Nat.le_trans h.es hm) (Nat.le_trans h.ks hm) fun k hk=>ih k hk (h.kid hk)
theorem LenT.few {t:T} (h:nodes t≤100000):LenT reachBytes t:=(LenT.of_nodes h).mono (by unfold reachBytes;omega)
end Tr
end Go.Proofs.Ytcbpgemiffmieaa
namespace Go.Proofs.Ytcbpgemiffmieaa
open Go.ChangeShapes Go.WideShapes Go.ChangeAt Go.RowKit
namespace Cx
open Sp Rw
theorem box4 (w:World) (s:Nat→SV) (d:Nat) (hd:d<4):(w.alloc (.cells #[.slice (s 0).A (s 0).n (s 0).c,.slice (s 1).A (s 1).n (s 1).c,.slice (s 2).A (s 2).n (s 2).c,.slice (s 3).A (s 3).n (s 3).c] 96)).cell? ⟨w.heap.size,d,none⟩=some (.slice (s d).A (s d).n (s d).c):=by
 rw[cell_of_row _ _ d _ _ (0,0) (heap_alloc_new _ _)]
 rcases (by omega:d=0∨d=1∨d=2∨d=3)with rfl | rfl | rfl | rfl <;> rfl
set_option maxHeartbeats 400000 in
theorem rightC_any (l:List S3) (n:Nat) (A:Option Addr) (c:Nat) (w:World) (hl:l.length=n) (hn:n≤100000) (hr:Rd w w.heap.size 3 A n c (spsC l)) (b:Bool) (hb:rightCB l=b) :
  Calls Try.prog 30 #[.slice A n c] w fun e w'=>e = .returned (.bool b)∧Below w.heap.size w w':=by
 have HC:=Lib.hid (split_any l n A c w hl hn hr b hb);clear hl hr hb;go_enter Try.func30,Try.ntmps30;go_wp2_with (go_at_call 49;refine HC.out.mono ?_;rintro e w1 ⟨s,rfl,HS,hb1⟩);go_ret;exact⟨rfl,hb1.alloc hb1.size _⟩
theorem SvIs.later {w w':World} {s:SV} {r:List (Int×Int)} (h:SvIs w s r) (hb:Below w.heap.size w w'):SvIs w' s r:=⟨h.1,h.2.later hb⟩
instance {s:SV} {r:List (Int×Int)} {v v':World} : Las v v' (SvIs v s r) (SvIs v' s r):=⟨fun h hb=>h.later hb⟩
end Cx
end Go.Proofs.Ytcbpgemiffmieaa
namespace Go.Proofs.Ytcbpgemiffmieaa
open Go.ChangeShapes Go.WideShapes Go.ChangeAt Go.RowKit
namespace Tr
open Sp Rw
end Tr
end Go.Proofs.Ytcbpgemiffmieaa
namespace Go.Proofs.Ytcbpgemiffmieaa
open Go.ChangeShapes Go.WideShapes Go.ChangeAt Go.RowKit
namespace Rw
open Sp
structure Cells4 (W:World) (h:Nat) (v:Nat→Value):Prop where
 free:Free h W
 cell:∀ j,j<4→W.cell? ⟨h,j,none⟩=some (v j)
namespace Cells4
variable {W W':World} {h:Nat} {v:Nat→Value}
theorem later (c:Cells4 W h v) (hb:Below W.heap.size W W'):Cells4 W' h v:=⟨c.free.later hb,fun j hj=>(hb.cell (p:=⟨h,j,none⟩) c.free.1).trans (c.cell j hj)⟩
theorem new (W:World) (v:Nat→Value) (x0 x1 x2 x3:Value) (t:TypeId) (e:(#[x0,x1,x2,x3]:Array Value)=#[v 0,v 1,v 2,v 3]):Cells4 (W.alloc (.cells #[x0,x1,x2,x3] t)) W.heap.size v:=by
 rw[e];refine⟨⟨by simp,fun j=>by go_simp⟩,fun j hj=>?_⟩;rw[cell_of_row _ _ j _ _ (0,0) (heap_alloc_new _ _)]
 rcases (by omega:j=0∨j=1∨j=2∨j=3)with rfl | rfl | rfl | rfl <;> rfl
theorem set (c:Cells4 W h v) {d:Nat} (hd:d<4) (u:Value):Cells4 (W.setCell ⟨h,d,none⟩ u) h (upd v d u):=by
 refine⟨c.free.set _ _,fun j hj=>?_⟩
 by_cases he:j=d
 ·subst he
  rw[upd_same];have k0:=c.cell j hj;have m0:=c.free.2 j;go_simp
 ·rw[upd_other _ _ he,World.cell?_setCell_other W ⟨h,d,none⟩ ⟨h,j,none⟩ _ (fun e=>by injection e with _ e;exact he e.symm)]
  exact c.cell j hj
theorem congr (c:Cells4 W h v) {v':Nat→Value} (e:∀ j,j<4→v j=v' j):Cells4 W h v':=⟨c.free,fun j hj=>by rw[← e j hj];exact c.cell j hj⟩
theorem put (c:Cells4 W h v) (x0 x1 x2 x3:Value):(Cx.put4 h x0 x1 x2 x3 W).cell? ⟨h,0,none⟩=some x0∧(Cx.put4 h x0 x1 x2 x3 W).cell? ⟨h,1,none⟩=some x1∧(Cx.put4 h x0 x1 x2 x3 W).cell? ⟨h,2,none⟩=some x2∧(Cx.put4 h x0 x1 x2 x3 W).cell? ⟨h,3,none⟩=some x3:=
 Cx.put4_cells c.free (c.cell 0 (by omega)) (c.cell 1 (by omega)) (c.cell 2 (by omega)) (c.cell 3 (by omega))
end Cells4
theorem rb_set {w:World} {lo sz n c:Nat} {A:Option Addr} {xs:List Value} (h:Rb w lo sz A n c xs) {a:Addr} (ha:a.block<lo) (u:Value):Rb (w.setCell a u) lo sz A n c xs:=
 ⟨h.len,h.cap,h.one,fun hn=>by
  obtain⟨b,o,e,hl,hb,hc⟩:=h.at_ hn
  exact⟨b,o,e,hl,by simpa [World.setCell] using hb,fun j u' hu=>(World.cell?_setCell_other w a ⟨b,o+j,none⟩ u (fun e2=>by rw[e2]at ha;dsimp only at ha;omega)).trans (hc j u' hu)⟩⟩
end Rw
end Go.Proofs.Ytcbpgemiffmieaa
namespace Go.Proofs.Ytcbpgemiffmieaa
open Go.ChangeShapes Go.WideShapes Go.ChangeAt Go.RowKit
namespace Sp
theorem enters_fn {P : Program} {f : FuncId} {fn : Func} {c : Code} (hf : P.funcs[f]? = some fn) (hname : (fn.name == "runtime.NumGoroutine") = false) (hb : fn.body = some c) (args : Array Value) (w : World) : (callFunc f args).run P w = .ok (.enter f args) w := by
 have h1 : fn.name ≠ "runtime.NumGoroutine" := by simpa using hname
 simp[callFunc,hf,h1,hb,mark]
def minF (x y:Bool):Bool:=x && !y
set_option maxHeartbeats 400000 in
theorem minus_any (a b:List (Int×Int)) (n m:Nat) (A B:Option Addr) (c d:Nat) (w:World) (hla:a.length=n) (hlb:b.length=m) (hn:n≤100000) (hm:m≤100000) (hra:Rd w w.heap.size 2 A n c (runsC a)) (hrb:Rd w w.heap.size 2 B m d (runsC b)) (oa:RightF 1 a) (ob:RightF 1 b) :
  Calls Try.prog 51 #[.slice A n c,.slice B m d] w (JoinIs minF a b w):=by
 have HC:=Lib.hid (join_any minF rfl 72 minus_fn (enters_fn Try.func72 (by kernel_rfl) rfl) a b n m A B c d w hla hlb hn hm hra hrb oa ob);clear hra hrb hla hlb oa ob;go_enter Try.func51,Try.ntmps51;go_wp2_with (go_at_call 71;refine HC.out.mono ?_;rintro e w1 ⟨l,A1,c1,rfl,hp,ho,hb⟩);go_ret;exact⟨l,_,_,rfl,hp,ho,hb⟩
end Sp
end Go.Proofs.Ytcbpgemiffmieaa
namespace Go.Proofs.Ytcbpgemiffmieaa
open Go.ChangeShapes Go.WideShapes Go.ChangeAt Go.RowKit
namespace Cx
open Sp Rw
def pre (q:Nat→List (Int×Int)):Nat→List S3
 | 0=>[]
 | d+1=>pre q d++spans d (q d)
theorem pre_four (q:Nat→List (Int×Int)):pre q 4=glue fun i=>q i.toNat:=by simp[pre,glue]
theorem spans_take {d:Int} {l:List (Int×Int)} {k:Nat} (h:k<l.length) {r:Int×Int} (hr:r=l[k]):spans d (l.take (k+1))=spans d (l.take k)++[(d,r)]:=by
 rw[List.take_succ_eq_append_getElem h,← hr];simp[spans]
theorem spans_len (d:Int) (l:List (Int×Int)):(spans d l).length=l.length:=by simp[spans]
theorem pre_len {q:Nat→List (Int×Int)} {M:Nat} (h:∀ d,d<4→(q d).length≤M):∀ d,d≤4→(pre q d).length≤d*M
 | 0,_=>by simp[pre]
 | d+1,hd=>by
  have h1:=pre_len h d (by omega);have h2:=h d (by omega);simp only[pre,List.length_append,spans_len];rw[Nat.succ_mul];omega
def CtxOwn (base:Nat) (l:List S3) (w:World) (e:Ending) (w':World):Prop:=∃ A c,e = .returned (.slice A l.length c)∧Own w' base 40 3 A l.length c (spsC l)∧Below base w w'
set_option maxRecDepth 100000 in
set_option maxHeartbeats 1000000 in
theorem context_any (s:Nat→SV) (q:Nat→List (Int×Int)) (w:World) (hq:∀ d,d<4→SvIs w (s d) (q d)) (hn:∀ d,d<4→(q d).length≤200000) :
  Calls Try.prog 48 #[.agg #[.slice (s 0).A (s 0).n (s 0).c,.slice (s 1).A (s 1).n (s 1).c,.slice (s 2).A (s 2).n (s 2).c,.slice (s 3).A (s 3).n (s 3).c]] w (CtxOwn w.heap.size (pre q 4) w):=by
 have c0:=box4 w s 0 (by omega);have c1:=box4 w s 1 (by omega);have c2:=box4 w s 2 (by omega);have c3:=box4 w s 3 (by omega);have HQ:=Lib.hid hq;have HN:=Lib.hid hn;clear hq hn;go_enter Try.func48,Try.ntmps48;go_wp2;clear c0 c1 c2 c3
 go_loopw [3,9] (fun v i wr=>∃ (d m:Nat) (A':Option Addr) (c':Nat),d≤4∧v = .slice A' m c'∧i = .int .i64 d∧Hid (m=(pre q d).length)∧Hid (Own wr w.heap.size 40 3 A' m c' (spsC (pre q d)))∧Hid (Below w.heap.size w wr)) (fun _ i _=>4-(intOf i).toNat)
 case atStart=>exact⟨0,0,none,0,by omega,rfl,rfl,rfl,⟨World.ownsRow_nil _ _ _ _,by simp[pre,spsC]⟩,(Below.refl _ _).alloc (Nat.le_refl _) _⟩
 case round=>
  obtain⟨d,m,A',c',hd,rfl,rfl,HM,HO,HB⟩:=hrel
  by_cases hd4:d<4
  ·have hix:=index_parts s d hd4
   obtain⟨sA,sn,sc,hs⟩:∃ sA sn sc,s d=⟨sA,sn,sc⟩:=⟨_,_,_,rfl⟩;obtain⟨l,hl⟩:∃ l,l=q d:=⟨_,rfl⟩
   have HSV:Hid (l.length=sn∧Rd w w.heap.size 2 sA sn sc (runsC l)):=by
    have:=HQ.out d hd4;rw[hs,← hl]at this;exact this
   rw[hs]at hix;dsimp only at hix
   have hln:l.length≤200000:=by rw[hl];exact HN.out d hd4
   have HP:Hid (pre q (d+1)=pre q d++spans d l):=by unfold Hid;rw[hl];rfl
   have hpl:=pre_len HN.out d (by omega);rw[← HM.out]at hpl
   have hpl2:m≤800000:=by have:d*200000≤4*200000:=Nat.mul_le_mul_right _ (by omega);omega
   have hsn:sn≤200000:=by rw[← HSV.out.1];exact hln
   have HS:=Lib.hid hs;clear hs hl hpl hln;go_wp2
   go_loopw [3,15] (fun v i wr=>∃ (k m2:Nat) (A':Option Addr) (c':Nat),k≤sn∧v = .slice A' m2 c'∧i = .int .i64 k∧Hid (m2=(pre q d++spans d (l.take k)).length)∧Hid (Own wr w.heap.size 40 3 A' m2 c' (spsC (pre q d++spans d (l.take k))))∧Hid (Below w.heap.size w wr)) (fun _ i _=>sn-(intOf i).toNat)
   case atStart=>exact⟨0,m,A',c',by omega,rfl,rfl,(by unfold Hid;rw[HM.out];simp[spans]),(by unfold Hid;rw[List.take_zero];simpa [spans] using HO.out),HB.out⟩
   case round=>
    clear HO HB HM;obtain⟨k,m2,A2,c2,hk,rfl,rfl,HM2,HO2,HB2⟩:=hrel
    by_cases hlt:k<sn
    ·have hkl:k<l.length:=by rw[HSV.out.1];exact hlt
     obtain⟨b,o,rfl,hbl,hc⟩:=rd_run HSV.out.2 HSV.out.1 hlt;obtain⟨q0,q1⟩:=hc k hkl;obtain⟨p,hp⟩:∃ p,p=l[k]:=⟨_,rfl⟩;have htk:=spans_take (d:=(d:Int)) hkl hp;rw[← hp]at q0 q1;obtain⟨x,y⟩:=p;have q0:=(HB2.out.cell (p:=⟨b,o+k*2,none⟩) hbl).trans q0;have q1:=(HB2.out.cell (p:=⟨b,o+k*2+1,none⟩) hbl).trans q1;have hb3:=HB2.out.alloc HB2.out.size (.cells #[.int .i64 x,.int .i64 y] 121);have hown:=(HO2.out.row).alloc (.cells #[.int .i64 x,.int .i64 y] 121);rw[HM2.out]at hown
     have hm2:(pre q d++spans d (l.take k)).length≤900000:=by rw[← HM2.out,HM2.out,List.length_append,spans_len,List.length_take];have:=pre_len HN.out d (by omega);have h4:d*200000≤3*200000:=Nat.mul_le_mul_right _ (by omega);omega
     obtain⟨A3,c3,w3,hrun,ho3,hb4⟩:=push spC_len spC_one Try.underlying29 infoS rfl (by omega) (by omega) (wr.alloc (.cells #[.int .i64 x,.int .i64 y] 121)) w.heap.size (wr.heap.size+1) (by simp) hb3.size _ (pre q d++spans d (l.take k)) hown ((d:Int),x,y) #[.int .i64 d,.int .i64 x,.int .i64 y] rfl hm2;rw[List.append_assoc,← htk]at hrun ho3;rw[← HM2.out]at hrun;obtain⟨m3,hm3⟩:∃ m3,m3=(pre q d++spans d (l.take (k+1))).length:=⟨_,rfl⟩;have e3:spsC (pre q d++spans d (l.take (k+1)))=(pre q d++spans d (l.take (k+1))).flatMap spC:=rfl;rw[← e3,← hm3]at ho3;rw[← hm3]at hrun;have Hrun:=Lib.hid hrun;have HO3:=Lib.hid ho3;have HB3:=Lib.hid (hb3.trans hb4);have HM3:=Lib.hid hm3;clear hc hp hrun ho3 hb4 hb3 hown htk hm3 e3 HO2 hm2;go_wp2_with (at_builtin;refine Lib.wpList_append_run _ rfl _ _ _ _ rfl _ _ rfl rfl _ _ Hrun.out ?_)
     refine⟨⟨.slice A3 m3 c3,_,.int .i64 ((k:Int)+1),⟨k+1,by omega,m3,A3,c3,rfl,by go_num,?_,HO3.out⟩,rfl,rfl,rfl⟩,by simp[intOf];omega⟩;have:=HM3.out
     rwa [List.length_append]at this
    ·obtain rfl:k=sn:=by omega
     have HE:Hid (l.take k=l):=List.take_of_length_le (by rw[HSV.out.1];omega);rw[HE.out,← HP.out]at HO2 HM2;go_wp2;go_roundw
     case rel=>exact⟨d+1,m2,A2,c2,by omega,rfl,by go_num,HM2.out,HO2.out,HB2.out⟩
     case measure=>simp[intOf];omega
  ·obtain rfl:d=4:=by omega
   have hm:=HM.out;subst hm;go_wp2;go_ret;exact⟨_,_,rfl,HO.out,HB.out⟩
end Cx
end Go.Proofs.Ytcbpgemiffmieaa
namespace Go.Proofs.Ytcbpgemiffmieaa
open Go.ChangeShapes Go.WideShapes Go.ChangeAt Go.RowKit
namespace Cx
open Sp Rw
def PutIsC (f:Bool→Bool→Bool) (a b:List S3) (n m:Nat) (w:World) (e:Ending) (w':World):Prop:=
  ∃ u q A' c',e = .returned (.slice A' q c')∧Hid (u.length=q)∧Hid (PutC f a b u)∧q≤n+m∧Hid (Own w' w.heap.size 40 3 A' q c' (spsC u))∧Below w.heap.size w w'
def PutsBy (f:Bool→Bool→Bool) (F:FuncId):Prop:=
  ∀ (a b:List (Int×Int)) (n m:Nat) (A B:Option Addr) (c d:Nat) (w:World),a.length=n→b.length=m→n≤100000→m≤100000→Rd w w.heap.size 2 A n c (runsC a)→Rd w w.heap.size 2 B m d (runsC b)→RightF 1 a→RightF 1 b→Calls Try.prog F #[.slice A n c,.slice B m d] w (JoinIs f a b w)
theorem parts_len (a:List S3):(part a 0).length+(part a 1).length+(part a 2).length+(part a 3).length≤a.length:=by
  induction a with
  | nil=>simp[part_nil]
  | cons s a ih=>
    rw[part_cons,part_cons,part_cons,part_cons,List.length_cons]
    by_cases h0:s.1=0
    · rw[if_pos h0,if_neg (by omega),if_neg (by omega),if_neg (by omega),List.length_cons];omega
    · rw[if_neg h0]
      by_cases h1:s.1=1
      · rw[if_pos h1,if_neg (by omega),if_neg (by omega),List.length_cons];omega
      · rw[if_neg h1]
        by_cases h2:s.1=2
        · rw[if_pos h2,if_neg (by omega),List.length_cons];omega
        · rw[if_neg h2]
          by_cases h3:s.1=3
          · rw[if_pos h3,List.length_cons];omega
          · rw[if_neg h3];omega
theorem put_pre {f:Bool→Bool→Bool} {a b:List S3} {r:Nat→List (Int×Int)} (h:∀ d:Nat,d<4→Put f (part a d) (part b d) (r d)):PutC f a b (pre r 4):=by
  rw[pre_four];refine PutC.of fun d hd=>?_
  have e:((d.toNat:Nat):Int)=d:=by have:=hd.1;omega
  have h1:=h d.toNat (by have:=hd.1;have:=hd.2;omega);rw[e]at h1;exact⟨h1.right,h1.has⟩
theorem box4c (w:World) (s:Nat→SV):Cells4 (w.alloc (.cells #[.slice (s 0).A (s 0).n (s 0).c,.slice (s 1).A (s 1).n (s 1).c,.slice (s 2).A (s 2).n (s 2).c,.slice (s 3).A (s 3).n (s 3).c] 96)) w.heap.size (fun j=>.slice (s j).A (s j).n (s j).c):=
  Cells4.new w _ _ _ _ _ _ rfl
set_option maxRecDepth 100000 in
set_option maxHeartbeats 2000000 in
theorem joinC_any (f:Bool→Bool→Bool) (F:FuncId) (hF:PutsBy f F) (eF:∀ args W,(callFunc F args).run Try.prog W = .ok (.enter F args) W) (a b:List S3) (n m:Nat) (A B:Option Addr) (c d:Nat) (w:World) (hla:a.length=n) (hlb:b.length=m) (hn:n≤50000) (hm:m≤50000) (hra:Rd w w.heap.size 3 A n c (spsC a)) (hrb:Rd w w.heap.size 3 B m d (spsC b)) (ha:RightC a) (hb:RightC b) :
    Calls Try.prog 50 #[.slice A n c,.slice B m d,.func (.func F) #[] #[]] w (PutIsC f a b n m w):=by
  have HC1:=Lib.hid (split_any a n A c w hla (by omega) hra true (rightCB_true ha));have HC2:=fun W (h:Below w.heap.size w W)=>Lib.hid (split_any b m B d W hlb (by omega) ((hrb.below h).more h.size) true (rightCB_true hb));have HLA:=Lib.hid hla;have HLB:=Lib.hid hlb;have HRA:=Lib.hid ha;have HRB:=Lib.hid hb;have HF:=Lib.hid hF;clear hla hlb hra hrb ha hb hF;go_enter Try.func50,Try.ntmps50;go_wp2_with fail;refine HC1.out.mono ?_;rintro e w1 ⟨s,rfl,HS,hb1⟩;obtain⟨p,hp⟩:∃ p,p=w1.heap.size:=⟨_,rfl⟩;obtain⟨W1,hW1⟩:∃ W,W=w1.alloc (.cells #[.slice (s 0).A (s 0).n (s 0).c,.slice (s 1).A (s 1).n (s 1).c,.slice (s 2).A (s 2).n (s 2).c,.slice (s 3).A (s 3).n (s 3).c] 96):=⟨_,rfl⟩
  have hpw:w.heap.size≤p:=by rw[hp];exact hb1.size
  have hb1a:Below w1.heap.size w1 W1:=by rw[hW1];exact (Below.refl _ _).alloc (Nat.le_refl _) _
  have HB1:=Lib.hid (hb1.trans (hb1a.mono hb1.size))
  have HP1:Hid (Cells4 W1 p (fun j=>.slice (s j).A (s j).n (s j).c)):=by rw[hW1,hp];exact box4c w1 s
  have HS1:Hid (∀ d:Nat,d<4→SvIs W1 (s d) (part a d)):=fun d hd=>(HS.out d hd).later hb1a;have HW1:=Lib.hid hW1;have HHp:=Lib.hid hp;clear hb1 hb1a HS hW1 hp;go_wp2_with fail;rw[← HHp.out,← HW1.out];refine (HC2 W1 HB1.out).out.mono ?_;rintro e w2 ⟨t,rfl,HT,hb2⟩;obtain⟨p2,hp2⟩:∃ p,p=w2.heap.size:=⟨_,rfl⟩;obtain⟨W2,hW2⟩:∃ W,W=(w2.alloc (.cells #[.slice (t 0).A (t 0).n (t 0).c,.slice (t 1).A (t 1).n (t 1).c,.slice (t 2).A (t 2).n (t 2).c,.slice (t 3).A (t 3).n (t 3).c] 96)).alloc (.cells #[.slice none 0 0,.slice none 0 0,.slice none 0 0,.slice none 0 0] 96):=⟨_,rfl⟩;have hb2a:Below w2.heap.size w2 (w2.alloc (.cells #[.slice (t 0).A (t 0).n (t 0).c,.slice (t 1).A (t 1).n (t 1).c,.slice (t 2).A (t 2).n (t 2).c,.slice (t 3).A (t 3).n (t 3).c] 96)):=(Below.refl _ _).alloc (Nat.le_refl _) _
  have hb2b:Below w2.heap.size w2 W2:=by rw[hW2];exact hb2a.alloc hb2a.size _
  have hb2c:=hb2.trans (hb2b.mono hb2.size);have HB2:=Lib.hid (HB1.out.trans (hb2c.mono HB1.out.size));have HP2:Hid (Cells4 W2 p (fun j=>.slice (s j).A (s j).n (s j).c)):=HP1.out.later hb2c
  have HQ2:Hid (Cells4 W2 p2 (fun j=>.slice (t j).A (t j).n (t j).c)):=by
    rw[hW2,hp2];exact (box4c w2 t).later ((Below.refl _ _).alloc (Nat.le_refl _) _)
  have HR2:Hid (Cells4 W2 (p2+1) (fun _=>.slice none 0 0)):=by
    have:=Cells4.new (w2.alloc (.cells #[.slice (t 0).A (t 0).n (t 0).c,.slice (t 1).A (t 1).n (t 1).c,.slice (t 2).A (t 2).n (t 2).c,.slice (t 3).A (t 3).n (t 3).c] 96)) (fun _=>.slice none 0 0) (.slice none 0 0) (.slice none 0 0) (.slice none 0 0) (.slice none 0 0) 96 rfl;rw[hW2,hp2];unfold Hid
    simpa using this
  have HS2:Hid (∀ d:Nat,d<4→(part a d).length=(s d).n∧Rd W2 p2 2 (s d).A (s d).n (s d).c (runsC (part a d))):=fun d hd=>⟨(HS1.out d hd).1,by rw[hp2];exact (((HS1.out d hd).2.later hb2).below hb2b)⟩;have HT2:Hid (∀ d:Nat,d<4→(part b d).length=(t d).n∧Rd W2 p2 2 (t d).A (t d).n (t d).c (runsC (part b d))):=fun d hd=>⟨(HT.out d hd).1,by rw[hp2];exact ((HT.out d hd).2.below hb2b)⟩
  have hpp:p<p2:=by rw[hp2];exact Nat.lt_of_lt_of_le HP1.out.free.1 hb2.size
  have HW2:=Lib.hid hW2;have HHp2:=Lib.hid hp2;clear hb2 hb2a hb2b hb2c HT HS1 HP1 hW2 hp2;go_wp2;rw[← HHp2.out,← HW2.out];clear HC1 HC2 HB1 HW1 HHp HW2 HHp2
  go_loopw [29] (fun i wr=>∃ (d:Nat) (u:Nat→SV) (r:Nat→List (Int×Int)),d≤4∧i = .int .i64 d∧Hid (Cells4 wr (p2+1) (fun j=>.slice (u j).A (u j).n (u j).c))∧Hid (∀ j:Nat,j<d→(r j).length=(u j).n∧Rb wr (p2+2) 2 (u j).A (u j).n (u j).c (runsC (r j))∧Put f (part a j) (part b j) (r j))∧Hid (Below (p2+1) W2 wr)) (fun i _=>4-(intOf i).toNat)
  case atStart=>exact⟨0,fun _=>sv0,fun _=>[],by omega,rfl,HR2.out,fun j hj=>by omega,Below.refl _ _⟩
  case round=>
    obtain⟨d,u,r,hd,rfl,HU,HR,HBL⟩:=hrel;clear HR2
    by_cases hd4:d<4
    · have hps:p2+1<wr.heap.size:=HU.out.free.1
      obtain⟨sA,sn,sc,hs⟩:∃ sA sn sc,s d=⟨sA,sn,sc⟩:=⟨_,_,_,rfl⟩;obtain⟨tA,tn,tc,ht⟩:∃ tA tn tc,t d=⟨tA,tn,tc⟩:=⟨_,_,_,rfl⟩;have k0:=(HBL.out.cell (p:=⟨p,d,none⟩) (by show p<p2+1;omega)).trans (HP2.out.cell d hd4);have k1:=(HBL.out.cell (p:=⟨p2,d,none⟩) (by show p2<p2+1;omega)).trans (HQ2.out.cell d hd4);have k2:=HU.out.cell d hd4;have hsd:=HS2.out d hd4;have htd:=HT2.out d hd4;rw[hs]at k0 hsd;rw[ht]at k1 htd;dsimp only at k0 k1 hsd htd;have hbd:=HBL.out.trans ((Below.refl wr.heap.size wr).drew.mono (by omega))
      have HCF:Hid (Calls Try.prog F #[.slice sA sn sc,.slice tA tn tc] wr.drew fun e w'=>∃ l A q c,e = .returned (.slice A q c)∧Hid (l.length=q∧Rb w' (p2+2) 2 A q c (runsC l)∧Put f (part a d) (part b d) l)∧Below wr.heap.size wr w'):=by
        refine (HF.out (part a d) (part b d) sn tn sA tA sc tc wr.drew hsd.1 htd.1 (by have:=part_len a d;have:=HLA.out;have:=hsd.1;omega) (by have:=part_len b d;have:=HLB.out;have:=htd.1;omega)
          (((hsd.2.below (hbd.mono (by omega))).more (by show p2≤wr.heap.size;omega))) (((htd.2.below (hbd.mono (by omega))).more (by show p2≤wr.heap.size;omega)))
          (HRA.out.part d (by unfold Cen;omega)) (HRB.out.part d (by unfold Cen;omega))).mono ?_
        rintro e w' ⟨l,A',c',rfl,hp,ho,hb⟩;exact⟨l,A',l.length,c',rfl,⟨rfl,(ho.rb).mono (by show p2+2≤wr.heap.size;omega),hp⟩,((Below.refl _ _).drew).trans hb⟩
      have hne1:p≠p2+1:=by omega
      have hne2:¬(p2+1=p):=by omega
      have hdi:(d:Int)<4:=by omega
      clear hsd htd hbd;go_wp2
      go_region_held3 (fun W=>W.cell? ⟨p,d,none⟩=some (.slice sA sn sc)∧W.cell? ⟨p2,d,none⟩=some (.slice tA tn tc)) (go_keep)
        (first
          | (refine HCF.out.mono ?_;rintro e w3 ⟨l,A3,q3,c3,rfl,HL3,hb3⟩
             have HU3:=Lib.hid (HU.out.later hb3);have HB3:=Lib.hid hb3;have i0:w3.cell? ⟨p,d,none⟩=some (.slice sA sn sc):=(hb3.cell (p:=⟨p,d,none⟩) (by show p<wr.heap.size;omega)).trans k0;have i1:w3.cell? ⟨p2,d,none⟩=some (.slice tA tn tc):=(hb3.cell (p:=⟨p2,d,none⟩) (by show p2<wr.heap.size;omega)).trans k1;have i2:w3.cell? ⟨p2+1,d,none⟩=_:=HU3.out.cell d hd4;have i3:w3.frozen? ⟨p2+1,d,none⟩=false:=HU3.out.free.2 d
             clear hb3 k0 k1 k2))
      all_goals
        have HC4:Hid (Cells4 (w3.setCell ⟨p2+1,d,none⟩ (.slice A3 q3 c3)) (p2+1) (fun j=>.slice (upd u d ⟨A3,q3,c3⟩ j).A (upd u d ⟨A3,q3,c3⟩ j).n (upd u d ⟨A3,q3,c3⟩ j).c)):=by
          refine (HU3.out.set hd4 _).congr fun j hj=>?_
          by_cases he:j=d
          · subst he;rw[upd_same,upd_same]
          · rw[upd_other _ _ he,upd_other _ _ he]
        have HR4:Hid (∀ j:Nat,j<d+1→(upd r d l j).length=(upd u d ⟨A3,q3,c3⟩ j).n∧Rb (w3.setCell ⟨p2+1,d,none⟩ (.slice A3 q3 c3)) (p2+2) 2 (upd u d ⟨A3,q3,c3⟩ j).A (upd u d ⟨A3,q3,c3⟩ j).n (upd u d ⟨A3,q3,c3⟩ j).c (runsC (upd r d l j))∧Put f (part a j) (part b j) (upd r d l j)):=fun j hj=>by
          by_cases he:j=d
          · subst he
            rw[upd_same,upd_same];exact⟨HL3.out.1,rb_set HL3.out.2.1 (a:=⟨p2+1,j,none⟩) (by show p2+1<p2+2;omega) _,HL3.out.2.2⟩
          · rw[upd_other _ _ he,upd_other _ _ he]
            obtain⟨x1,x2,x3⟩:=HR.out j (by omega);exact⟨x1,rb_set (x2.later HB3.out) (a:=⟨p2+1,d,none⟩) (by show p2+1<p2+2;omega) _,x3⟩
        have HB4:Hid (Below (p2+1) W2 (w3.setCell ⟨p2+1,d,none⟩ (.slice A3 q3 c3))):=(HBL.out.trans (HB3.out.mono (by omega))).setCell (p:=⟨p2+1,d,none⟩) (Nat.le_refl _) _;clear i0 i1 i2 i3;go_wp2;go_roundw
        case rel=>exact⟨d+1,upd u d ⟨A3,q3,c3⟩,upd r d l,by omega,by go_num,HC4.out,HR4.out,HB4.out⟩
        case measure=>simp[intOf];omega
    · obtain rfl:d=4:=by omega
      have HC:=Lib.hid (context_any u r wr (fun j hj=>⟨(HR.out j hj).1,(HR.out j hj).2.1.rd⟩) (fun j hj=>by have:=(HR.out j hj).2.2.len;have:=part_len a j;have:=part_len b j;have:=HLA.out;have:=HLB.out;omega));have k0:=HU.out.cell 0 (by omega);have k1:=HU.out.cell 1 (by omega);have k2:=HU.out.cell 2 (by omega);have k3:=HU.out.cell 3 (by omega);have HPC:Hid (PutC f a b (pre r 4)):=put_pre fun j hj=>(HR.out j hj).2.2
      have HLN:Hid ((pre r 4).length≤n+m):=by
        have h0:=(HR.out 0 (by omega)).2.2.len;have h1:=(HR.out 1 (by omega)).2.2.len;have h2:=(HR.out 2 (by omega)).2.2.len;have h3:=(HR.out 3 (by omega)).2.2.len;have ea:=parts_len a;have eb:=parts_len b;have h4:=HLA.out;have h5:=HLB.out;unfold Hid;rw[pre_four];unfold glue;rw[List.length_append,List.length_append,List.length_append,spans_len,spans_len,spans_len,spans_len];show (r 0).length+((r 1).length+((r 2).length+(r 3).length))≤n+m;rw[show ((0:Nat):Int)=0 from rfl]at h0;rw[show ((1:Nat):Int)=1 from rfl]at h1;rw[show ((2:Nat):Int)=2 from rfl]at h2;rw[show ((3:Nat):Int)=3 from rfl]at h3;omega
      have HB5:Hid (Below w.heap.size w wr):=HB2.out.trans (HBL.out.mono (by omega));clear HR HBL HP2 HQ2 HS2 HT2;go_wp2_with (go_at_call 48;refine HC.out.mono ?_;rintro e w3 ⟨A3,c3,rfl,ho3,hb3⟩);go_ret;exact⟨pre r 4,(pre r 4).length,A3,c3,rfl,rfl,HPC.out,HLN.out,ho3.mono HB5.out.size,HB5.out.trans (hb3.mono HB5.out.size)⟩
theorem minusC_any (a b:List S3) (n m:Nat) (A B:Option Addr) (c d:Nat) (w:World) (hla:a.length=n) (hlb:b.length=m) (hn:n≤50000) (hm:m≤50000) (hra:Rd w w.heap.size 3 A n c (spsC a)) (hrb:Rd w w.heap.size 3 B m d (spsC b)) (ha:RightC a) (hb:RightC b) :
    Calls Try.prog 31 #[.slice A n c,.slice B m d] w (PutIsC minF a b n m w):=by
  have HC:=Lib.hid (joinC_any minF 51 (fun a b n m A B c d w h1 h2 h3 h4 h5 h6 h7 h8=>minus_any a b n m A B c d w h1 h2 h3 h4 h5 h6 h7 h8) (enters_fn Try.func51 (by kernel_rfl) rfl) a b n m A B c d w hla hlb hn hm hra hrb ha hb);clear hla hlb hra hrb ha hb;go_enter Try.func31,Try.ntmps31;go_wp2_with (go_at_call 50;refine HC.out.mono ?_;rintro e w1 ⟨u,q,A1,c1,rfl,h1,h2,h3,h4,h5⟩);go_ret;exact⟨u,q,_,_,rfl,h1,h2,h3,h4,h5⟩
set_option maxHeartbeats 400000 in
theorem leqC_any (a b:List S3) (n m:Nat) (A B:Option Addr) (c d:Nat) (w:World) (hla:a.length=n) (hlb:b.length=m) (hn:n≤50000) (hm:m≤50000) (hra:Rd w w.heap.size 3 A n c (spsC a)) (hrb:Rd w w.heap.size 3 B m d (spsC b)) (ha:RightC a) (hb:RightC b) :
    Calls Try.prog 20 #[.slice A n c,.slice B m d] w fun e w'=>∃ l,PutC minF a b l∧e = .returned (.bool (decide (l=[])))∧Below w.heap.size w w':=by
  have HT1:=Lib.hid (rightC_any a n A c w hla (by omega) hra true (rightCB_true ha));have HT2:=fun W (h:Below w.heap.size w W)=>Lib.hid (rightC_any b m B d W hlb (by omega) ((hrb.below h).more h.size) true (rightCB_true hb));have HM:=fun W (h:Below w.heap.size w W)=>Lib.hid (minusC_any a b n m A B c d W hla hlb hn hm ((hra.below h).more h.size) ((hrb.below h).more h.size) ha hb);clear hra hrb hla hlb ha hb;go_enter Try.func20,Try.ntmps20;go_wp2_with fail;refine HT1.out.mono ?_;rintro e w1 ⟨rfl,hb1⟩;go_wp2_with fail;refine (HT2 w1 hb1).out.mono ?_;rintro e w2 ⟨rfl,hb2⟩;have hb12:=hb1.trans (hb2.mono hb1.size);go_wp2_with fail;refine (HM w2 hb12).out.mono ?_;rintro e w3 ⟨l,q,A3,c3,rfl,HL3,HP,hq,HR,hb3⟩;have HB:=Lib.hid (hb12.trans (hb3.mono hb12.size));obtain⟨z,hz⟩:∃ z,z=decide (l=[]):=⟨_,rfl⟩
  have hz2:((q:Int)==0)=z:=by
    rw[hz,← HL3.out]
    cases l with
    | nil=>rfl
    | cons r l=>simp;omega
  have HZ:=Lib.hid hz;clear hb1 hb2 hb3 hb12 hz;go_wp2;go_ret;exact⟨l,HP.out,ret_bool HZ.out,HB.out⟩
theorem leqC_bad (a b:List S3) (n m:Nat) (A B:Option Addr) (c d:Nat) (w:World) (hla:a.length=n) (hlb:b.length=m) (hn:n≤50000) (hm:m≤50000) (hra:Rd w w.heap.size 3 A n c (spsC a)) (hrb:Rd w w.heap.size 3 B m d (spsC b)) (hab:(rightCB a&&rightCB b)=false) :
    Calls Try.prog 20 #[.slice A n c,.slice B m d] w fun e w'=>e = .returned (.bool false)∧Below w.heap.size w w':=by
  obtain⟨x,hx⟩:∃ x,x=rightCB a:=⟨_,rfl⟩;obtain⟨y,hy⟩:∃ y,y=rightCB b:=⟨_,rfl⟩;rw[← hx,← hy]at hab;have HT1:=Lib.hid (rightC_any a n A c w hla (by omega) hra x hx.symm);have HT2:=fun W (h:Below w.heap.size w W)=>Lib.hid (rightC_any b m B d W hlb (by omega) ((hrb.below h).more h.size) y hy.symm);clear hra hrb hla hlb hx hy
  cases x with
  | false=>
    go_enter Try.func20,Try.ntmps20;go_wp2_with fail;refine HT1.out.mono ?_;rintro e w1 ⟨rfl,hb1⟩;go_wp2;go_ret;exact⟨rfl,hb1⟩
  | true=>
    rw[Bool.true_and]at hab;subst hab;go_enter Try.func20,Try.ntmps20;go_wp2_with fail;refine HT1.out.mono ?_;rintro e w1 ⟨rfl,hb1⟩;go_wp2_with fail;refine (HT2 w1 hb1).out.mono ?_;rintro e w2 ⟨rfl,hb2⟩;go_wp2;go_ret;exact⟨rfl,hb1.trans (hb2.mono hb1.size)⟩
end Cx
end Go.Proofs.Ytcbpgemiffmieaa
namespace Go.Proofs.Ytcbpgemiffmieaa
open Go.ChangeShapes Go.WideShapes Go.ChangeAt Go.RowKit
namespace Cx
open Sp Rw
def dotC (d:Int×Int):List Value:=[.int .i64 d.1,.int .i64 d.2]
theorem dotC_len (d:Int×Int):(dotC d).length=2:=rfl
theorem rd_dot {w:World} {B n c:Nat} {A:Option Addr} {l:List (Int×Int)} (h:Rd w B 2 A n c (l.flatMap dotC)) {m:Nat} (hm:m<n) :
  ∃ b o,A=some ⟨b,o,none⟩∧b<B∧∀ (i:Nat) (hi:i<l.length),w.cell? ⟨b,o+i*2,none⟩=some (.int .i64 l[i].1)∧w.cell? ⟨b,o+i*2+1,none⟩=some (.int .i64 l[i].2):=by
 obtain⟨b,o,e,hb,hc⟩:=rd_elem dotC_len h hm;exact⟨b,o,e,hb,fun i hi=>⟨hc i hi 0 _ rfl,hc i hi 1 _ rfl⟩⟩
def nums (l:List (Int×Int)) (d:Int):List Int:=(l.filter fun x=>decide (x.1=d)).map fun x=>x.2
theorem nums_append (a b:List (Int×Int)) (d:Int):nums (a++b) d=nums a d++nums b d:=by simp[nums]
theorem nums_one (x:Int×Int) (d:Int):nums [x] d=if x.1=d then [x.2]else []:=by
 unfold nums
 by_cases h:x.1=d <;> simp[h]
theorem nums_take {l:List (Int×Int)} {k:Nat} (hk:k<l.length) {x:Int×Int} (hx:x=l[k]) (d:Int):nums (l.take (k+1)) d=if x.1=d then nums (l.take k) d++[x.2]else nums (l.take k) d:=by
 rw[List.take_succ_eq_append_getElem hk,nums_append,← hx,nums_one]
 split <;> simp
theorem nums_mem {l:List (Int×Int)} {d v:Int} : v∈nums l d↔(d,v)∈l:=by
 unfold nums;simp only[List.mem_map,List.mem_filter,decide_eq_true_eq];constructor
 ·rintro⟨s,⟨hs,he⟩,rfl⟩
  subst he;exact hs
 ·intro h
  exact⟨(d,v),⟨h,rfl⟩,rfl⟩
theorem nums_len (l:List (Int×Int)) (d:Int):(nums l d).length≤l.length:=by
 unfold nums;rw[List.length_map];exact List.length_filter_le _ _
structure OfC (l:List (Int×Int)) (u:List S3):Prop where
 right:RightC u
 has:∀ d n,Cen d→(hasC u d n=true↔(d,n)∈l)
theorem OfC.eq {l:List (Int×Int)} {u u':List S3} (h:OfC l u) (h':OfC l u'):u=u':=extC h.right h'.right fun d n hd=>by
 have h1:=h.has d n hd;have h2:=h'.has d n hd
 cases e1:hasC u d n <;> cases e2:hasC u' d n <;> simp_all
theorem of_pre {l:List (Int×Int)} {r:Nat→List (Int×Int)} (h:∀ d:Nat,d<4→SetIs (nums l d) (r d)):OfC l (pre r 4):=by
 have e:∀ d,Cen d→((d.toNat:Nat):Int)=d∧d.toNat<4:=fun d hd=>⟨by have:=hd.1;omega,by have:=hd.1;have:=hd.2;omega⟩;rw[pre_four];refine⟨right_glue fun d hd=>?_,fun d n hd=>?_⟩
 ·exact (h d.toNat (e d hd).2).1
 ·unfold hasC
  rw[part_glue _ hd];have:=(h d.toNat (e d hd).2).2 n;rw[(e d hd).1]at this;exact this.trans nums_mem
def goodD (l:List (Int×Int)):Prop:=∀ x∈l,Dt.rightB x.1 x.2=true
theorem good_num {x:Int×Int} (h:Dt.rightB x.1 x.2=true):(0≤x.1∧x.1<4)∧1≤x.2∧x.2≤1099511627776:=by
 have:=of_decide_eq_true (p:=0≤x.1∧x.1<4∧1≤x.2∧x.2≤1099511627776) h;omega
theorem index_nums (s:Nat→SV) (k:Nat) (hk:k<4) (W:World):(Instr.index 92 (.agg #[.slice (s 0).A (s 0).n (s 0).c,.slice (s 1).A (s 1).n (s 1).c,.slice (s 2).A (s 2).n (s 2).c,.slice (s 3).A (s 3).n (s 3).c]) (.int .i64 k)).run Try.prog W = .ok (.slice (s k).A (s k).n (s k).c) W:=by
 have infoN:(Try.prog.info? 91).map (fun i=>(i.zero,i.size,i.bytes))=some (some (.slice none 0 0),1,24):=by kernel_rfl
 obtain⟨i0,hi0,_,hz1,_⟩:=info_of infoN
 have hs:∀ W,(sizeOf 91).run Try.prog W = .ok 1 W:=fun W=>by simp[sizeOf,typeInfo,hi0,hz1]
 have ha:∀ W,(isAgg 91).run Try.prog W = .ok false W:=fun W=>by simp[isAgg,run_underlying Try.underlying91]
 rcases (by omega:k=0∨k=1∨k=2∨k=3)with rfl | rfl | rfl | rfl <;> simp[Instr.index,run_underlying Try.underlying92,asIntOf,go_sem,hs,ha]
theorem upd_nums {l:List (Int×Int)} {k d:Nat} (hk:k<l.length) {y:Int} (hx:((d:Int),y)=l[k]) :
  upd (fun i=>intsC (nums (l.take k) i)) d (intsC (nums (l.take k) d)++[.int .i64 y])=fun i:Nat=>intsC (nums (l.take (k+1)) i):=by
 funext i
 rw[nums_take hk hx]
 by_cases h:i=d
 ·subst h
  rw[upd_same,if_pos rfl,intsC_append];rfl
 ·rw[upd_other _ _ h,if_neg (by intro e;exact h (Int.ofNat.inj e.symm))]
def OfIsC (l:List (Int×Int)) (n:Nat) (w:World) (e:Ending) (w':World):Prop:=
 (goodD l∧∃ u q A c,e = .returned (.tuple #[.slice A q c,.int .i64 0])∧Hid (u.length=q)∧Hid (OfC l u)∧q≤4*n∧Hid (Rd w' w'.heap.size 3 A q c (spsC u))∧Below w.heap.size w w') ∨
 (¬goodD l∧e = .returned (.tuple #[.slice none 0 0,.int .i64 1])∧Below w.heap.size w w')
def OfIsO (l:List (Int×Int)) (n:Nat) (w:World) (e:Ending) (w':World):Prop:=
 (goodD l∧∃ u q A c b,e = .returned (.tuple #[.slice A q c,.int .i64 0])∧Hid (u.length=q)∧Hid (OfC l u)∧q≤4*n∧Hid (w.heap.size≤b∧Own w' b 40 3 A q c (spsC u))∧Below w.heap.size w w') ∨
 (¬goodD l∧e = .returned (.tuple #[.slice none 0 0,.int .i64 1])∧Below w.heap.size w w')
set_option maxRecDepth 100000 in
set_option maxHeartbeats 4000000 in
theorem ofC_own (l:List (Int×Int)) (n:Nat) (A:Option Addr) (c:Nat) (w:World) (hl:l.length=n) (hn:n≤10000) (hr:Rd w w.heap.size 2 A n c (l.flatMap dotC)) :
  Calls Try.prog 28 #[.slice A n c] w (OfIsO l n w):=by
 obtain⟨g,hg⟩:∃ g,g=w.heap.size:=⟨_,rfl⟩;have HR:=Lib.hid hr;have HL:=Lib.hid hl;have HG:=Lib.hid hg;clear hr hl hg;go_enter Try.func28,Try.ntmps28;go_wp2;rw[← HG.out]
 go_loopw [14] (fun i wr=>∃ (k:Nat) (s:Nat→SV),k≤n∧i = .int .i64 k∧Hid (goodD (l.take k))∧Hid (Rows4 wr (g+1) 2 1 g s (fun d=>intsC (nums (l.take k) d)))∧Hid (∀ d:Nat,d<4→(nums (l.take k) d).length=(s d).n)∧Hid (Below w.heap.size w wr)) (fun i _=>n-(intOf i).toNat)
 case atStart=>
  rw[HG.out];refine⟨0,fun _=>sv0,by omega,rfl,fun x hx=>by simp at hx,Rows4.nil (by omega) (by simp) ⟨by simp,fun j=>by go_simp⟩ (fun d hd=>?_),fun d _=>rfl,Dt.box_below _ _ _⟩
  rcases (by omega:d=0∨d=1∨d=2∨d=3)with rfl | rfl | rfl | rfl <;> go_simp
 case round=>
  obtain⟨k,s,hk,rfl,HGD,HS,HN,HBL⟩:=hrel
  by_cases hlt:k<n
  ·have hkl:k<l.length:=by rw[HL.out];exact hlt
   obtain⟨b1,o,rfl,hbl,hc⟩:=rd_dot HR.out hlt;obtain⟨q0,q1⟩:=hc k hkl;obtain⟨p,hp⟩:∃ p,p=l[k]:=⟨_,rfl⟩;have HP:Hid (p=l[k]):=Lib.hid hp
   have hmem:p∈l:=by rw[hp];exact List.getElem_mem hkl
   have htk:l.take (k+1)=l.take k++[p]:=by rw[hp];exact List.take_succ_eq_append_getElem hkl
   rw[← hp]at q0 q1;obtain⟨dc,y⟩:=p;have q0:=(HBL.out.cell (p:=⟨b1,o+k*2,none⟩) hbl).trans q0;have q1:=(HBL.out.cell (p:=⟨b1,o+k*2+1,none⟩) hbl).trans q1;dsimp only at q0 q1;obtain⟨h,hh⟩:∃ h,h=wr.heap.size:=⟨_,rfl⟩;obtain⟨W,hW⟩:∃ W,W=wr.alloc (.cells #[.int .i64 dc,.int .i64 y] 35):=⟨_,rfl⟩
   have hbel:Below wr.heap.size wr W:=by rw[hW];exact Dt.box_below _ _ _
   have HK:Hid (Kept [(⟨h,0,none⟩,.int .i64 dc),(⟨h,1,none⟩,.int .i64 y)] wr W):=by
    rw[hW,hh];exact (((Kept.nil wr).alloc _).cons_of (by go_simp)).cons_of (by go_simp)
   have HW:=Lib.hid hW;have HH:=Lib.hid hh
   cases hrb:Dt.rightB dc y with
   | false=>
    have HRT:Hid (Calls Try.prog 46 #[.agg #[.int .i64 dc,.int .i64 y]] W fun e w'=>e = .returned (.bool false)∧Below W.heap.size W w'):=by have:=Dt.right_any dc y W;rwa [hrb]at this
    have HBAD:Hid (¬goodD l):=fun hg=>by have:=hg _ hmem;rw[hrb]at this;cases this
    have HB1:=Lib.hid (HBL.out.trans (hbel.mono HBL.out.size));clear hc hp hmem htk hW hh hbel hrb;go_wp2_with fail;rw[← HW.out];clear q0 q1;refine HRT.out.mono ?_;rintro e w2 ⟨rfl,hb2⟩;go_wp2;go_ret2;exact .inr ⟨HBAD.out,rfl,HB1.out.trans (hb2.mono HB1.out.size)⟩
   | true=>
    have HRT:Hid (Calls Try.prog 46 #[.agg #[.int .i64 dc,.int .i64 y]] W fun e w'=>e = .returned (.bool true)∧Below W.heap.size W w'):=by have:=Dt.right_any dc y W;rwa [hrb]at this
    have HGD2:Hid (goodD (l.take (k+1))):=fun x hx=>by
     rw[htk]at hx
     rcases List.mem_append.1 hx with hx | hx
     ·exact HGD.out x hx
     ·rw[List.mem_singleton.1 hx];exact hrb
    obtain⟨⟨hd0,hd4⟩,_⟩:=good_num (x:=(dc,y)) hrb;dsimp only at hd0 hd4;obtain⟨d,rfl⟩:∃ d:Nat,dc=(d:Int):=⟨dc.toNat,by omega⟩
    have hd4n:d<4:=by omega
    have HBE:=Lib.hid hbel;have HHS:=Lib.hid hh;clear hc hp hmem htk hW hh hbel hrb HGD;go_wp2_with fail;rw[← HW.out,← HH.out];clear q0 q1;refine HRT.out.mono ?_;rintro e W2 ⟨rfl,hb2⟩;have HK2:=Lib.hid (HK.out.later hb2);have HS1:=(((HS.out.later HBE.out).later hb2)).later ((Below.refl W2.heap.size W2).drew)
    have hnk:(s d).n≤k:=by rw[← HN.out d hd4n];exact Nat.le_trans (nums_len _ _) (by rw[List.length_take];exact Nat.min_le_left _ _)
    obtain⟨A',c',w',r1,r2,r3,r4,r5⟩:=HS1.push Try.underlying91 infoI rfl (by omega) (by omega) hd4n W2.heap.size rfl [.int .i64 y] rfl (by intro u hu;simp at hu;rcases hu with rfl;rfl) (by omega)
    have hne:(s d).val.ownBlock≠some h:=fun e=>by have:=(HS.out.lt hd4n e).2;have:=HHS.out;omega
    have hlt2:h<W2.drew.heap.size:=by
     have h1:h<W.heap.size:=World.block_lt_of_cell? W _ HK.out.c0;exact Nat.lt_of_lt_of_le h1 hb2.size
    have c0:=HK2.out.c0;have c1:=HK2.out.c1;have i0:w'.cell? ⟨h,0,none⟩=some (.int .i64 d):=(r2 h hne hlt2 0).trans c0;have i1:w'.cell? ⟨h,1,none⟩=some (.int .i64 y):=(r2 h hne hlt2 1).trans c1;have hl1:g<W2.heap.size:=HS1.free.1;have hl2:h<W2.heap.size:=hlt2
    have hgh:g<h:=by have:=HS.out.free.1;have:=HHS.out;omega
    have hgh2:h≠g:=by omega
    have hgh3:¬(g=h):=by omega
    have ig:w'.cell? ⟨g,d,none⟩=some (.slice (s d).A (s d).n (s d).c):=(r2 g (fun e=>by have:=(HS.out.lt hd4n e).1;omega) (HS1.free.1) d).trans (HS1.cell d hd4n);have cg:W2.cell? ⟨g,d,none⟩=some (.slice (s d).A (s d).n (s d).c):=HS1.cell d hd4n;have mg:=r3.2 d
    have HN2:Hid (∀ i:Nat,i<4→(nums (l.take (k+1)) i).length=(upd s d ⟨A',(s d).n+1,c'⟩ i).n):=fun i hi=>by
     rw[nums_take hkl HP.out]
     by_cases he:i=d
     ·subst he
      rw[upd_same,if_pos rfl,List.length_append,HN.out i hi];rfl
     ·rw[upd_other _ _ he,if_neg (by intro e;exact he (Int.ofNat.inj e.symm)),HN.out i hi]
    have HS2:Hid (Rows4 (w'.setCell ⟨g,d,none⟩ (.slice A' ((s d).n+1) c')) (g+1) 2 1 g (upd s d ⟨A',(s d).n+1,c'⟩) (fun i=>intsC (nums (l.take (k+1)) i))):=by
     have:=r5;rw[upd_nums hkl HP.out]at this;exact this
    have hb4:Below (g+1) wr w':=((HBE.out.trans (hb2.mono HBE.out.size)).mono HS.out.high).trans (((Below.refl _ _).drew).trans r4);have HB4:Hid (Below w.heap.size w (w'.setCell ⟨g,d,none⟩ (.slice A' ((s d).n+1) c'))):=(HBL.out.trans (hb4.mono (by rw[HG.out];omega))).setCell (p:=⟨g,d,none⟩) (by rw[HG.out];exact Nat.le_refl _) _;have Hrun:=Lib.hid r1;obtain⟨sA,sn,sc,hs⟩:∃ sA sn sc,s d=⟨sA,sn,sc⟩:=⟨_,_,_,rfl⟩;rw[hs]at Hrun cg ig HS2 HN2 HB4;dsimp only at Hrun cg ig HS2 HN2 HB4;clear r1 r2 r3 r4 r5 hb4 hne hlt2 HS1 hs HS HN HBL hb2 HK HK2 HBE HHS;go_wp2;refine wp_region_held_drew (S:=fun W=>W.cell? ⟨h,0,none⟩=some (.int .i64 d)∧W.cell? ⟨h,1,none⟩=some (.int .i64 y)) (by kernel_rfl) (by go_keep) (fun hHeld=>?_);refine Tk 0 21 ?_;refine Tk 1 22 ?_;refine Tk 2 23 ?_;refine Tk 3 24 ?_;refine Tk 4 25 ?_;refine Tk 6 27 ?_;refine Tk 7 28 ?_
    refine wpAnyH_ready (rs:=[5,8]) (by kernel_rfl) (by simp) ?_;refine AllReadyH.cons (o:=⟨some 26,_,_,_,_,_⟩) rfl (fun K hK=>?_) (AllReadyH.cons (o:=⟨some 29,_,_,_,_,_⟩) rfl (fun K hK=>?_) AllReadyH.nil)
    ·go_simp
     refine Th hK ?_ (fun hHeld2=>?_)
     ·exact hHeld
     clear hK K hHeld;have hHeld:=hHeld2;clear hHeld2;refine Tc 8 (fun K hK=>?_);go_simp;refine Th hK ?_ (fun hHeld2=>?_)
     ·(try dsimp only);go_keep
     clear hK K hHeld;have hHeld:=hHeld2;clear hHeld2;refine Tc 9 (fun K hK=>?_);refine upon_append _ _ _ rfl rfl rfl Hrun.out ?_;clear hHeld;refine Th hK ?_ (fun hHeld=>?_)
     ·exact⟨i0,i1⟩
     clear hK K;refine Tk 10 31 ?_;refine Tc 11 (fun K hK=>?_);go_simp;refine Th hK ?_ (fun hHeld2=>?_)
     ·(try dsimp only);go_keep
     clear hK K hHeld;have hHeld:=hHeld2;clear hHeld2;refine wpAnyH_done (by kernel_rfl) ?_ _;clear Hrun c0 c1 i0 i1 cg ig mg hHeld;go_wp2;go_roundw
     case rel=>exact⟨k+1,_,by omega,by go_num,HGD2.out,HS2.out,HN2.out,HB4.out⟩
     case measure=>simp[intOf];omega
    ·go_simp
     refine Th hK ?_ (fun hHeld2=>?_)
     ·(try dsimp only);go_keep
     clear hK K hHeld;have hHeld:=hHeld2;clear hHeld2;refine Tc 5 (fun K hK=>?_);go_simp;refine Th hK ?_ (fun hHeld2=>?_)
     ·exact hHeld
     clear hK K hHeld;have hHeld:=hHeld2;clear hHeld2;refine Tc 9 (fun K hK=>?_);refine upon_append _ _ _ rfl rfl rfl Hrun.out ?_;clear hHeld;refine Th hK ?_ (fun hHeld=>?_)
     ·exact⟨i0,i1⟩
     clear hK K;refine Tk 10 31 ?_;refine Tc 11 (fun K hK=>?_);go_simp;refine Th hK ?_ (fun hHeld2=>?_)
     ·(try dsimp only);go_keep
     clear hK K hHeld;have hHeld:=hHeld2;clear hHeld2;refine wpAnyH_done (by kernel_rfl) ?_ _;clear Hrun c0 c1 i0 i1 cg ig mg hHeld;go_wp2;go_roundw
     case rel=>exact⟨k+1,_,by omega,by go_num,HGD2.out,HS2.out,HN2.out,HB4.out⟩
     case measure=>simp[intOf];omega
  ·obtain rfl:k=n:=by omega
   have hall:l.take k=l:=List.take_of_length_le (by rw[HL.out];omega);rw[hall]at HS HN HGD;have p0:=HS.out.cell 0 (by omega);have p1:=HS.out.cell 1 (by omega);have p2:=HS.out.cell 2 (by omega);have p3:=HS.out.cell 3 (by omega);obtain⟨W2,hW2⟩:∃ W,W=wr.alloc (.cells #[.slice none 0 0,.slice none 0 0,.slice none 0 0,.slice none 0 0] 96):=⟨_,rfl⟩;obtain⟨p,hp⟩:∃ p,p=wr.heap.size:=⟨_,rfl⟩
   have hb2:Below wr.heap.size wr W2:=by rw[hW2];exact Dt.box_below _ _ _
   have HC2:Hid (Cells4 W2 p (fun _=>.slice none 0 0)):=by rw[hW2,hp];exact Cells4.new wr _ _ _ _ _ _ rfl
   have HSR:Hid (∀ d:Nat,d<4→(nums l d).length=(s d).n∧Rd W2 p 1 (s d).A (s d).n (s d).c (intsC (nums l d))):=fun d hd=>⟨HN.out d hd,by rw[hp];exact (HS.out.rd hd).below hb2⟩;have HB2:=Lib.hid (HBL.out.trans (hb2.mono HBL.out.size));have hgl:g<wr.heap.size:=HS.out.free.1;have HW2:=Lib.hid hW2;have HPp:=Lib.hid hp
   have hpw:w.heap.size≤p:=by rw[hp];exact HBL.out.size
   clear hall HR HS HN HBL hb2 hW2 hp;go_wp2;rw[← HPp.out,← HW2.out];clear p0 p1 p2 p3 hgl
   go_loopw [34] (fun i wr=>∃ (d:Nat) (u:Nat→SV) (r:Nat→List (Int×Int)),d≤4∧i = .int .i64 d∧Hid (Cells4 wr p (fun j=>.slice (u j).A (u j).n (u j).c))∧Hid (∀ j:Nat,j<d→(r j).length=(u j).n∧Rb wr (p+1) 2 (u j).A (u j).n (u j).c (runsC (r j))∧SetIs (nums l j) (r j)∧(r j).length≤k)∧Hid (Below p W2 wr)) (fun i _=>4-(intOf i).toNat)
   case atStart=>exact⟨0,fun _=>sv0,fun _=>[],by omega,rfl,HC2.out,fun j hj=>by omega,Below.refl _ _⟩
   case round=>
    clear HC2;obtain⟨d,u,r,hd,rfl,HU,HRR,HBL⟩:=hrel
    by_cases hd4:d<4
    ·have hix:=index_nums s d hd4
     have hdi:(d:Int)<4:=by omega
     have hps:p<wr.heap.size:=HU.out.free.1;have hsd:=HSR.out d hd4
     have HNL:Hid ((nums l d).length≤k):=by unfold Hid;have:=nums_len l d;have:=HL.out;omega
     have HCO:Hid (Calls Try.prog 47 #[.slice (s d).A (s d).n (s d).c] wr fun e w'=>∃ x A q c,e = .returned (.tuple #[.slice A q c,.int .i64 0])∧Hid (x.length=q∧Rb w' (p+1) 2 A q c (runsC x)∧SetIs (nums l d) x∧x.length≤k)∧Below wr.heap.size wr w'):=by
      refine (of_any (nums l d) (s d).n (s d).A (s d).c wr hsd.1 (by have:=HNL.out;have:=hsd.1;omega) ((hsd.2.below HBL.out).more (by omega))).mono ?_;rintro e w2 (⟨_,x,A,c,rfl,hs,hq,ho,hb⟩ | ⟨⟨x,hx,hx2⟩,_⟩)
      ·exact⟨x,A,x.length,c,rfl,⟨rfl,ho.rb.mono (by omega),hs,by have:=HNL.out;omega⟩,hb⟩
      ·exfalso
       have:=(good_num (HGD.out _ (nums_mem.1 hx))).2;dsimp only at this;omega
     clear hsd;go_wp2_with (go_at_call 47;refine HCO.out.mono ?_;rintro e w3 ⟨x,A3,q3,c3,rfl,HX3,hb3⟩;have HU3:=HU.out.later hb3;have k0:=HU3.cell d hd4;have m0:=HU3.free.2 d)
     have HC4:Hid (Cells4 (w3.setCell ⟨p,d,none⟩ (.slice A3 q3 c3)) p (fun j=>.slice (upd u d ⟨A3,q3,c3⟩ j).A (upd u d ⟨A3,q3,c3⟩ j).n (upd u d ⟨A3,q3,c3⟩ j).c)):=by
      refine (HU3.set hd4 _).congr fun j hj=>?_
      by_cases he:j=d
      ·subst he;rw[upd_same,upd_same]
      ·rw[upd_other _ _ he,upd_other _ _ he]
     have HR4:Hid (∀ j:Nat,j<d+1→(upd r d x j).length=(upd u d ⟨A3,q3,c3⟩ j).n∧Rb (w3.setCell ⟨p,d,none⟩ (.slice A3 q3 c3)) (p+1) 2 (upd u d ⟨A3,q3,c3⟩ j).A (upd u d ⟨A3,q3,c3⟩ j).n (upd u d ⟨A3,q3,c3⟩ j).c (runsC (upd r d x j))∧SetIs (nums l j) (upd r d x j)∧(upd r d x j).length≤k):=fun j hj=>by
      by_cases he:j=d
      ·subst he
       rw[upd_same,upd_same];exact⟨HX3.out.1,rb_set HX3.out.2.1 (a:=⟨p,j,none⟩) (by show p<p+1;omega) _,HX3.out.2.2⟩
      ·rw[upd_other _ _ he,upd_other _ _ he]
       obtain⟨x1,x2,x3⟩:=HRR.out j (by omega);exact⟨x1,rb_set (x2.later hb3) (a:=⟨p,d,none⟩) (by show p<p+1;omega) _,x3⟩
     have HB4:Hid (Below p W2 (w3.setCell ⟨p,d,none⟩ (.slice A3 q3 c3))):=(HBL.out.trans (hb3.mono (by omega))).setCell (p:=⟨p,d,none⟩) (Nat.le_refl _) _;clear k0 m0 HU3 hb3;go_roundw
     case rel=>exact⟨d+1,upd u d ⟨A3,q3,c3⟩,upd r d x,by omega,by go_num,HC4.out,HR4.out,HB4.out⟩
     case measure=>simp[intOf];omega
    ·obtain rfl:d=4:=by omega
     have HC:=Lib.hid (context_any u r wr (fun j hj=>⟨(HRR.out j hj).1,(HRR.out j hj).2.1.rd⟩) (fun j hj=>by have:=(HRR.out j hj).2.2.2;omega));have k0:=HU.out.cell 0 (by omega);have k1:=HU.out.cell 1 (by omega);have k2:=HU.out.cell 2 (by omega);have k3:=HU.out.cell 3 (by omega);have HPC:Hid (OfC l (pre r 4)):=of_pre fun j hj=>(HRR.out j hj).2.2.1;have HLN:Hid ((pre r 4).length≤4*k):=pre_len (M:=k) (fun j hj=>(HRR.out j hj).2.2.2) 4 (by omega);have HB5:Hid (Below w.heap.size w wr):=HB2.out.trans (HBL.out.mono (by omega));clear HRR HBL HSR;go_wp2_with (go_at_call 48;refine HC.out.mono ?_;rintro e w3 ⟨A3,c3,rfl,ho3,hb3⟩);go_ret2;exact .inl ⟨HGD.out,pre r 4,(pre r 4).length,A3,c3,wr.heap.size,rfl,rfl,HPC.out,HLN.out,⟨HB5.out.size,ho3⟩,HB5.out.trans (hb3.mono HB5.out.size)⟩
theorem ofC_any (l:List (Int×Int)) (n:Nat) (A:Option Addr) (c:Nat) (w:World) (hl:l.length=n) (hn:n≤10000) (hr:Rd w w.heap.size 2 A n c (l.flatMap dotC)) :
  Calls Try.prog 28 #[.slice A n c] w (OfIsC l n w):=(ofC_own l n A c w hl hn hr).mono fun e w' h=>by
 rcases h with ⟨h1,u,q,A2,c2,b,h2,h3,h4,h5,h6,h7⟩ | h
 ·exact .inl ⟨h1,u,q,A2,c2,h2,h3,h4,h5,Lib.hid h6.out.2.rd,h7⟩
 ·exact .inr h
end Cx
end Go.Proofs.Ytcbpgemiffmieaa
set_option maxRecDepth 100000
set_option maxHeartbeats 4000000
namespace Go.Proofs.Ytcbpgemiffmieaa
open Go.ChangeShapes Go.WideShapes Go.ChangeAt Go.RowKit
namespace Tr
open Sp Rw
structure Gr (w w':World) (v v':Value):Prop where
 gb:w.grownBy w' v.ownBlock
 own:v'.ownBlock=v.ownBlock∨∃ k,v'.ownBlock=some k∧w.heap.size≤k
namespace Gr
variable {w w1 w2:World} {v v1 v2:Value}
theorem refl (w:World) (v:Value):Gr w w v v:=⟨⟨rfl,rfl,rfl,Nat.le_refl _,fun _ _ _=>rfl⟩,.inl rfl⟩
theorem size (h:Gr w w1 v v1):w.heap.size≤w1.heap.size:=h.gb.size
theorem block (h:Gr w w1 v v1) {b:Nat} (hb:b<w.heap.size) (hv:v.ownBlock≠some b):w1.heap[b]?=w.heap[b]?:=h.gb.block b hb fun e=>hv e.symm
theorem apart (h:Gr w w1 v v1) {b:Nat} (hb:b<w.heap.size) (hv:v.ownBlock≠some b):v1.ownBlock≠some b:=fun e=>by
 rcases h.own with h1 | ⟨k,h1,h2⟩
 ·exact hv (h1.symm.trans e)
 ·rw[h1]at e
  injection e with e;omega
theorem trans (h:Gr w w1 v v1) (h2:Gr w1 w2 v1 v2):Gr w w2 v v2:=by
 refine⟨⟨h2.gb.os.trans h.gb.os,h2.gb.tape.trans h.gb.tape,h2.gb.output.trans h.gb.output,Nat.le_trans h.size h2.size,fun b hb hv=>?_⟩,?_⟩
 ·have hv':v.ownBlock≠some b:=fun e=>hv e.symm
  exact (h2.block (Nat.lt_of_lt_of_le hb h.size) (h.apart hb hv')).trans (h.block hb hv')
 ·rcases h2.own with h3 | ⟨k,h3,h4⟩
  ·rcases h.own with h5 | ⟨k,h5,h6⟩
   ·exact .inl (h3.trans h5)
   ·exact .inr ⟨k,h3.trans h5,h6⟩
  ·exact .inr ⟨k,h3,Nat.le_trans h.size h4⟩
theorem of_below (h:Below w.heap.size w w1):Gr w w1 v v:=⟨⟨h.os,h.tape,h.output,h.size,fun b hb _=>h.block b hb⟩,.inl rfl⟩
theorem cell (h:Gr w w1 v v1) {p:Addr} (hb:p.block<w.heap.size) (hv:v.ownBlock≠some p.block):w1.cell? p=w.cell? p:=World.cell?_of_block (h.block hb hv)
theorem below (h:Gr w w1 v v1) {lo:Nat} (hlo:lo≤w.heap.size) (hv:∀ k,v.ownBlock=some k→lo≤k):Below lo w w1:=(Below.refl lo w).grown h.gb hlo fun k hk=>hv k hk
end Gr
theorem infoD:(Try.prog.info? 35).map (fun i=>(i.zero,i.size,i.bytes))=some (some (.agg #[.int .i64 0,.int .i64 0]),2,16):=by kernel_rfl
theorem dotC_one (d:Int×Int):∀ u∈Cx.dotC d,u.oneCell'=true:=by
 intro u hu;simp[Cx.dotC]at hu
 rcases hu with rfl | rfl <;> rfl
theorem push_dot (W:World) (lo q:Nat) (hq:W.heap.size=q) {A:Option Addr} {n c:Nat} {l:List (Int×Int)} (h:Own W lo 35 2 A n c (l.flatMap Cx.dotC)) (hlo:lo≤W.heap.size) (x:Int×Int) (hn:n≤800000) :
  ∃ A' c' w',(Builtin.append_ #[75,75] 75 #[.slice A n c,.slice (some ⟨q,0,none⟩) 1 1]).run Try.prog (W.alloc (.cells #[.int .i64 x.1,.int .i64 x.2] 35)) = .ok (.slice A' (n+1) c') w'∧Own w' lo 35 2 A' (n+1) c' ((l++[x]).flatMap Cx.dotC)∧Gr W w' (.slice A n c) (.slice A' (n+1) c'):=by
 subst hq;have hal:Below W.heap.size W (W.alloc (.cells #[.int .i64 x.1,.int .i64 x.2] 35)):=Dt.box_below _ _ _;obtain⟨i0,hi0,hz0,hz1,hz2⟩:=info_of infoD
 have hr:Rd (W.alloc (.cells #[.int .i64 x.1,.int .i64 x.2] 35)) (W.heap.size+1) 2 (some ⟨W.heap.size,0,none⟩) 1 1 ([x].flatMap Cx.dotC):=
  ⟨rfl,Nat.le_refl _,fun u hu=>dotC_one x u (by simpa using hu),fun _=>⟨_,_,rfl,by omega,fun j u hu=>by
   rw[Nat.zero_add,cell_of_row _ _ j _ _ (0,0) (heap_alloc_new _ _)]
   simpa [Cx.dotC] using hu⟩⟩
 obtain⟨v',w',r1,r2,r3,r4⟩:=run_app (P:=Try.prog) _ lo 75 75 35 i0 _ 2 16 Try.underlying75 hi0 hz0 hz1 hz2 rfl (by omega) (own_later h hal).row hr (by omega) (by omega) (by simp;omega)
 have e:l.flatMap Cx.dotC++[x].flatMap Cx.dotC=(l++[x]).flatMap Cx.dotC:=by simp
 rw[e]at r2
 obtain⟨A',c',rfl,ho⟩:=Own.of_row r2 (fun u hu=>by
  obtain⟨y,_,hu⟩:=List.mem_flatMap.1 hu
  exact dotC_one y u hu)
 refine⟨A',c',w',r1,ho,(Gr.of_below hal).trans ⟨r3,?_⟩⟩
 rcases r4 with r4 | r4
 ·exact .inl r4
 ·exact .inr ⟨_,r4,Nat.le_refl _⟩
def dotE (e:E):Int×Int:=(e.a,e.n)
def dl (t:T):List (Int×Int):=(leaves t).map fun x=>dotE x.2
def kidsD (ks:List (ByteArray×T)) (k:Nat):List (Int×Int):=(ks.take k).flatMap fun kd=>dl kd.2
theorem dl_len (t:T):(dl t).length=(leaves t).length:=by unfold dl;rw[List.length_map]
theorem kidsD_succ {ks:List (ByteArray×T)} {k:Nat} (h:k<ks.length):kidsD ks (k+1)=kidsD ks k++dl (ks[k]).2:=by
 unfold kidsD;rw[List.take_succ_eq_append_getElem h,List.flatMap_append,List.flatMap_cons,List.flatMap_nil,List.append_nil]
theorem dl_mk (es:List E) (ks:List (ByteArray×T)) {k:Nat} (h:ks.length=k):dl (.mk es ks)=es.map dotE++kidsD ks k:=by
 unfold dl kidsD;rw[List.take_of_length_le (by omega),leaves_mk,List.map_append,List.map_map]
 congr 1
 unfold below;rw[List.map_flatMap]
 congr 1
 funext kd
 rw[List.map_map];rfl
theorem right_ents:∀ {d:Nat} {t:T},RightT d t→∀ x∈leaves t,RightE x.2
 | d+1,.mk es ks,h,x,hx=>by
  rw[leaves_mk]at hx
  rcases List.mem_append.1 hx with hx | hx
  ·obtain⟨e,he,rfl⟩:=List.mem_map.1 hx
   exact h.1 e he
  ·obtain⟨k,hk,hx⟩:=List.mem_flatMap.1 hx
   obtain⟨y,hy,rfl⟩:=List.mem_map.1 hx;exact right_ents (h.2.2.2 k hk).2.2 y hy
theorem good_dl {d:Nat} {t:T} (h:RightT d t):Cx.goodD (dl t):=fun x hx=>by
 obtain⟨y,hy,rfl⟩:=List.mem_map.1 hx;exact (right_ents h y hy).1
theorem dots_any:∀ (t:T) (Ae Ak:Option Addr) (ne nk ce ck:Nat) (lo:Nat) (A:Option Addr) (n c:Nat) (l:List (Int×Int)) (w:World),n+nodes t≤100000→RdT w lo t ⟨Ae,ne,ce⟩ ⟨Ak,nk,ck⟩→lo≤w.heap.size→Own w lo 35 2 A n c (l.flatMap Cx.dotC) →
  Calls Try.prog 29 #[.slice A n c,.agg #[.slice Ae ne ce,.slice Ak nk ck]] w fun e w'=>∃ A' c',e = .returned (.slice A' (n+(leaves t).length) c')∧Own w' lo 35 2 A' (n+(leaves t).length) c' ((l++dl t).flatMap Cx.dotC)∧Gr w w' (.slice A n c) (.slice A' (n+(leaves t).length) c'):=by
 intro t
 induction t using T.ind with
 | h es ks ih=>
  intro Ae Ak ne nk ce ck lo A n c l w hn hr hlo how;obtain⟨hle,hlk⟩:=rd_lens hr;have HR:=Lib.hid hr;have HLE:=Lib.hid hle;have HLK:=Lib.hid hlk;clear hle hlk hr;have IH:=Lib.hid ih;have HN:=Lib.hid hn;have HLO:=Lib.hid hlo;have HOW:=Lib.hid how
  have hne5:ne≤100000:=by have:=nodes_es es ks;have:=HLE.out;omega
  have hnk5:nk≤100000:=by have:=nodes_es es ks;have:=HLK.out;omega
  have hn5:n≤100000:=by omega
  have hlw:∀ k,(Value.slice A n c).ownBlock=some k→lo≤k∧k<w.heap.size:=fun k e=>how.row.lt k e;have HLW:=Lib.hid hlw
  have HM:Hid ((leaves (.mk es ks)).length=ne+ksum (fun k=>(leaves k.2).length) ks nk):=by unfold Hid;rw[leaves_len,ksum_all _ HLK.out,HLE.out]
  have HM2:Hid (n+(ne+ksum (fun k=>(leaves k.2).length) ks nk)≤100000):=by have:=leaves_nodes (.mk es ks);have:=HM.out;unfold Hid;omega
  clear ih hn hlo how hlw;obtain⟨g,hg⟩:∃ g,g=w.heap.size:=⟨_,rfl⟩;have HK:=Lib.hid (tree_box w Ae Ak ne nk ce ck);rw[← hg]at HK;obtain⟨W0,hW0⟩:∃ W,W=w.alloc (.cells #[.slice Ae ne ce,.slice Ak nk ck] 27):=⟨_,rfl⟩;rw[← hW0]at HK;have HG:=Lib.hid hg;have HW0:=Lib.hid hW0;have k0:=HK.out.c0;have k1:=HK.out.c1;clear hg hW0
  have HOWN:Hid (Own W0 lo 35 2 A n c (l.flatMap Cx.dotC)):=by unfold Hid;rw[HW0.out];exact own_later HOW.out (Dt.box_below _ _ _)
  have HWS:Hid (W0.heap.size=g+1∧w.heap.size=g):=⟨by rw[HW0.out,HG.out];simp,HG.out.symm⟩
  have HNG:Hid ((Value.slice A n c).ownBlock≠some g):=fun e=>by have:=(HLW.out g e).2;have:=HWS.out.2;omega
  have HGR0:Hid (Gr w W0 (.slice A n c) (.slice A n c)):=by unfold Hid;rw[HW0.out];exact Gr.of_below (Dt.box_below _ _ _)
  go_enter Try.func29,Try.ntmps29;go_wp2_with fail;rw[← HG.out,← HW0.out];go_wp2_with fail
  go_loopw [0,12] (fun v i wr=>∃ (k:Nat) (Ax:Option Addr) (cx:Nat),k≤ne∧i = .int .i64 k∧v = .slice Ax (n+k) cx∧Hid (Own wr lo 35 2 Ax (n+k) cx ((l++(es.take k).map dotE).flatMap Cx.dotC))∧Hid (Gr W0 wr (.slice A n c) (.slice Ax (n+k) cx))) (fun _ i _=>ne-(intOf i).toNat)
  case atStart=>exact⟨0,A,c,by omega,rfl,rfl,by have:=HOWN.out;simpa [Hid] using this,Gr.refl _ _⟩
  case round=>
   obtain⟨k,Ax,cx,hk,rfl,rfl,HO,HGR⟩:=hrel;clear k0 k1
   have hg0:g<W0.heap.size:=by have:=HWS.out.1;omega
   have k0:=(HGR.out.cell (p:=⟨g,0,none⟩) hg0 HNG.out).trans HK.out.c0;have k1:=(HGR.out.cell (p:=⟨g,1,none⟩) hg0 HNG.out).trans HK.out.c1;have hgr:g<wr.heap.size:=Nat.lt_of_lt_of_le hg0 HGR.out.size
   by_cases hlt:k<ne
   ·have hkl:k<es.length:=by rw[HLE.out];exact hlt
    obtain⟨b,o,rfl,hb,hc⟩:=rd_ent HR.out (by omega);obtain⟨c0,c1,c2,c3⟩:=hc k hkl
    have hbg:b<W0.heap.size:=by have:=HLO.out;have:=HWS.out.1;have:=HWS.out.2;omega
    have hnb:(Value.slice A n c).ownBlock≠some b:=fun e=>by have:=(HLW.out b e).1;omega
    have hbw:b<w.heap.size:=by have:=HLO.out;omega
    have c0:=(HGR.out.cell (p:=⟨b,o+k*4,none⟩) hbg hnb).trans ((HK.out.below.cell (p:=⟨b,o+k*4,none⟩) hbw).trans c0);have c1:=(HGR.out.cell (p:=⟨b,o+k*4+1,none⟩) hbg hnb).trans ((HK.out.below.cell (p:=⟨b,o+k*4+1,none⟩) hbw).trans c1);have c2:=(HGR.out.cell (p:=⟨b,o+k*4+2,none⟩) hbg hnb).trans ((HK.out.below.cell (p:=⟨b,o+k*4+2,none⟩) hbw).trans c2);have c3:=(HGR.out.cell (p:=⟨b,o+k*4+3,none⟩) hbg hnb).trans ((HK.out.below.cell (p:=⟨b,o+k*4+3,none⟩) hbw).trans c3)
    have HSUC:Hid ((es.take (k+1)).map dotE=(es.take k).map dotE++[((es[k]).a,(es[k]).n)]):=by unfold Hid;rw[List.take_succ_eq_append_getElem hkl,List.map_append];rfl
    obtain⟨⟨ea,en,et,ev⟩,hx⟩:∃ x,x=es[k]:=⟨_,rfl⟩;rw[← hx]at c0 c1 c2 c3 HSUC;dsimp only at c0 c1 c2 c3 HSUC;obtain⟨W1,hW1⟩:∃ W,W=wr.alloc (.cells #[.int .i64 ea,.int .i64 en,.string et,.int .i64 ev] 37):=⟨_,rfl⟩
    have hb1:Below wr.heap.size wr W1:=by rw[hW1];exact Dt.box_below _ _ _
    have hos:=HO.out;obtain⟨A6,c6,w6,r1,r2,r3⟩:=push_dot W1 lo (wr.heap.size+1) (by rw[hW1];simp) (own_later HO.out hb1) (by have h1:=HGR.out.size;have h2:=hb1.size;have h3:=HLO.out;have h4:=HWS.out.1;have h5:=HWS.out.2;omega) (ea,en) (by omega)
    have HO6:Hid (Own w6 lo 35 2 A6 (n+(k+1)) c6 ((l++(es.take (k+1)).map dotE).flatMap Cx.dotC)):=by unfold Hid;rw[HSUC.out,← List.append_assoc];exact r2
    have HGR6:Hid (Gr W0 w6 (.slice A n c) (.slice A6 (n+(k+1)) c6)):=HGR.out.trans ((Gr.of_below hb1).trans r3);have Hrun:=Lib.hid r1;have HW1:=Lib.hid hW1;clear hc hx hW1 hb1 r1 r2 r3 hos HSUC hnb hbg;go_wp2_with (at_builtin;rw[← HW1.out];refine Lib.wpList_append_run _ rfl _ _ _ _ rfl _ _ rfl rfl _ _ Hrun.out ?_);go_roundw
    case rel=>exact⟨k+1,A6,c6,by omega,by go_num,rfl,HO6.out,HGR6.out⟩
    case measure=>simp[intOf];omega
   ·obtain rfl:k=ne:=by omega
    have HO1:Hid (Own wr lo 35 2 Ax (n+k) cx ((l++es.map dotE).flatMap Cx.dotC)):=by have h1:=HO.out;rw[List.take_of_length_le (by rw[HLE.out];omega)]at h1;exact h1
    have HGR1:=Lib.hid HGR.out;go_wp2_with fail
    go_loopw [0,25] (fun v i wr=>∃ (j:Nat) (Ay:Option Addr) (cy m:Nat),j≤nk∧i = .int .i64 j∧v = .slice Ay m cy∧Hid (m=n+(k+ksum (fun k=>(leaves k.2).length) ks j))∧Hid (Own wr lo 35 2 Ay m cy ((l++es.map dotE++kidsD ks j).flatMap Cx.dotC))∧Hid (Gr W0 wr (.slice A n c) (.slice Ay m cy))) (fun _ i _=>nk-(intOf i).toNat)
    case atStart=>exact⟨0,Ax,cx,n+k,by omega,rfl,rfl,by rw[ksum_zero];rfl,by have h1:=HO1.out;simpa [Hid,kidsD] using h1,HGR1.out⟩
    case round=>
     obtain⟨j,Ay,cy,m,hj,rfl,rfl,HMM,HO,HGR⟩:=hrel;clear k0 k1;have k0:=(HGR.out.cell (p:=⟨g,0,none⟩) hg0 HNG.out).trans HK.out.c0;have k1:=(HGR.out.cell (p:=⟨g,1,none⟩) hg0 HNG.out).trans HK.out.c1;have hgr:g<wr.heap.size:=Nat.lt_of_lt_of_le hg0 HGR.out.size
     by_cases hlt:j<nk
     ·have hkl:j<ks.length:=by rw[HLK.out];exact hlt
      obtain⟨b,o,rfl,hb,hc⟩:=rd_kid HR.out (by omega);obtain⟨⟨Ae',ne',ce'⟩,⟨Ak',nk',ck'⟩,c0,c1,c2,hkid⟩:=hc j hkl;dsimp only at c0 c1 c2
      have hbg:b<W0.heap.size:=by have:=HLO.out;have:=HWS.out.1;have:=HWS.out.2;omega
      have hnb:(Value.slice A n c).ownBlock≠some b:=fun e=>by have:=(HLW.out b e).1;omega
      have hbw:b<w.heap.size:=by have:=HLO.out;omega
      have c0:=(HGR.out.cell (p:=⟨b,o+j*3,none⟩) hbg hnb).trans ((HK.out.below.cell (p:=⟨b,o+j*3,none⟩) hbw).trans c0);have c1:=(HGR.out.cell (p:=⟨b,o+j*3+1,none⟩) hbg hnb).trans ((HK.out.below.cell (p:=⟨b,o+j*3+1,none⟩) hbw).trans c1);have c2:=(HGR.out.cell (p:=⟨b,o+j*3+2,none⟩) hbg hnb).trans ((HK.out.below.cell (p:=⟨b,o+j*3+2,none⟩) hbw).trans c2);obtain⟨key,hkey⟩:∃ key,key=(ks[j]).1:=⟨_,rfl⟩;rw[← hkey]at c0;obtain⟨W1,hW1⟩:∃ W,W=wr.alloc (.cells #[.string key,.slice Ae' ne' ce',.slice Ak' nk' ck'] 72):=⟨_,rfl⟩
      have hb1:Below wr.heap.size wr W1:=by rw[hW1];exact Dt.box_below _ _ _
      have hbel:Below lo w W1:=by
       have h0:Below lo w wr:=(HGR0.out.trans HGR.out).below HLO.out (fun k hk=>(HLW.out k hk).1);exact h0.trans (hb1.mono (by have h1:=HGR.out.size;have h2:=HLO.out;have h4:=HWS.out.1;have h5:=HWS.out.2;omega))
      have hs1:=ksum_succ (fun k=>(leaves k.2).length) hkl;have hs2:=Nat.le_trans (ksum_le (fun k=>(leaves k.2).length) ks (j+1)) (Nat.le_of_eq (ksum_all _ HLK.out).symm);have hmm:=HMM.out;have hm2:=HM2.out;have hkn:=nodes_kid (es:=es) (List.getElem_mem hkl)
      have hsn:m+nodes (ks[j]).2≤100000:=by
       have h1:ksum (fun k=>(leaves k.2).length) ks j≤ksum (fun k=>nodes k.2) ks j:=by
        unfold ksum;exact sum_mono fun a _=>leaves_nodes a.2
       have h2:=ksum_succ (fun k=>nodes k.2) hkl;have h3:=Nat.le_trans (ksum_le (fun k=>nodes k.2) ks (j+1)) (Nat.le_of_eq rfl);have h4:=HN.out;rw[nodes_mk]at h4;have h5:=HLE.out;omega
      have hcall:=IH.out _ (List.getElem_mem hkl) Ae' Ak' ne' nk' ce' ck' lo Ay m cy (l++es.map dotE++kidsD ks j) W1 hsn (RdT.below hkid hbel) (by have h1:=HGR.out.size;have h2:=hb1.size;have h3:=HLO.out;have h4:=HWS.out.1;have h5:=HWS.out.2;omega) (own_later HO.out hb1)
      have HMM2:Hid (m+(leaves (ks[j]).2).length=n+(k+ksum (fun k=>(leaves k.2).length) ks (j+1))):=by unfold Hid;omega
      have HKD:=Lib.hid (kidsD_succ hkl);have HC:=Lib.hid hcall;have HB1:=Lib.hid hb1;have HW1:=Lib.hid hW1;clear hc hkid hkey hW1 hb1 hbel hs1 hs2 hmm hm2 hkn hsn hcall hnb hbg;go_wp2_with fail;rw[← HW1.out];refine HC.out.mono ?_;rintro e w2 ⟨A7,c7,rfl,r2,r3⟩
      have HO7:Hid (Own w2 lo 35 2 A7 (m+(leaves (ks[j]).2).length) c7 ((l++es.map dotE++kidsD ks (j+1)).flatMap Cx.dotC)):=by unfold Hid;rw[HKD.out,← List.append_assoc];exact r2
      have HGR7:Hid (Gr W0 w2 (.slice A n c) (.slice A7 (m+(leaves (ks[j]).2).length) c7)):=HGR.out.trans ((Gr.of_below HB1.out).trans r3);clear r2 r3;go_wp2_with fail;go_roundw
      case rel=>exact⟨j+1,A7,c7,_,by omega,by go_num,rfl,HMM2.out,HO7.out,HGR7.out⟩
      case measure=>simp[intOf];omega
     ·obtain rfl:j=nk:=by omega
      have hmm:m=n+(leaves (.mk es ks)).length:=by rw[HM.out];exact HMM.out
      subst hmm
      have HO9:Hid (Own wr lo 35 2 Ay (n+(leaves (.mk es ks)).length) cy ((l++dl (.mk es ks)).flatMap Cx.dotC)):=by unfold Hid;rw[dl_mk es ks HLK.out,← List.append_assoc];exact HO.out
      have HGR9:=Lib.hid (HGR0.out.trans HGR.out);go_wp2_with fail;go_ret;exact⟨Ay,cy,rfl,HO9.out,HGR9.out⟩
theorem dotsT_bad (t:T) (Ae Ak:Option Addr) (ne nk ce ck:Nat) (w:World) (hz:rightB 5 t=false) (hl:LenT reachBytes t) (hr:RdT w w.heap.size t ⟨Ae,ne,ce⟩ ⟨Ak,nk,ck⟩) :
  Calls Try.prog 19 #[.agg #[.slice Ae ne ce,.slice Ak nk ck]] w fun e w'=>e = .returned (.tuple #[.slice none 0 0,.int .i64 1])∧Below w.heap.size w w':=by
 have HR:=Lib.hid hr;have HL:=Lib.hid hl;have HZ:=Lib.hid hz;obtain⟨g,hg⟩:∃ g,g=w.heap.size:=⟨_,rfl⟩;have HK:=Lib.hid (tree_box w Ae Ak ne nk ce ck);rw[← hg]at HK;obtain⟨W0,hW0⟩:∃ W,W=w.alloc (.cells #[.slice Ae ne ce,.slice Ak nk ck] 27):=⟨_,rfl⟩;rw[← hW0]at HK;have HG:=Lib.hid hg;have HW0:=Lib.hid hW0;have k0:=HK.out.c0;have k1:=HK.out.c1;clear hg hW0;clear hr hl hz;go_enter Try.func19,Try.ntmps19;go_wp2_with fail;rw[← HG.out,← HW0.out];refine (rightT_any t Ae Ak ne nk ce ck W0 HL.out (RdT.more HK.out.below.size _ (RdT.below HR.out HK.out.below))).mono ?_;rw[HZ.out];rintro e w1 ⟨rfl,hb1⟩;have HK1:=Lib.hid (HK.out.later hb1);clear k0 k1 hb1;have k0:=HK1.out.c0;have k1:=HK1.out.c1;go_wp2;go_ret2;exact⟨rfl,HK1.out.below⟩
theorem dotsT_any (t:T) (Ae Ak:Option Addr) (ne nk ce ck:Nat) (w:World) (hz:rightB 5 t=true) (hl:LenT reachBytes t) (hn:nodes t≤10000) (hr:RdT w w.heap.size t ⟨Ae,ne,ce⟩ ⟨Ak,nk,ck⟩) :
  Calls Try.prog 19 #[.agg #[.slice Ae ne ce,.slice Ak nk ck]] w fun e w'=>∃ u q A c,e = .returned (.tuple #[.slice A q c,.int .i64 0])∧Hid (u.length=q)∧Hid (Cx.OfC (dl t) u)∧q≤4*nodes t∧Hid (Rd w' w'.heap.size 3 A q c (spsC u))∧Below w.heap.size w w':=by
 have HN:=Lib.hid hn;clear hn;have HR:=Lib.hid hr;have HL:=Lib.hid hl;have HZ:=Lib.hid hz;obtain⟨g,hg⟩:∃ g,g=w.heap.size:=⟨_,rfl⟩;have HK:=Lib.hid (tree_box w Ae Ak ne nk ce ck);rw[← hg]at HK;obtain⟨W0,hW0⟩:∃ W,W=w.alloc (.cells #[.slice Ae ne ce,.slice Ak nk ck] 27):=⟨_,rfl⟩;rw[← hW0]at HK;have HG:=Lib.hid hg;have HW0:=Lib.hid hW0;have k0:=HK.out.c0;have k1:=HK.out.c1;clear hg hW0;clear hr hl hz;go_enter Try.func19,Try.ntmps19;go_wp2_with fail;rw[← HG.out,← HW0.out];refine (rightT_any t Ae Ak ne nk ce ck W0 HL.out (RdT.more HK.out.below.size _ (RdT.below HR.out HK.out.below))).mono ?_;rw[HZ.out];rintro e w1 ⟨rfl,hb1⟩;have HK1:=Lib.hid (HK.out.later hb1);clear k0 k1 hb1;have k0:=HK1.out.c0;have k1:=HK1.out.c1;have HD:=Lib.hid (dots_any t Ae Ak ne nk ce ck w1.heap.size none 0 0 [] w1 (by have:=HN.out;omega) (RdT.more HK1.out.below.size _ (RdT.below HR.out HK1.out.below)) (Nat.le_refl _) (by exact⟨World.ownsRow_nil _ _ _ _,by simp⟩))
 go_wp2_with fail;refine HD.out.mono ?_;rintro e w2 ⟨A2,c2,rfl,ho,hg⟩;rw[Nat.zero_add]at ho hg ⊢;have hb2:Below w1.heap.size w1 w2:=hg.below (Nat.le_refl _) (fun k hk=>by simp[Value.ownBlock]at hk);have HK2:=Lib.hid (HK1.out.later hb2);have hm:(leaves t).length≤10000:=Nat.le_trans (leaves_nodes t) HN.out;have hof:=Cx.ofC_any (dl t) (leaves t).length A2 c2 w2 (dl_len t) hm ho.rd;have HOF:=Lib.hid hof;have HM:=Lib.hid hm;clear k0 k1 ho hg hb2 hof hm;have k0:=HK2.out.c0;have k1:=HK2.out.c1;go_wp2_with fail;refine HOF.out.mono ?_;rintro e w3 (⟨_,u,q,A3,c3,rfl,hu1,hu2,hq,hr3,hb3⟩ | ⟨hno,_⟩)
 ·have HB3:=Lib.hid (HK2.out.later hb3).below
  have HU1:=Lib.hid hu1;have HU2:=Lib.hid hu2;have HR3:=Lib.hid hr3;have HQ:=Lib.hid hq;clear hb3 hu1 hu2 hr3 hq;go_wp2;go_ret2;exact⟨u,q,A3,c3,rfl,HU1.out,HU2.out,by have:=HQ.out;have:=leaves_nodes t;omega,HR3.out,HB3.out⟩
 ·exact absurd (good_dl (rightB_iff.1 HZ.out)) hno
end Tr
end Go.Proofs.Ytcbpgemiffmieaa
namespace Go.Proofs.Ytcbpgemiffmieaa
open Go.ChangeShapes Go.WideShapes Go.ChangeAt Go.RowKit
namespace Cx
open Sp Rw
end Cx
end Go.Proofs.Ytcbpgemiffmieaa
namespace Go.Proofs.Ytcbpgemiffmieaa
open Go.ChangeShapes Go.WideShapes Go.ChangeAt Go.RowKit
namespace Cx
open Sp Rw
end Cx
end Go.Proofs.Ytcbpgemiffmieaa
namespace Go.Proofs.Ytcbpgemiffmieaa
open Go.ChangeShapes Go.WideShapes Go.ChangeAt Go.RowKit
namespace Cx
open Sp Rw
end Cx
end Go.Proofs.Ytcbpgemiffmieaa
namespace Go.Proofs.Ytcbpgemiffmieaa
open Go.ChangeShapes Go.WideShapes Go.ChangeAt Go.RowKit
namespace Cx
open Sp Rw
end Cx
end Go.Proofs.Ytcbpgemiffmieaa
namespace Go.Proofs.Ytcbpgemiffmieaa
namespace Cs
open Tr Cx Sp Classical
def placeP (x y:Lf):Prop:=x.1=y.1∧keyE x.2=keyE y.2
noncomputable def placeB (x y:Lf):Bool:=decide (placeP x y)
noncomputable def findL (l:List Lf) (x:Lf):Option Lf:=l.find? fun y=>placeB y x
noncomputable def stepA (ca cb:List S3) (q:List Lf) (x:Lf):List Lf:=((stE ca cb (some x.2) ((findL q x).map Prod.snd)).map fun e=>(x.1,e)).toList
noncomputable def stepB (ca cb:List S3) (p:List Lf) (y:Lf):List Lf:=if (findL p y).isSome=true then []else ((stE ca cb none (some y.2)).map fun e=>(y.1,e)).toList
noncomputable def outL (ca cb:List S3) (p q:List Lf) (i j:Nat):List Lf:=(p.take i).flatMap (stepA ca cb q)++(q.take j).flatMap (stepB ca cb p)
theorem AllJ.snoc {l:List K} {x y k:K} (h:AllJ l x) (hk:RK k) (hj:IsJ x k y):AllJ (l++[k]) y:=h.app (AllJ.one hk) hj
end Cs
end Go.Proofs.Ytcbpgemiffmieaa
namespace Go.Proofs.Ytcbpgemiffmieaa
open Go.ChangeShapes Go.WideShapes Go.ChangeAt Go.RowKit
namespace Cx
open Sp Rw
set_option maxRecDepth 100000 in
set_option maxHeartbeats 2000000 in
theorem refsameC_any (a b:List S3) (n m:Nat) (A B:Option Addr) (c d:Nat) (w:World) (ha:a.length=n) (hb:b.length=m) (hn:n≤1000000) (hra:Rd w w.heap.size 3 A n c (spsC a)) (hrb:Rd w w.heap.size 3 B m d (spsC b)) (z:Bool) (hz:z=decide (a=b)) :
  Calls Try.prog 18 #[.slice A n c,.slice B m d] w fun e w'=>e = .returned (.bool z)∧Below w.heap.size w w':=by
 have HZ:=Lib.hid hz;clear hz;have HA:=Lib.hid hra;have HB:=Lib.hid hrb;have HLA:=Lib.hid ha;have HLB:=Lib.hid hb;clear hra hrb ha hb
 by_cases hnm:n=m
 ·subst hnm
  have f0:(n != n)=false:=by simp
  go_enter Try.func18,Try.ntmps18;go_wp2
  go_loopw [13] (fun i wr=>∃ (k:Nat),k≤n∧i = .int .i64 k∧Hid (a.take k=b.take k)∧Hid (Below w.heap.size w wr)) (fun i _=>n-(intOf i).toNat)
  case atStart=>exact⟨0,by omega,rfl,Lib.hid (by rw[List.take_zero,List.take_zero]),Below.refl _ _⟩
  case round=>
   obtain⟨k,hk,rfl,HT,HBL⟩:=hrel
   by_cases hlt:k<n
   ·have hka:k<a.length:=by rw[HLA.out];exact hlt
    have hkb:k<b.length:=by rw[HLB.out];exact hlt
    obtain⟨g,o,rfl,hgl,hc⟩:=rd_span HA.out hlt;obtain⟨g2,o2,rfl,hgl2,hc2⟩:=rd_span HB.out hlt;obtain⟨q0,q1,q2⟩:=hc k hka;obtain⟨r0,r1,r2⟩:=hc2 k hkb;have hT1:a.take (k+1)=a.take k++[a[k]]:=List.take_succ_eq_append_getElem hka;have hT2:b.take (k+1)=b.take k++[b[k]]:=List.take_succ_eq_append_getElem hkb;obtain⟨p,hp⟩:∃ p,p=a[k]:=⟨_,rfl⟩;obtain⟨s,hs⟩:∃ s,s=b[k]:=⟨_,rfl⟩;rw[← hp]at q0 q1 q2 hT1;rw[← hs]at r0 r1 r2 hT2;obtain⟨x,y,z1⟩:=p;obtain⟨x',y',z1'⟩:=s;dsimp only at q0 q1 q2 r0 r1 r2;have q0:=(HBL.out.cell (p:=⟨g,o+k*3,none⟩) hgl).trans q0;have q1:=(HBL.out.cell (p:=⟨g,o+k*3+1,none⟩) hgl).trans q1;have q2:=(HBL.out.cell (p:=⟨g,o+k*3+2,none⟩) hgl).trans q2;have r0:=(HBL.out.cell (p:=⟨g2,o2+k*3,none⟩) hgl2).trans r0;have r1:=(HBL.out.cell (p:=⟨g2,o2+k*3+1,none⟩) hgl2).trans r1
    have r2:=(HBL.out.cell (p:=⟨g2,o2+k*3+2,none⟩) hgl2).trans r2
    by_cases h0:x=x'
    ·subst h0
     by_cases h1:y=y'
     ·subst h1
      by_cases h2:z1=z1'
      ·subst h2
       have HT2:Hid (a.take (k+1)=b.take (k+1)):=by unfold Hid;rw[hT1,hT2,HT.out]
       clear hc hc2 hT1 hT2 hp hs;go_wp2
       go_quiet (fail)
       go_wp2;go_roundw
       case rel=>exact⟨k+1,by omega,by go_num,HT2.out,bel_drewN HBL.out _⟩
       case measure=>simp[intOf];omega
      ·have f2:(z1==z1')=false:=by simpa using h2
       have hne:Hid (decide (a=b)=false):=by
        apply decide_eq_false
        rintro rfl;have:=hp.trans hs.symm;injection this with e1 e2;injection e2 with e2 e3;omega
       clear hc hc2 hT1 hT2 hp hs;go_wp2
       go_quiet (fail)
       go_wp2;go_ret;exact⟨ret_bool (by rw[HZ.out,hne.out]),bel_drewN HBL.out _⟩
     ·have f1:(y==y')=false:=by simpa using h1
      have hne:Hid (decide (a=b)=false):=by
       apply decide_eq_false
       rintro rfl;have:=hp.trans hs.symm;injection this with e1 e2;injection e2 with e2 e3;omega
      clear hc hc2 hT1 hT2 hp hs;go_wp2
      go_quiet (fail)
      go_wp2;go_ret;exact⟨ret_bool (by rw[HZ.out,hne.out]),bel_drewN HBL.out _⟩
    ·have f0':(x==x')=false:=by simpa using h0
     have hne:Hid (decide (a=b)=false):=by
      apply decide_eq_false
      rintro rfl;have:=hp.trans hs.symm;injection this with e1 e2;injection e2 with e2 e3;omega
     clear hc hc2 hT1 hT2 hp hs;go_wp2
     go_quiet (fail)
     go_wp2;go_ret;exact⟨ret_bool (by rw[HZ.out,hne.out]),bel_drewN HBL.out _⟩
   ·have hE:Hid (decide (a=b)=true):=by
     have:=HT.out;rw[List.take_of_length_le (by rw[HLA.out];omega),List.take_of_length_le (by rw[HLB.out];omega)]at this;exact decide_eq_true this
    go_wp2;go_ret;exact⟨ret_bool (by rw[HZ.out,hE.out]),HBL.out⟩
 ·have f0:((n:Int) != (m:Int))=true:=by simp;omega
  have hne:decide (a=b)=false:=by
   apply decide_eq_false
   rintro rfl;exact hnm (by rw[← HLA.out,HLB.out])
  have HNE:=Lib.hid hne;clear hne;go_enter Try.func18,Try.ntmps18;go_wp2;go_ret;exact⟨ret_bool (by rw[HZ.out,HNE.out]),Below.refl _ _⟩
end Cx
end Go.Proofs.Ytcbpgemiffmieaa
