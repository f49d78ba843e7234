/- Changes: what a change of a tree is: the document's. -/
import Derived.Test.YtgeafpaognhokaaGreatG00
import Derived.Test.YtgeafpaognhokaaGreatOpFull
import Derived.Test.YtgeafpaognhokaaGreatG60
import Derived.Test.YtgeafpaognhokaaGreatG10
import Derived.Test.YtgeafpaognhokaaGreatTreeRefRight
namespace Go.Proofs.YtgeafpaognhokaaGreat
open ChangeShapes WideShapes ChangeAt RowKit
namespace Cs
open Tr Cx Sp Rw Classical
theorem Bt {w:World} {B:Nat} : ∀ (p:List ByteArray) {t:T} {a b:SV},nodes t≤1000→aF w B t a b→∃ d e,aF w B (aI t p) d e
 | [],_,a,b,_,h=>⟨a,b,h⟩
 | s::p,t,⟨Ae,ne,ce⟩,⟨Ak,nk,ck⟩,hn,hr=>by
  show ∃ d e,aF w B (aI (aR t.ks s) p) d e;have g:=bY t s
  cases t with
  | mk es ks=>
   rcases jQ (ks:=ks) (key:=s)with ⟨x,l,_,f⟩ | ⟨_,f⟩
   ·obtain⟨j,k,rfl⟩:=qz l
    have hnk:=(bn hr).2;obtain⟨b,o,rfl,hb,i⟩:=iJ hr (by omega);obtain⟨d,e,_,_,_,c⟩:=i j k
    have hnn2:nodes (ks[j]).2≤nodes (.mk es ks):=by rw[← f];exact g
    rw[show aR (T.mk es ks).ks s=(ks[j]).2 from f];exact Bt p (by omega) c
   ·rw[show aR (T.mk es ks).ks s=none_ from f,nH]
    exact⟨⟨none,0,0⟩,⟨none,0,0⟩,aF.none _ _ _ _⟩
theorem Li (t:T):nodes (.mk t.es [])≤nodes t:=by
 rw[bJ];have h:=bE t.es t.ks;rw[T.eta]at h;simp;omega
theorem Ie {w:World} {B:Nat} {t:T} {a b:SV} (h:aF w B t a b):aF w B (.mk t.es []) a ⟨none,0,0⟩:=by
 obtain⟨Ae,ne,ce⟩:=a;obtain⟨Ak,nk,ck⟩:=b;rw[← T.eta t,gL]at h;rw[gL];exact⟨h.1,h.2.1,rfl,[],Rd.nil _,fun i hi=>by simp at hi⟩
theorem Ip {t:T} (l:au 5 t) {o:jK} {a b:SV} {w:World} (j:nodes t≤1000) (k:aF w w.heap.size t a b):∃ u,pG (fo t o) u∧u.length≤4*nodes t:=by
 have one:∀ p,∃ u,pG (dl (aI t p)) u∧u.length≤4*nodes t:=fun p=>by
  obtain⟨⟨A,n,c⟩,⟨B,m,d⟩,h⟩:=Bt p j k;have f:=fP t p;obtain⟨u,e,q⟩:=BG (cB l p) (LenT.few (by omega)) (by omega) h;exact⟨u,e,by omega⟩
 unfold fo
 by_cases g:o.act=3∨o.act=4
 ·rw[if_pos g];exact one _
 rw[if_neg g]
 by_cases f:o.act=5
 ·rw[if_pos f];exact⟨[],of_nil,by simp⟩
 rw[if_neg f]
 by_cases e:o.act=6
 ·rw[if_pos e]
  obtain⟨⟨A,n,c⟩,⟨B,m,d⟩,h⟩:=Bt o.path j k;have q:=fP t o.path;have h5:=Li (aI t o.path);obtain⟨u,i,h7⟩:=BG (uU (cB l o.path)) (LenT.few (by omega)) (by omega) (Ie h);exact⟨u,by rw[wJ]at i;exact i,by omega⟩
 ·rw[if_neg e];exact one _
theorem xZ {u:List S3} {k d:Nat} {B:Option Addr} {w:World} (c:u.length=k) (hk:k≤5000) (b:Rd w w.heap.size 3 B k d (aP u)) (e:aH u) {a n:Int} (hd:Dt.ak a n=true):∃ v,iW l6 u (eZ a n) v∧v.length≤k+1:=by
 obtain⟨_,m,g,_,l,j⟩:=Calls.some (rO a n w);obtain⟨_,_,v,q,_,_,_,f,h,i,_⟩:=Calls.some (rQ u (eZ a n) k 1 B (some ⟨g,0,none⟩) d 1 m c rfl (by omega) (by omega) (b.later j) l.rd e (iL hd));exact⟨v,h,by rw[f.o];exact i⟩
noncomputable def qM (t:T) (o:jK) (a n:Int):Int:=if Tr.ak 5 t=false then 1 else if ¬Ee o=0 then Ee o else if aY t a n=false then 1 else if pV t o=true then 4 else 0
theorem uP {p:List ByteArray} (h:f_ p):∀ k∈p,iV k:=fun k e=>by
 obtain⟨a,b⟩:=h.each k e;refine⟨Nat.pos_of_ne_zero fun d=>b ?_,a⟩;obtain⟨⟨l⟩⟩:=k
 cases l with
 | nil=>rfl
 | cons c l=>cases (show (c::l).length=0 from d)
theorem kE {o:jK} (h:jM o):(∀ k∈bL o,iV k)∧(bL o).length≤4:=by
 unfold bL;have b:=uP h.path;have h2:=h.path.few
 split
 ·rename_i c
  refine⟨fun k d=>?_,by rw[bP];simp;omega⟩
  rcases fO.1 d with a | a
  ·exact b k a
  ·rw[eX.1 a];exact h.key (.inl c)
 ·exact⟨b,by omega⟩
theorem qG {o:jK} (h:jM o) {e:E} (b:dR e):au 5 (bF (cu e) (bL o)):=by
 have a:=kE h;exact (au.wrap (d:=1) (jX (d:=0) b) (by unfold cu;simp[T.es]) a.1).le (by omega)
theorem nX {o:jK} (h:jM o) {a n:Int} (hd:Dt.ak a n=true):dR (eT ⟨(a,n),o,[]⟩):=by
 refine⟨hd,?_,?_,?_⟩
 ·show ByteArray.size (if o.act=6 then o.s else⟨#[]⟩)≤30
  split
  ·rename_i c;exact h.text c
  ·show ByteArray.size ⟨#[]⟩≤30;decide
 ·show (-1099511627776:Int)≤o.n
  by_cases b:o.act=5
  ·exact (h.num b).1
  ·rw[h.zero b];decide
 ·show o.n≤(1099511627776:Int)
  by_cases b:o.act=5
  ·exact (h.num b).2
  ·rw[h.zero b];decide
theorem Ce {t:T} (_ht:au 5 t) {o:jK} {a n:Int} {x:K} (c:jM o) (hd:Dt.ak a n=true) (h:kg t o (a,n) x):RK x:=by
 obtain⟨u,hu,g⟩:=h.ctx;have j:=qy hu.right hd g;have f:=g.right
 by_cases e:brings o.act
 ·have d:x=(bF (cu (eT ⟨(a,n),o,[]⟩)) (bL o),x.2):=Prod.ext (by rw[h.tree,if_pos e]) rfl
  rw[d];refine⟨qG c (nX c hd),f,fun y k=>?_⟩;have b:=(gq (qG c (nX c hd)) y.1 y.2).1 k;rw[oF]at b
  split at b
  ·rename_i i
   have h3:aV y.2=(a,n):=by rw[← i.2];rfl
   injection b with b;show aD x.2 y.2.a y.2.n=true;rw[← b];exact j
  ·cases b
 ·have d:x=(none_,x.2):=Prod.ext (by rw[h.tree,if_neg e]) rfl
  rw[d];exact xU f
theorem FU (w:World) (Ae Ak:Option Addr) (ne nk ce ck:Nat) (b:Option Addr) (e d:Nat) (c:Int) (xs:ByteArray) (f a n:Int):∃ (W:World) (p q s r:Nat),ai (W=(((w.alloc (.cells #[.slice Ae ne ce,.slice Ak nk ck] 35)).alloc (.cells #[.slice b e d,.int .i64 c,.string xs,.int .i64 f] 27)).alloc (.cells #[.int .i64 a,.int .i64 n] 37)).alloc (.cells #[.slice none 0 0,.slice none 0 0,.slice none 0 0] 42))∧ai (p=w.heap.size)∧ai (q=p+1)∧ai (s=p+1+1)∧ai (r=p+1+1+1)∧ai (Kept [(⟨p,0,none⟩,.slice Ae ne ce),(⟨p,1,none⟩,.slice Ak nk ck),(⟨q,0,none⟩,.slice b e d),(⟨q,1,none⟩,.int .i64 c),(⟨q,2,none⟩,.string xs),(⟨q,3,none⟩,.int .i64 f),(⟨s,0,none⟩,.int .i64 a),(⟨s,1,none⟩,.int .i64 n)] w W)∧ai (Kept [(⟨r,0,none⟩,.slice none 0 0),(⟨r,1,none⟩,.slice none 0 0),(⟨r,2,none⟩,.slice none 0 0)] w W)∧ai (aA r W):=by
 refine⟨_,_,_,_,_,rfl,rfl,rfl,rfl,rfl,?_,?_,⟨by simp,fun j=>by go_simp⟩⟩
 ·have g:=Kept.a_ (show av w ((((w.alloc (.cells #[.slice Ae ne ce,.slice Ak nk ck] 35)).alloc (.cells #[.slice b e d,.int .i64 c,.string xs,.int .i64 f] 27)).alloc (.cells #[.int .i64 a,.int .i64 n] 37)).alloc (.cells #[.slice none 0 0,.slice none 0 0,.slice none 0 0] 42)) from ((((bN).alloc (bG) _).alloc (by simp) _).alloc (by simp;omega) _).alloc (by simp;omega) _)
  refine ((((((((g).af ?_).af ?_).af ?_).af ?_).af ?_).af ?_).af ?_).af ?_ <;> go_simp
 ·have g:=Kept.a_ (show av w ((((w.alloc (.cells #[.slice Ae ne ce,.slice Ak nk ck] 35)).alloc (.cells #[.slice b e d,.int .i64 c,.string xs,.int .i64 f] 27)).alloc (.cells #[.int .i64 a,.int .i64 n] 37)).alloc (.cells #[.slice none 0 0,.slice none 0 0,.slice none 0 0] 42)) from ((((bN).alloc (bG) _).alloc (by simp) _).alloc (by simp;omega) _).alloc (by simp;omega) _)
  refine ((g.af ?_).af ?_).af ?_ <;> go_simp
def FM (t:T) (o:jK) (a n er:Int) (w:World) (e:Ending) (w':World):Prop:=∃ (k:K) (Xe:Option Addr) (xe1 xe2:Nat) (Xk:Option Addr) (xk1 xk2:Nat) (Xc:Option Addr) (xc1 xc2:Nat),e = .returned (.tuple #[.agg #[.slice Xe xe1 xe2,.slice Xk xk1 xk2,.slice Xc xc1 xc2],.int .i64 er])∧ai (eH w' w.heap.size k Xe xe1 xe2 Xk xk1 xk2 Xc xc1 xc2)∧ai ((er=0→kg t o (a,n) k∧xc1≤4*nodes t+4)∧(¬er=0→k=bH))∧av w w'
set_option maxRecDepth 100000 in
set_option maxHeartbeats 4000000 in
theorem tC (t:T) (Ae Ak:Option Addr) (ne nk ce ck:Nat) (J:List ByteArray) (L:Int) (xs:ByteArray) (l:Int) (xA:Option Addr) (xn xc:Nat) (a n:Int) (w:World) (er:Int) (Oo:qM t ⟨J,L,xs,l⟩ a n=er) (hl:LenT reachBytes t) (hn:nodes t≤1000) (hr:aF w w.heap.size t ⟨Ae,ne,ce⟩ ⟨Ak,nk,ck⟩) (Ou:nodes t≤240) (Ot:xn≤900) (NW:Rd w w.heap.size 1 xA xn xc (strs J)) :
  Calls Tryz.prog 21 #[.agg #[.slice Ae ne ce,.slice Ak nk ck],.agg #[.slice xA xn xc,.int .i64 L,.string xs,.int .i64 l],.agg #[.int .i64 a,.int .i64 n]] w (FM t ⟨J,L,xs,l⟩ a n er w):=by
 obtain⟨W,p,q,s,r,HW,HP,HQ,Ol,NJ,c,j,d⟩:=FU w Ae Ak ne nk ce ck xA xn xc L xs l a n
 have U:w.heap.size≤r:=by have:=HP.o;have:=NJ.o;omega
 have hpr:p<r:=by have:=HP.o;have:=NJ.o;omega
 have hqr:q<r:=by have:=HQ.o;have:=NJ.o;omega
 have hsr:s<r:=by have:=Ol.o;have:=NJ.o;omega
 have R:=ah (aF.later hr c.below);have RX:=ah (NW.later c.below);have HLX:=ah (bM NW);have Oj:=ah hr;have HRX0:=ah NW;have N:=ah (And.intro hn (And.intro Ot hl));have NG:=ah Oo;have N2:=ah Ou;obtain⟨y1,Ow⟩:∃ y,Tr.ak 5 t=y:=⟨_,rfl⟩;obtain⟨y2,Ox⟩:∃ y,aY t a n=y:=⟨_,rfl⟩;obtain⟨y3,Oy⟩:∃ y,pV t ⟨J,L,xs,l⟩=y:=⟨_,rfl⟩;obtain⟨y4,Oz⟩:∃ y,decide (brings L)=y:=⟨_,rfl⟩;obtain⟨e0,Om⟩:∃ x,Ee ⟨J,L,xs,l⟩=x:=⟨_,rfl⟩;have Ob:=ah Ow;have NM:=ah Ox;have Oc:=ah Oy;have Od:=ah Oz;have NC:=ah Om;clear hl hn hr NW Ot Ou Oo Ow Ox Oy Oz Om;obtain⟨c0,c1,c2,c3,c4,c5,c6,c7,-⟩:=c.cj;go_enter Tryz.func21,Tryz.ntmps21
 go_wp2_with fail;rw[← HW.o,← HP.o]
 try rw[← NJ.o]
 try rw[← Ol.o]
 try rw[← HQ.o]
 refine (kz t Ae Ak ne nk ce ck W N.2.2 R).mono ?_;rw[Ob.o];rintro e v1 ⟨rfl,i⟩;obtain⟨c,R,RX,j,d⟩:=jo i c R RX j d;clear i;clear c0 c1 c2 c3 c4 c5 c6 c7
 cases y1 with
 | false=>
  have Z:er=1:=by
   rw[← NG.o];unfold qM;rw[if_pos Ob.o]
  obtain rfl:=Z;obtain⟨z0,z1,z2,-⟩:=j.cj;have m0:=d.2 0;have m1:=d.2 1;have m2:=d.2 2;obtain⟨W9,k⟩:∃ W,W=((v1.setCell ⟨r,0,none⟩ (.slice none 0 0)).setCell ⟨r,1,none⟩ (.slice none 0 0)).setCell ⟨r,2,none⟩ (.slice none 0 0):=⟨_,rfl⟩;have M:=jF k c.below U;obtain⟨l0,l1,l2⟩:=kH k z0 z1 z2;have O:=ah k;clear k;go_wp2_with fail;rw[← O.o];refine bodyPost_ret (v:=.tuple #[.agg #[.slice none 0 0,.slice none 0 0,.slice none 0 0],.int .i64 1]) (by simp[results,Tryz.results21,go_sem,l0,l1,l2]) rfl ⟨bH,none,0,0,none,0,0,none,0,0,rfl,eH.no _ _,⟨fun h=>absurd h (by omega),fun _=>rfl⟩,M⟩
 | true=>
  have NV:ai (¬Tr.ak 5 t=false):=ah (by rw[Ob.o];decide)
  obtain⟨c0,c1,c2,c3,c4,c5,c6,c7,-⟩:=c.cj;go_wp2_with fail;refine (Ij J L xs l xA xn xc v1 e0 NC (by have:=N.o;have:=N2.o;omega) RX).mono ?_;rintro e v2 ⟨rfl,i⟩;obtain⟨c,R,RX,j,d⟩:=jo i c R RX j d;clear i;clear c0 c1 c2 c3 c4 c5 c6 c7
  by_cases NY:e0=0
  ·subst NY
   have NE:ai (jM ⟨J,L,xs,l⟩):=xJ.1 NC.o;obtain⟨c0,c1,c2,c3,c4,c5,c6,c7,-⟩:=c.cj;go_wp2_with fail;refine (Bw t Ae Ak ne nk ce ck a n v2 y2 NM N.2.2 N.1 R).mono ?_;rintro e v3 ⟨rfl,i⟩;obtain⟨c,R,RX,j,d⟩:=jo i c R RX j d;clear i;clear c0 c1 c2 c3 c4 c5 c6 c7
   cases y2 with
   | false=>
    have Z:er=1:=by
     rw[← NG.o];unfold qM;rw[if_neg NV.o,if_neg (fun h=>h NC.o),if_pos NM.o]
    obtain rfl:=Z;obtain⟨z0,z1,z2,-⟩:=j.cj;have m0:=d.2 0;have m1:=d.2 1;have m2:=d.2 2;obtain⟨W9,k⟩:∃ W,W=((v3.setCell ⟨r,0,none⟩ (.slice none 0 0)).setCell ⟨r,1,none⟩ (.slice none 0 0)).setCell ⟨r,2,none⟩ (.slice none 0 0):=⟨_,rfl⟩;have M:=jF k c.below U;obtain⟨l0,l1,l2⟩:=kH k z0 z1 z2;have O:=ah k;clear k;go_wp2_with fail;rw[← O.o];refine bodyPost_ret (v:=.tuple #[.agg #[.slice none 0 0,.slice none 0 0,.slice none 0 0],.int .i64 1]) (by simp[results,Tryz.results21,go_sem,l0,l1,l2]) rfl ⟨bH,none,0,0,none,0,0,none,0,0,rfl,eH.no _ _,⟨fun h=>absurd h (by omega),fun _=>rfl⟩,M⟩
   | true=>
    have HT:ai (au 5 t):=(dD.1 NM).1;have HD:ai (Dt.ak a n=true):=(dD.1 NM).2.1
    have Oh:ai (¬aY t a n=false):=ah (by rw[NM.o];decide)
    obtain⟨c0,c1,c2,c3,c4,c5,c6,c7,-⟩:=c.cj;go_wp2_with fail;refine (yQ t Ae Ak ne nk ce ck J L xs l xA xn xc v3 y3 Oc HT N.2.2 N.1 R N.2.1 RX).mono ?_;rintro e v4 ⟨rfl,i⟩;obtain⟨c,R,RX,j,d⟩:=jo i c R RX j d;clear i;clear c0 c1 c2 c3 c4 c5 c6 c7
    cases y3 with
    | true=>
     have Z:er=4:=by
      rw[← NG.o];unfold qM;rw[if_neg NV.o,if_neg (fun h=>h NC.o),if_neg Oh.o,if_pos Oc.o]
     obtain rfl:=Z;obtain⟨z0,z1,z2,-⟩:=j.cj;have m0:=d.2 0;have m1:=d.2 1;have m2:=d.2 2;obtain⟨W9,k⟩:∃ W,W=((v4.setCell ⟨r,0,none⟩ (.slice none 0 0)).setCell ⟨r,1,none⟩ (.slice none 0 0)).setCell ⟨r,2,none⟩ (.slice none 0 0):=⟨_,rfl⟩;have M:=jF k c.below U;obtain⟨l0,l1,l2⟩:=kH k z0 z1 z2;have O:=ah k;clear k;go_wp2_with fail;rw[← O.o];refine bodyPost_ret (v:=.tuple #[.agg #[.slice none 0 0,.slice none 0 0,.slice none 0 0],.int .i64 4]) (by simp[results,Tryz.results21,go_sem,l0,l1,l2]) rfl ⟨bH,none,0,0,none,0,0,none,0,0,rfl,eH.no _ _,⟨fun h=>absurd h (by omega),fun _=>rfl⟩,M⟩
    | false=>
     have Z:er=0:=by
      rw[← NG.o];unfold qM;rw[if_neg NV.o,if_neg (fun h=>h NC.o),if_neg Oh.o,if_neg (by rw[Oc.o];decide)]
     obtain rfl:=Z;obtain⟨u,Ov,O4⟩:=Ip (o:=⟨J,L,xs,l⟩) HT N.1 Oj.o;obtain⟨m9,Oq⟩:∃ m9,u.length=m9:=⟨_,rfl⟩;have G:ai (pG (fo t ⟨J,L,xs,l⟩) u∧u.length=m9∧m9≤4*nodes t):=⟨Ov,Oq,by omega⟩;clear Ov O4 Oq;obtain⟨c0,c1,c2,c3,c4,c5,c6,c7,-⟩:=c.cj;go_wp2_with fail;refine (jC L v4 y4 Od).mono ?_;rintro e v5 ⟨rfl,i⟩;obtain⟨c,R,RX,j,d⟩:=jo i c R RX j d;clear i;clear c0 c1 c2 c3 c4 c5 c6 c7
     cases y4 with
     | false=>
      have O0:ai (¬brings L):=yF Od.o;obtain⟨c0,c1,c2,c3,c4,c5,c6,c7,-⟩:=c.cj;go_wp2_with fail;clear c0 c1 c2 c3 c4 c5 c6 c7;refine Rg (S:=eB _) c.drew.cj (fun f=>?_);obtain⟨v6,N_,i⟩:=mW v5;obtain⟨c,R,RX,j,d⟩:=jo i c R RX j d;clear i;rw[← N_]at f ⊢;clear N_;refine T3 0 33 1 34 2 35 ?_;refine Tc 3 (fun K H=>?_);go_simp;(go_at_call 56;refine (qi t Ae Ak ne nk ce ck J L xs l xA xn xc u m9 v6 HT N.1 R N.2.1 RX G.1 G.2.1 (by have:=G.2.2;have:=N.o;have:=N2.o;omega)).mono ?_);rintro e v7 ⟨B9,d9,rfl,N9,i⟩;have RU:=ah N9;clear N9;obtain⟨c,R,RX,j,d⟩:=jo i c R RX j d;clear i;clear f;refine Th H ?_ (fun f=>?_)
      ·exact c.cj
      clear H K;refine Tc 4 (fun K H=>?_);go_simp;obtain⟨Q,NA,NT⟩:=xZ G.2.1 (by have:=G.2.2;have:=N.o;have:=N2.o;omega) RU G.1.right HD.o;obtain⟨q9,N7⟩:∃ q,Q.length=q:=⟨_,rfl⟩;have HV:ai (iW l6 u (eZ a n) Q∧Q.length=q9∧q9≤4*nodes t+4):=⟨NA,N7,by have:=G.2.2;omega⟩;clear NA NT N7;(go_at_call 55;refine (Dm a n u Q B9 m9 d9 q9 v7 G.2.1 (by have:=G.2.2;have:=N.o;have:=N2.o;omega) RU G.1.right HD HV.1 HV.2.1 (by have:=HV.2.2;have:=N.o;have:=N2.o;omega)).mono ?_);rintro e v8 ⟨X,B,C,Y,D,F,V,m,A,rfl,Nz,i⟩;have Ny:ai (eH v8 (r+1) (none_,Q) X B C Y D F V m A):=eH.mono Nz (Nat.succ_le_of_lt d.1);clear Nz;obtain⟨c,R,RX,j,d,RU⟩:=pR i c R RX j d RU
      clear i;obtain⟨z0,z1,z2,-⟩:=j.cj;have m0:=d.2 0;have m1:=d.2 1;have m2:=d.2 2;clear f;refine Th H ?_ (fun f=>?_)
      ·exact c.cj
      clear H K;refine Tc 5 (fun K H=>?_);go_simp;refine Th H ?_ (fun z=>?_)
      ·(try dsimp only)
       have h9:=c.tZ (g:=r) U (by simp;omega) (.slice X B C) (.slice Y D F) (.slice V m A);exact h9.cj
      clear H K f;have f:=z;clear z;refine Tk 6 7 ?_;refine Td ?_;clear f;obtain⟨z0,z1,z2,-⟩:=j.cj;have m0:=d.2 0;have m1:=d.2 1;have m2:=d.2 2;obtain⟨W9,k⟩:∃ W,W=((v8.setCell ⟨r,0,none⟩ (.slice X B C)).setCell ⟨r,1,none⟩ (.slice Y D F)).setCell ⟨r,2,none⟩ (.slice V m A):=⟨_,rfl⟩;have M:=jF k c.below U
      have NI:ai (eH W9 w.heap.size (none_,Q) X B C Y D F V m A):=by
       unfold ai;rw[k];exact (Ny.gT (m_ r) _ _ _).mono (by omega)
      have NH:ai (m≤4*nodes t+4):=by
       have h1:=Ny.len;have h2:=HV.2;dsimp only at h1;unfold ai;omega
      obtain⟨l0,l1,l2⟩:=kH k z0 z1 z2;have O:=ah k;clear k z0 z1 z2 m0 m1 m2;rw[← O.o];go_wp2_with fail;refine bodyPost_ret (v:=.tuple #[.agg #[.slice X B C,.slice Y D F,.slice V m A],.int .i64 0]) (by simp[results,Tryz.results21,go_sem,l0,l1,l2]) rfl ⟨(none_,Q),X,B,C,Y,D,F,V,m,A,rfl,NI,⟨fun _=>⟨⟨(if_neg O0.o).symm,u,G.1,HV.1⟩,NH⟩,fun h=>absurd rfl h⟩,M⟩
     | true=>
      have Og:ai (brings L):=jH Od
      by_cases h6:L=6
      ·subst h6
       have O1:ai ((if (6:Int)=6 then xs else⟨#[]⟩)=xs):=if_pos rfl
       obtain⟨o0,o1,o2,o3,o4,o5,o6,o7,-⟩:=c.cj;have n0:=(c.alloc (.cells #[.int .i64 a,.int .i64 n,.string ⟨#[]⟩,.int .i64 l] 97)).c0;have n1:=(c.alloc (.cells #[.int .i64 a,.int .i64 n,.string ⟨#[]⟩,.int .i64 l] 97)).c1;have n2:=(c.alloc (.cells #[.int .i64 a,.int .i64 n,.string ⟨#[]⟩,.int .i64 l] 97)).c2;have n3:=(c.alloc (.cells #[.int .i64 a,.int .i64 n,.string ⟨#[]⟩,.int .i64 l] 97)).c3;have n4:=(c.alloc (.cells #[.int .i64 a,.int .i64 n,.string ⟨#[]⟩,.int .i64 l] 97)).c4;have n5:=(c.alloc (.cells #[.int .i64 a,.int .i64 n,.string ⟨#[]⟩,.int .i64 l] 97)).c5;have n6:=(c.alloc (.cells #[.int .i64 a,.int .i64 n,.string ⟨#[]⟩,.int .i64 l] 97)).c6
       have n7:=(c.alloc (.cells #[.int .i64 a,.int .i64 n,.string ⟨#[]⟩,.int .i64 l] 97)).c7;have N8:=d.1;obtain⟨b,v6,hb,N_,i,b0,b1,b2,b3⟩:=zi v5 (.int .i64 a) (.int .i64 n) (.string xs) (.int .i64 l) 97;obtain⟨c,R,RX,j,d⟩:=jo i c R RX j d;clear i;have c:=ah ((((c.af b3).af b2).af b1).af b0);have Hb:=ah hb;have NN:=ah N_;clear hb N_ b0 b1 b2 b3
       have NZ:ai (r<b∧w.heap.size≤b):=ah (by rw[Hb.o];exact⟨N8,by omega⟩)
       clear N8;have O3:r<b:=NZ.1;obtain⟨c0,c1,c2,c3,c4,c5,c6,c7,c8,c9,NP,NQ,-⟩:=c.cj;rw[NN.o]at c0 c1 c2 c3 c4 c5 c6 c7 c8 c9 NP NQ;rw[Hb.o]at c0 c1 c2 c3;go_wp2_with fail;rw[← Hb.o,← NN.o];clear c0 c1 c2 c3 c4 c5 c6 c7 c8 c9 NP NQ;clear o0 o1 o2 o3 o4 o5 o6 o7 n0 n1 n2 n3 n4 n5 n6 n7
       have NF:ai (eT ⟨(a,n),⟨J,6,xs,l⟩,[]⟩=⟨a,n,xs,l⟩):=by
        unfold ai eT;dsimp only;rw[if_pos rfl]
       have NK:ai (dR ⟨a,n,xs,l⟩):=by
        have h:=nX NE HD.o;rw[NF.o]at h;exact h
       have Oa:ai (au 5 (bF (cu ⟨a,n,xs,l⟩) (bL ⟨J,6,xs,l⟩))):=qG NE NK.o;refine Rg (S:=eB _) c.drew.cj (fun f=>?_);obtain⟨v7,NS,i⟩:=mW v6;obtain⟨c,R,RX,j,d⟩:=jo i c R RX j d;clear i;rw[← NS]at f ⊢;clear NS;refine T4 0 48 2 50 3 51 4 52 ?_;refine Tc 1 (fun K H=>?_);go_simp;(go_at_call 58;refine (rH J 6 xs l xA xn xc v7 N.2.1 RX).mono ?_);rintro e v8 ⟨eA,em,ec,rfl,NR,Oe,i⟩;have RE:ai (Rd v8 v8.heap.size 1 eA em ec (strs (bL ⟨J,6,xs,l⟩))):=NR.rd;clear NR Oe;obtain⟨c,R,RX,j,d⟩:=jo i c R RX j d;clear i;clear f;refine Th H ?_ (fun f=>?_)
       ·exact c.cj
       clear H K;refine Tc 5 (fun K H=>?_);go_simp;(go_at_call 56;refine (qi t Ae Ak ne nk ce ck J 6 xs l xA xn xc u m9 v8 HT N.1 R N.2.1 RX G.1 G.2.1 (by have:=G.2.2;have:=N.o;have:=N2.o;omega)).mono ?_);rintro e v9 ⟨B9,d9,rfl,N9,i⟩;have RU:=ah N9;clear N9;obtain⟨c,R,RX,j,d,RE⟩:=pR i c R RX j d RE;clear i;clear f;refine Th H ?_ (fun f=>?_)
       ·exact c.cj
       clear H K;refine Tc 6 (fun K H=>?_);go_simp;obtain⟨Q,NA,NT⟩:=xZ G.2.1 (by have:=G.2.2;have:=N.o;have:=N2.o;omega) RU G.1.right HD.o;obtain⟨q9,N7⟩:∃ q,Q.length=q:=⟨_,rfl⟩;have HV:ai (iW l6 u (eZ a n) Q∧Q.length=q9∧q9≤4*nodes t+4):=⟨NA,N7,by have:=G.2.2;omega⟩;clear NA NT N7;(go_at_call 57;refine (xO (bL ⟨J,6,xs,l⟩) eA em ec a n xs l u Q B9 m9 d9 q9 v9 (bM RE) RE G.2.1 (by have:=G.2.2;have:=N.o;have:=N2.o;omega) RU G.1.right NK Oa (by have h:=bM RE.o;have:=(kE NE).2;omega) HV.1 HV.2.1 (by have:=HV.2.2;have:=N.o;have:=N2.o;omega)).mono ?_);rintro e NU ⟨X,B,C,Y,D,F,V,m,A,rfl,Nz,i⟩;have Ny:ai (eH NU (r+1) (bF (cu ⟨a,n,xs,l⟩) (bL ⟨J,6,xs,l⟩),Q) X B C Y D F V m A):=eH.mono Nz (Nat.succ_le_of_lt d.1)
       clear Nz;obtain⟨c,R,RX,j,d,RE,RU⟩:=Ed i c R RX j d RE RU;clear i;obtain⟨z0,z1,z2,-⟩:=j.cj;have m0:=d.2 0;have m1:=d.2 1;have m2:=d.2 2;clear f;refine Th H ?_ (fun f=>?_)
       ·exact c.cj
       clear H K;refine Tc 7 (fun K H=>?_);go_simp;refine Th H ?_ (fun z=>?_)
       ·(try dsimp only)
        have h9:=c.tZ (g:=r) U (by simp;omega) (.slice X B C) (.slice Y D F) (.slice V m A);exact h9.cj
       clear H K f;have f:=z;clear z;refine Tk 8 7 ?_;refine Td ?_;clear f;obtain⟨z0,z1,z2,-⟩:=j.cj;have m0:=d.2 0;have m1:=d.2 1;have m2:=d.2 2;obtain⟨W9,k⟩:∃ W,W=((NU.setCell ⟨r,0,none⟩ (.slice X B C)).setCell ⟨r,1,none⟩ (.slice Y D F)).setCell ⟨r,2,none⟩ (.slice V m A):=⟨_,rfl⟩;have M:=jF k c.below U
       have NI:ai (eH W9 w.heap.size (bF (cu ⟨a,n,xs,l⟩) (bL ⟨J,6,xs,l⟩),Q) X B C Y D F V m A):=by
        unfold ai;rw[k];exact (Ny.gT (m_ r) _ _ _).mono (by omega)
       have NH:ai (m≤4*nodes t+4):=by
        have h1:=Ny.len;have h2:=HV.2;dsimp only at h1;unfold ai;omega
       obtain⟨l0,l1,l2⟩:=kH k z0 z1 z2;have O:=ah k;clear k z0 z1 z2 m0 m1 m2;rw[← O.o];go_wp2_with fail;refine bodyPost_ret (v:=.tuple #[.agg #[.slice X B C,.slice Y D F,.slice V m A],.int .i64 0]) (by simp[results,Tryz.results21,go_sem,l0,l1,l2]) rfl ⟨(bF (cu ⟨a,n,xs,l⟩) (bL ⟨J,6,xs,l⟩),Q),X,B,C,Y,D,F,V,m,A,rfl,NI,⟨fun _=>⟨⟨by rw[if_pos Og.o,NF.o],u,G.1,HV.1⟩,NH⟩,fun h=>absurd rfl h⟩,M⟩
      ·have f6:(L==6)=false:=by simpa using h6
       have O1:ai ((if L=6 then xs else⟨#[]⟩)=⟨#[]⟩):=if_neg h6
       obtain⟨o0,o1,o2,o3,o4,o5,o6,o7,-⟩:=c.cj;have N8:=d.1;obtain⟨b,v6,hb,N_,i,b0,b1,b2,b3⟩:=zi v5 (.int .i64 a) (.int .i64 n) (.string ⟨#[]⟩) (.int .i64 l) 97;obtain⟨c,R,RX,j,d⟩:=jo i c R RX j d;clear i;have c:=ah ((((c.af b3).af b2).af b1).af b0);have Hb:=ah hb;have NN:=ah N_;clear hb N_ b0 b1 b2 b3
       have NZ:ai (r<b∧w.heap.size≤b):=ah (by rw[Hb.o];exact⟨N8,by omega⟩)
       clear N8;have O3:r<b:=NZ.1;obtain⟨c0,c1,c2,c3,c4,c5,c6,c7,c8,c9,NP,NQ,-⟩:=c.cj;rw[NN.o]at c0 c1 c2 c3 c4 c5 c6 c7 c8 c9 NP NQ;rw[Hb.o]at c0 c1 c2 c3;go_wp2_with fail;rw[← Hb.o,← NN.o];clear c0 c1 c2 c3 c4 c5 c6 c7 c8 c9 NP NQ;clear o0 o1 o2 o3 o4 o5 o6 o7
       have NF:ai (eT ⟨(a,n),⟨J,L,xs,l⟩,[]⟩=⟨a,n,⟨#[]⟩,l⟩):=by
        unfold ai eT;dsimp only;rw[if_neg h6]
       have NK:ai (dR ⟨a,n,⟨#[]⟩,l⟩):=by
        have h:=nX NE HD.o;rw[NF.o]at h;exact h
       have Oa:ai (au 5 (bF (cu ⟨a,n,⟨#[]⟩,l⟩) (bL ⟨J,L,xs,l⟩))):=qG NE NK.o;refine Rg (S:=eB _) c.drew.cj (fun f=>?_);obtain⟨v7,NS,i⟩:=mW v6;obtain⟨c,R,RX,j,d⟩:=jo i c R RX j d;clear i;rw[← NS]at f ⊢;clear NS;refine T4 0 48 2 50 3 51 4 52 ?_;refine Tc 1 (fun K H=>?_);go_simp;(go_at_call 58;refine (rH J L xs l xA xn xc v7 N.2.1 RX).mono ?_);rintro e v8 ⟨eA,em,ec,rfl,NR,Oe,i⟩;have RE:ai (Rd v8 v8.heap.size 1 eA em ec (strs (bL ⟨J,L,xs,l⟩))):=NR.rd;clear NR Oe;obtain⟨c,R,RX,j,d⟩:=jo i c R RX j d;clear i;clear f;refine Th H ?_ (fun f=>?_)
       ·exact c.cj
       clear H K;refine Tc 5 (fun K H=>?_);go_simp;(go_at_call 56;refine (qi t Ae Ak ne nk ce ck J L xs l xA xn xc u m9 v8 HT N.1 R N.2.1 RX G.1 G.2.1 (by have:=G.2.2;have:=N.o;have:=N2.o;omega)).mono ?_);rintro e v9 ⟨B9,d9,rfl,N9,i⟩;have RU:=ah N9;clear N9;obtain⟨c,R,RX,j,d,RE⟩:=pR i c R RX j d RE;clear i;clear f;refine Th H ?_ (fun f=>?_)
       ·exact c.cj
       clear H K;refine Tc 6 (fun K H=>?_);go_simp;obtain⟨Q,NA,NT⟩:=xZ G.2.1 (by have:=G.2.2;have:=N.o;have:=N2.o;omega) RU G.1.right HD.o;obtain⟨q9,N7⟩:∃ q,Q.length=q:=⟨_,rfl⟩;have HV:ai (iW l6 u (eZ a n) Q∧Q.length=q9∧q9≤4*nodes t+4):=⟨NA,N7,by have:=G.2.2;omega⟩;clear NA NT N7;(go_at_call 57;refine (xO (bL ⟨J,L,xs,l⟩) eA em ec a n ⟨#[]⟩ l u Q B9 m9 d9 q9 v9 (bM RE) RE G.2.1 (by have:=G.2.2;have:=N.o;have:=N2.o;omega) RU G.1.right NK Oa (by have h:=bM RE.o;have:=(kE NE).2;omega) HV.1 HV.2.1 (by have:=HV.2.2;have:=N.o;have:=N2.o;omega)).mono ?_);rintro e NU ⟨X,B,C,Y,D,F,V,m,A,rfl,Nz,i⟩;have Ny:ai (eH NU (r+1) (bF (cu ⟨a,n,⟨#[]⟩,l⟩) (bL ⟨J,L,xs,l⟩),Q) X B C Y D F V m A):=eH.mono Nz (Nat.succ_le_of_lt d.1)
       clear Nz;obtain⟨c,R,RX,j,d,RE,RU⟩:=Ed i c R RX j d RE RU;clear i;obtain⟨z0,z1,z2,-⟩:=j.cj;have m0:=d.2 0;have m1:=d.2 1;have m2:=d.2 2;clear f;refine Th H ?_ (fun f=>?_)
       ·exact c.cj
       clear H K;refine Tc 7 (fun K H=>?_);go_simp;refine Th H ?_ (fun z=>?_)
       ·(try dsimp only)
        have h9:=c.tZ (g:=r) U (by simp;omega) (.slice X B C) (.slice Y D F) (.slice V m A);exact h9.cj
       clear H K f;have f:=z;clear z;refine Tk 8 7 ?_;refine Td ?_;clear f;obtain⟨z0,z1,z2,-⟩:=j.cj;have m0:=d.2 0;have m1:=d.2 1;have m2:=d.2 2;obtain⟨W9,k⟩:∃ W,W=((NU.setCell ⟨r,0,none⟩ (.slice X B C)).setCell ⟨r,1,none⟩ (.slice Y D F)).setCell ⟨r,2,none⟩ (.slice V m A):=⟨_,rfl⟩;have M:=jF k c.below U
       have NI:ai (eH W9 w.heap.size (bF (cu ⟨a,n,⟨#[]⟩,l⟩) (bL ⟨J,L,xs,l⟩),Q) X B C Y D F V m A):=by
        unfold ai;rw[k];exact (Ny.gT (m_ r) _ _ _).mono (by omega)
       have NH:ai (m≤4*nodes t+4):=by
        have h1:=Ny.len;have h2:=HV.2;dsimp only at h1;unfold ai;omega
       obtain⟨l0,l1,l2⟩:=kH k z0 z1 z2;have O:=ah k;clear k z0 z1 z2 m0 m1 m2;rw[← O.o];go_wp2_with fail;refine bodyPost_ret (v:=.tuple #[.agg #[.slice X B C,.slice Y D F,.slice V m A],.int .i64 0]) (by simp[results,Tryz.results21,go_sem,l0,l1,l2]) rfl ⟨(bF (cu ⟨a,n,⟨#[]⟩,l⟩) (bL ⟨J,L,xs,l⟩),Q),X,B,C,Y,D,F,V,m,A,rfl,NI,⟨fun _=>⟨⟨by rw[if_pos Og.o,NF.o],u,G.1,HV.1⟩,NH⟩,fun h=>absurd rfl h⟩,M⟩
  ·have Oi:ai (¬e0=0):=NY
   have f0:(e0==0)=false:=by simpa using NY
   clear NY
   have Z:e0=er:=by
    rw[← NG.o];unfold qM;rw[if_neg NV.o,if_pos (by rw[NC.o];exact Oi.o)];exact NC.symm
   subst Z;obtain⟨z0,z1,z2,-⟩:=j.cj;have m0:=d.2 0;have m1:=d.2 1;have m2:=d.2 2;obtain⟨W9,k⟩:∃ W,W=((v2.setCell ⟨r,0,none⟩ (.slice none 0 0)).setCell ⟨r,1,none⟩ (.slice none 0 0)).setCell ⟨r,2,none⟩ (.slice none 0 0):=⟨_,rfl⟩;have M:=jF k c.below U;obtain⟨l0,l1,l2⟩:=kH k z0 z1 z2;have O:=ah k;clear k;go_wp2_with fail;rw[← O.o];refine bodyPost_ret (v:=.tuple #[.agg #[.slice none 0 0,.slice none 0 0,.slice none 0 0],.int .i64 e0]) (by simp[results,Tryz.results21,go_sem,l0,l1,l2]) rfl ⟨bH,none,0,0,none,0,0,none,0,0,rfl,eH.no _ _,⟨fun h=>absurd h Oi,fun _=>rfl⟩,M⟩
end Cs
end Go.Proofs.YtgeafpaognhokaaGreat
