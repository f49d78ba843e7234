/- Texts of the lower layers, and of layer 9, put together. -/
import Derived.Test.YtgeafpaognhokaaGreatG00
import Derived.Test.YtgeafpaognhokaaGreatCauMrgK
import Derived.Test.YtgeafpaognhokaaGreatG10
import Derived.Test.YtgeafpaognhokaaGreatG20
import Derived.Test.YtgeafpaognhokaaGreatTreeRefRight
import Derived.Test.YtgeafpaognhokaaGreatTreeRight
import Derived.Lib.OwnBridge
import Derived.Test.YtgeafpaognhokaaGreatG01
namespace Go.Proofs.YtgeafpaognhokaaGreat
set_option maxRecDepth 100000
set_option maxHeartbeats 4000000
section
open ChangeShapes WideShapes ChangeAt RowKit
namespace Cs
open Tr Cx Sp Rw
theorem zh (w:World) (Ae Ak c d e f:Option Addr) (ne nk ce ck i mk g h j a k b:Nat):∃ (W:World) (p q:Nat),ai (W=(w.alloc (.cells #[.slice Ae ne ce,.slice Ak nk ck,.slice e j a] 42)).alloc (.cells #[.slice c i g,.slice d mk h,.slice f k b] 42))∧ai (p=w.heap.size)∧ai (q=p+1)∧ai (Kept [(⟨p,0,none⟩,.slice Ae ne ce),(⟨p,1,none⟩,.slice Ak nk ck),(⟨p,2,none⟩,.slice e j a),(⟨q,0,none⟩,.slice c i g),(⟨q,1,none⟩,.slice d mk h),(⟨q,2,none⟩,.slice f k b)] w W):=by
 refine⟨_,_,_,rfl,rfl,rfl,?_⟩;have l:=Kept.a_ (Dt.bC w #[.slice Ae ne ce,.slice Ak nk ck,.slice e j a] #[.slice c i g,.slice d mk h,.slice f k b] 42 42)
 refine (((((l.af ?_).af ?_).af ?_).af ?_).af ?_).af ?_ <;> go_simp
theorem yG.more {w:World} {B a n c:Nat} {A:Option Addr} {ks:List Kd} (h:yG w B A n c ks) (b:B≤a):yG w a A n c ks:=by
 obtain⟨q,j,k,l⟩:=h;refine⟨q,j.more b,k,fun i hi=>?_⟩;obtain⟨m,p,d,e,f,g⟩:=l i hi;exact⟨m,p,d,e,f,aF.more b _ g⟩
theorem AR (g h:List S3) (es a:List E) (Ae Ak J S L M:Option Addr) (ne nk ce ck i mk N V j d l f:Nat) (w:World) (y:g.length=j) (z:h.length=l) (Q:j≤100000) (R:l≤100000) (D:Rd w w.heap.size 3 L j d (aP g)) (F:Rd w w.heap.size 3 M l f (aP h)) (m:aH g) (r:aH h) (hn:ne≤100000) (hm:i≤100000) (v:es.length=ne) (x:a.length=i) (B:Rd w w.heap.size 4 Ae ne ce (bV es)) (C:Rd w w.heap.size 4 J i N (bV a)) (G:Up aV ic es) (H:Up aV ic a) (t:∀ e∈es,1≤e.n) (u:∀ e∈a,1≤e.n) :
  Calls Tryz.prog 153 #[.agg #[.slice Ae ne ce,.slice Ak nk ck,.slice L j d],.agg #[.slice J i N,.slice S mk V,.slice M l f]] w fun e w'=>∃ A q c,e = .returned (.slice A q c)∧(fu aV ic (kM g h) es a).length=q∧Own w' w.heap.size 97 4 A q c (bV (fu aV ic (kM g h) es a))∧av w w':=by
 obtain⟨W,p,q,HW,HP,HQ,U⟩:=zh w Ae Ak J S L M ne nk ce ck i mk N V j d l f;have b:=U.below;obtain⟨c0,c1,c2,c3,c4,c5,-⟩:=U.cj;go_enter Tryz.func153,Tryz.ntmps153;have HM:=ah (CF g h L M j d l f p q es a Ae J ne i ce N W y z Q R c2 c5 ((D.below b).more b.size) ((F.below b).more b.size) m r v x hn hm ((B.below b).more b.size) ((C.below b).more b.size) G H t u);have O:=ah b;clear y z D F m r B C G H t u v x b;go_wp2_with fail;rw[← HP.o,← HW.o]
 try rw[← HQ.o]
 refine HM.mono ?_;rintro e Z ⟨A,k,c,rfl,X,Y,s⟩;have HR:ai ((fu aV ic (kM g h) es a).length=k∧Own Z w.heap.size 97 4 A k c (bV (fu aV ic (kM g h) es a))∧av w Z):=⟨X,Y.mono O.size,O.trans (s.mono O.size)⟩;clear X Y s;go_wp2_with fail;go_ret;exact⟨A,k,c,rfl,HR⟩
theorem Hw (i:Nat) (g h:List S3) (u:vW i g h) (ks a:List Kd) (Ae Ak U J L M:Option Addr) (ne nk ce ck Z mk X N j d l f:Nat) (w:World) (y:g.length=j) (z:h.length=l) (R:j≤100000) (S:l≤100000) (D:Rd w w.heap.size 3 L j d (aP g)) (F:Rd w w.heap.size 3 M l f (aP h)) (m:aH g) (n:aH h) (hn:nk≤100000) (hm:mk≤100000) (v:ks.length=nk) (x:a.length=mk) (B:yG w w.heap.size Ak nk ck ks) (C:yG w w.heap.size J mk N a) (G:Up dW cK ks) (H:Up dW cK a) (s:∀ k∈ks,au i k.2∧nodes k.2≤100000∧¬k.2=none_∧1≤k.1.size) (t:∀ k∈a,au i k.2∧nodes k.2≤100000∧¬k.2=none_∧1≤k.1.size) :
  Calls Tryz.prog 154 #[.agg #[.slice Ae ne ce,.slice Ak nk ck,.slice L j d],.agg #[.slice U Z X,.slice J mk N,.slice M l f]] w fun e w'=>∃ base A q c O,e = .returned (.slice A q c)∧w.heap.size≤base∧bK w' base 134 A q c (fu dW cK (ng (bf i g h)) ks a) O∧av w w':=by
 obtain⟨W,p,q,HW,HP,HQ,V⟩:=zh w Ae Ak U J L M ne nk ce ck Z mk X N j d l f;have b:=V.below;obtain⟨c0,c1,c2,c3,c4,c5,-⟩:=V.cj;go_enter Tryz.func154,Tryz.ntmps154;have HM:=ah (CG i g h u L M j d l f p q ks a Ak J nk mk ck N W y z R S c2 c5 ((D.below b).more b.size) ((F.below b).more b.size) m n v x hn hm ((B.below b).more b.size) ((C.below b).more b.size) G H s t);have Q:=ah b;clear u y z D F m n B C G H s t v x b;go_wp2_with fail;rw[← HP.o,← HW.o]
 try rw[← HQ.o]
 refine HM.mono ?_;rintro e w2 ⟨A,k,c,O,rfl,Y,r⟩;have HR:ai (w.heap.size≤W.heap.size∧bK w2 W.heap.size 134 A k c (fu dW cK (ng (bf i g h)) ks a) O∧av w w2):=⟨Q.size,Y,Q.trans (r.mono Q.size)⟩;clear Y r;go_wp2_with fail;go_ret;exact⟨_,A,k,c,O,rfl,HR⟩
theorem t_ {w:World} {B:Nat} {es:List E} {ks:List Kd} {Ae Ak:Option Addr} {ne nk ce ck:Nat} (h:aF w B (.mk es ks) ⟨Ae,ne,ce⟩ ⟨Ak,nk,ck⟩):Rd w B 4 Ae ne ce (bV es)∧yG w B Ak nk ck ks:=by
 rw[gL]at h;obtain⟨h1,a,b,e,c,d⟩:=h;exact⟨a,e,c,b,d⟩
theorem zF {d:Nat} {es:List E} {ks:List Kd} (h:au (d+1) (.mk es ks)):∀ e∈es,1≤e.n:=fun e b=>by
 have a:=(h.1 e b).1;unfold Dt.ak at a;have:=jH a;omega
theorem zG {d:Nat} {es:List E} {ks:List Kd} (h:au (d+1) (.mk es ks)) (g:nodes (.mk es ks)≤100000):∀ k∈ks,au d k.2∧nodes k.2≤100000∧¬k.2=none_∧1≤k.1.size:=fun k a=>by
 obtain⟨b,c,f⟩:=h.2.2.2 k a;exact⟨f,aN (dM a) g,fun e=>c (by rw[e];exact⟨rfl,rfl⟩),b.1⟩
theorem y9 (d:Nat) (NF:∀ s t,vW d s t) (s t:List S3):∀ (ta tb:T) (Ae Ak Z Bk Ca Cb:Option Addr) (ne nk ce ck X mk de dk M k N l:Nat) (w:World),RT (d+1) ta→RT (d+1) tb→nodes ta≤100000→nodes tb≤100000→s.length=M→t.length=N→M≤100000→N≤100000→Rd w w.heap.size 3 Ca M k (aP s)→Rd w w.heap.size 3 Cb N l (aP t)→aH s→aH t→aF w w.heap.size ta ⟨Ae,ne,ce⟩ ⟨Ak,nk,ck⟩→aF w w.heap.size tb ⟨Z,X,de⟩ ⟨Bk,mk,dk⟩ →
  Calls Tryz.prog 124 #[.agg #[.slice Ae ne ce,.slice Ak nk ck,.slice Ca M k],.agg #[.slice Z X de,.slice Bk mk dk,.slice Cb N l]] w (ul (bf (d+1) s t ta tb) w):=by
 intro ta tb Ae Ak Z Bk Ca Cb ne nk ce ck X mk de dk M k N l w G H U V NH NI NM NN NT NU NC NE D F;obtain⟨es,ks⟩:=ta;obtain⟨m,y⟩:=tb;have Oa:=ah NF;have x:=ah (And.intro NH (And.intro NI (And.intro NT (And.intro NU (And.intro NC NE)))));have N9:=ah G.succ;have N_:=ah H.succ;have A:=ah (bn D);have B:=ah (bn F);have NY:=ah (t_ D).1;have NZ:=ah (t_ F).1;have Ob:=ah (t_ D).2;have Oc:=ah (t_ F).2;have HG:=ah (And.intro (zF G.succ) (And.intro (zF H.succ) (And.intro (zG G.succ U) (zG H.succ V))))
 have NP:ne≤100000:=by have:=bE es ks;have:=A.1;omega
 have NQ:nk≤100000:=by have:=bE es ks;have:=A.2;omega
 have NJ:X≤100000:=by have:=bE m y;have:=B.1;omega
 have NK:mk≤100000:=by have:=bE m y;have:=B.2;omega
 clear NF NH NI NT NU NC NE D F G H U V;obtain⟨W0,p,q,NA,HP,HQ,HK⟩:=zh w Ae Ak Z Bk Ca Cb ne nk ce ck X mk de dk M k N l;obtain⟨r,hr⟩:∃ z,z=p+1+1:=⟨_,rfl⟩;obtain⟨W,hW⟩:∃ v,v=((w.alloc (.cells #[.slice Ae ne ce,.slice Ak nk ck,.slice Ca M k] 42)).alloc (.cells #[.slice Z X de,.slice Bk mk dk,.slice Cb N l] 42)).alloc (.cells #[.slice none 0 0,.slice none 0 0] 35):=⟨_,rfl⟩
 have Nz:av W0 W:=by rw[hW,← NA.o];exact Dt.ay _ _ _
 have Oj:W0.heap.size=r:=by rw[NA.o,hr,HP.o];simp
 have z0:W.cell? ⟨r,0,none⟩=some (.slice none 0 0):=by rw[hW,hr,HP.o];go_simp
 have z1:W.cell? ⟨r,1,none⟩=some (.slice none 0 0):=by rw[hW,hr,HP.o];go_simp
 have c:=ah ((HK.later Nz).drew);have i:=ah ((((Kept.a_ (HK.below.trans (Nz.mono HK.below.size))).af z1).af z0).drew);have g:ai (aA r W.drew):=(show aA r W from⟨aL W _ z0,fun j=>by rw[hW,hr,HP.o];go_simp⟩).drew
 have J:w.heap.size≤r:=by have:=HK.below.size;omega
 have hpr:p<r:=by omega
 have hqr:q<r:=by have:=HQ.o;omega
 have HR:=ah hr;have HW:=ah hW;clear HK Nz Oj hr hW z0 z1;go_enter Tryz.func124,Tryz.ntmps124;go_wp2_with fail;rw[← HW.o,← HP.o,← HR.o]
 try rw[← HQ.o]
 refine Rg (S:=eB _) c.cj (fun f=>?_);obtain⟨w1,NV⟩:∃ v,v=W.drew:=⟨_,rfl⟩;rw[← NV]at f c i g ⊢;clear NV;refine T4 0 5 1 6 3 8 4 9 ?_;refine Tc 2 (fun K R=>?_);go_simp;(go_at_call 153;refine (AR s t es m Ae Ak Z Bk Ca Cb ne nk ce ck X mk de dk M k N l w1 x.1 x.2.1 NM NN ((x.2.2.1.below c.below).more c.below.size) ((x.2.2.2.1.below c.below).more c.below.size) x.2.2.2.2.1 x.2.2.2.2.2 NP NJ A.1 B.1 ((NY.below c.below).more c.below.size) ((NZ.below c.below).more c.below.size) (KA N9.2.1) (KA N_.2.1) HG.1 HG.2.1).mono ?_);rintro e v1 ⟨O,L,Q,rfl,NG,NR,Ny⟩;have Oi:r<w1.heap.size:=g.1
 have N7:ai ((fu aV ic (kM s t) es m).length=L∧RO v1 (fun b=>w1.heap.size≤b) 4 O L Q (bV (fu aV ic (kM s t) es m))):=⟨NG,(RO.b_ NR).mono fun b hb _=>hb.1⟩;obtain⟨c,i,g⟩:=kX Ny c i g;have Oe:ai (w1.heap.size≤v1.heap.size):=Ny.size;clear NG NR Ny;clear f;refine Th R ?_ (fun f=>?_)
 ·exact c.cj
 clear R K;refine Tc 5 (fun K R=>?_);go_simp;(go_at_call 154;refine (Hw d s t (Oa.o s t) ks y Ae Ak Z Bk Ca Cb ne nk ce ck X mk de dk M k N l v1 x.1 x.2.1 NM NN ((x.2.2.1.below c.below).more c.below.size) ((x.2.2.2.1.below c.below).more c.below.size) x.2.2.2.2.1 x.2.2.2.2.2 NQ NK A.2 B.2 (Ob.below c.below |>.more c.below.size) (Oc.below c.below |>.more c.below.size) N9.2.2.1 N_.2.2.1 HG.2.2.1 HG.2.2.2).mono ?_);rintro e v2 ⟨bs,Y,k2,d2,kr,rfl,Og,NS,C⟩;have Od:ai (aX v2 (fun b=>w1.heap.size≤b) (bf (d+1) s t (.mk es ks) (.mk m y)) ⟨O,L,Q⟩ ⟨Y,k2,d2⟩):=NS.tree (fun b hb _=>by have:=Oe.o;omega) N7.1 (N7.2.keep C.size fun b _ Oh=>C.block b Oh);obtain⟨c,i,g⟩:=kX C c i g
 have z0:=i.c0;have z1:=i.c1;have m0:=g.2 0;have m1:=g.2 1;clear NS C Og;clear f;refine Th R ?_ (fun f=>?_)
 ·exact c.cj
 clear R K;refine Tk 6 11 ?_;refine Tc 7 (fun K R=>?_);go_simp;refine Th R ?_ (fun n=>?_)
 ·(try dsimp only)
  have h9:=(c.set (a:=⟨r,0,none⟩) J (by simp;omega) (.slice O L Q)).set (a:=⟨r,1,none⟩) J (by simp;omega) (.slice Y k2 d2);exact h9.cj
 clear R K f;have f:=n;clear n;refine Td ?_;clear f;obtain⟨W9,u⟩:∃ W,W=(v2.setCell ⟨r,0,none⟩ (.slice O L Q)).setCell ⟨r,1,none⟩ (.slice Y k2 d2):=⟨_,rfl⟩
 have NW:ai (av w W9):=by
  unfold ai;rw[u];exact (c.below.setCell (p:=⟨r,0,none⟩) J _).setCell (p:=⟨r,1,none⟩) J _
 have N8:ai (aX W9 (fun b=>w.heap.size≤b) (bf (d+1) s t (.mk es ks) (.mk m y)) ⟨O,L,Q⟩ ⟨Y,k2,d2⟩):=by
  unfold ai;rw[u];exact aX.mono (fun b hb _=>by have:=Oi;omega) _ (aX.keep (by simp[World.setCell]) (fun b hb _=>(cZ _ ⟨r,1,none⟩ _ b (fun e=>by have h:b=r:=e;omega)).trans (cZ _ ⟨r,0,none⟩ _ b (fun e=>by have h:b=r:=e;omega))) _ Od)
 have l0:W9.cell? ⟨r,0,none⟩=some (.slice O L Q):=by rw[u];go_simp
 have l1:W9.cell? ⟨r,1,none⟩=some (.slice Y k2 d2):=by rw[u];go_simp
 clear z0 z1 m0 m1;rw[← u];clear u;go_wp2_with fail;refine bodyPost_ret (v:=.agg #[.slice O L Q,.slice Y k2 d2]) (by simp[results,Tryz.results124,go_sem,l0,l1]) rfl ⟨O,L,Q,Y,k2,d2,rfl,N8,NW⟩
theorem DV:∀ (d:Nat) (c f:List S3),vW d c f
 | 0,c,f=>by
  intro z A Ae Ak B C D F ne nk ce ck J mk G H L g M i w a b s
  have e:∀ t:T,RT 0 t→t=none_:=fun t h=>by
   rcases h with h | h
   ·exact h.elim
   ·exact h
  exact absurd ⟨e z a,e A b⟩ s
 | d+1,c,f=>by
  intro z A Ae Ak B C D F ne nk ce ck J mk G H L g M i w a b _ j k n p q r u v l m x y;exact y9 d (fun c f=>DV d c f) c f z A Ae Ak B C D F ne nk ce ck J mk G H L g M i w a b j k n p q r u v l m x y
end Cs
namespace Cs
open Tr Cx Sp Rw Classical
theorem Calls.some {P:Program} {f:FuncId} {args:Array Value} {w:World} {R:Ending→World→Prop} (h:Calls P f args w R):∃ e w',R e w':=by
 obtain⟨e,w',_,a,_⟩:=h [];exact⟨e,w',a⟩
theorem Ji {l:List S3} (a:aH l) (h:∀ d n,ny d→aD l d n=false):l=[]:=KU a qj fun d n hd=>by rw[h d n hd];rfl
theorem Fp {t:T} {e u l:List S3} (p:ak 5 t=true) (v:aH e) (hu:pG (dl t) u) (i:iW EQ u e l):bB (t,e)=decide (l=[]):=by
 have c:RK (t,e)↔l=[]:=by
  constructor
  ·intro h
   refine Ji i.right fun d n hd=>?_;rw[i.has d n hd];unfold EQ
   cases g:aD u d n with
   | false=>rfl
   | true=>
    have b:=(hu.has d n hd).1 g;unfold dl at b;obtain⟨x,j,k⟩:=dH.1 b;have f:=h.has x j;have q:x.2.a=d:=congrArg Prod.fst k;have r:x.2.n=n:=congrArg Prod.snd k;rw[q,r]at f;rw[show aD e d n=true from f];rfl
  ·rintro rfl
   refine⟨aO.1 p,v,fun x j=>?_⟩;have m:(x.2.a,x.2.n)∈dl t:=dH.2 ⟨x,j,rfl⟩;have hd:=(lK (mH (aO.1 p) _ m)).1;have g:=(hu.has x.2.a x.2.n hd).2 m;have b:=i.has x.2.a x.2.n hd;rw[g]at b;have f:aD [] x.2.a x.2.n=false:=rfl;rw[f]at b;show aD e x.2.a x.2.n=true
   cases s:aD e x.2.a x.2.n with
   | true=>rfl
   | false=>rw[s]at b;cases b
 unfold bB
 by_cases h:l=[]
 ·rw[aJ h]
  exact aJ (c.2 h)
 ·rw[aM h]
  exact aM fun b=>h (c.1 b)
theorem Dv {t:T} {b:List S3} (h:ak 5 t=false):bB (t,b)=false:=aM fun c=>by
 have a:=aO.2 c.tree;rw[h]at a
 cases a
theorem Du {t:T} {a:List S3} (h:¬aH a):bB (t,a)=false:=aM fun b=>h b.ctx
theorem MH (w:World) (Ae Ak b:Option Addr) (ne nk ce ck c a:Nat):∃ (W:World) (p:Nat),ai (W=w.alloc (.cells #[.slice Ae ne ce,.slice Ak nk ck,.slice b c a] 42))∧ai (p=w.heap.size)∧ai (Kept [(⟨p,0,none⟩,.slice Ae ne ce),(⟨p,1,none⟩,.slice Ak nk ck),(⟨p,2,none⟩,.slice b c a)] w W):=by
 refine⟨_,_,rfl,rfl,?_⟩;have d:=Kept.a_ (Dt.ay w #[.slice Ae ne ce,.slice Ak nk ck,.slice b c a] 42)
 refine ((d.af ?_).af ?_).af ?_ <;> go_simp
set_option maxRecDepth 100000 in
set_option maxHeartbeats 4000000 in
theorem jg (t:T) (m:List S3) (Ae Ak r:Option Addr) (ne nk ce ck n b:Nat) (w:World) (S:nodes t≤1000) (R:m.length=n) (hna:n≤1000) (U:aF w w.heap.size t ⟨Ae,ne,ce⟩ ⟨Ak,nk,ck⟩) (h:Rd w w.heap.size 3 r n b (aP m)) :
  Calls Tryz.prog 70 #[.agg #[.slice Ae ne ce,.slice Ak nk ck,.slice r n b]] w fun e w'=>e = .returned (.bool (bB (t,m)))∧av w w':=by
 obtain⟨z,O⟩:∃ z,bB (t,m)=z:=⟨_,rfl⟩;rw[O];have L:=ah O;have H:=ah (And.intro U (And.intro R h));have v:=ah S;clear O U R h S;obtain⟨W,p,Z,X,s⟩:=MH w Ae Ak r ne nk ce ck n b;have g:=s.below;obtain⟨c0,c1,c2,-⟩:=s.cj;have B:=ah (aF.more g.size _ (aF.below H.1 g));clear g;go_enter Tryz.func70,Tryz.ntmps70;go_wp2_with fail;rw[← X.o,← Z.o]
 cases g:ak 5 t with
 | false=>
  obtain rfl:z=false:=by rw[← L.o];exact Dv g
  refine (z8 t Ae Ak ne nk ce ck W g (LenT.few (by have:=v.o;omega)) B).mono ?_;rintro e Q ⟨rfl,d⟩;have J:=ah (s.below.trans (d.mono s.below.size));clear d c0 c1 c2 g;go_wp2_with fail;go_ret;exact⟨rfl,J⟩
 | true=>
  refine (uw t Ae Ak ne nk ce ck W g (LenT.few (by have:=v.o;omega)) v B).mono ?_;rintro e Q ⟨u,q,A,c,rfl,D,x,hq,C,d⟩;have a:=ah (s.later d);have i:=(H.2.2.below a.below).more a.below.size;have Y:=ah g;clear d c0 c1 c2 g;have c2:=a.c2
  by_cases h:aH m
  ·have k:=ah (JF u m q n A r c b Q D H.2.1 (by have:=v.o;omega) (by omega) C i x.right h)
   have V:=ah h;clear i h;go_wp2_with fail;refine k.mono ?_;rintro e w2 ⟨l,F,rfl,f⟩;have j:=ah (a.below.trans (f.mono a.below.size));obtain⟨y,N⟩:∃ y,decide (l=[])=y:=⟨_,rfl⟩;rw[N]
   have G:z=y:=by rw[← L.o,← N];exact Fp Y V x F
   have M:=ah G;clear F f N G;go_wp2_with fail;go_ret;exact⟨by rw[M.o];try rfl,j⟩
  ·obtain rfl:z=false:=by rw[← L.o];exact Du h
   have k:=ah (JG u m q n A r c b Q D H.2.1 (by have:=v.o;omega) (by omega) C i (by rw[kC h,Bool.and_false]));clear i h;go_wp2_with fail;refine k.mono ?_;rintro e w2 ⟨rfl,f⟩;have j:=ah (a.below.trans (f.mono a.below.size));clear f;go_wp2_with fail;go_ret;exact⟨rfl,j⟩
end Cs
end
section
namespace Cs
open Tr Cx Sp Rw Classical
theorem Mi {a n:Int} (h:Dt.ak a n=true):ny a:=(lK (x:=(a,n)) h).1
def eZ (a n:Int):List S3:=[(a,n,n)]
theorem zU (a n d:Int):Cx.part (eZ a n) d=if a=d then [(n,n)]else []:=by
 unfold eZ;rw[eu,tu]
theorem nJ (a n d m:Int):aD (eZ a n) d m=decide (d=a∧m=n):=by
 unfold aD;rw[zU]
 by_cases h:a=d
 ·rw[if_pos h,di,fT,Bool.or_false]
  by_cases c:m=n
  ·rw[aJ (by omega),aJ ⟨h.symm,c⟩]
  ·rw[aM (by omega),aM fun b=>c b.2]
 ·rw[if_neg h,fT,aM fun b=>h b.1.symm]
theorem iL {a n:Int} (h:Dt.ak a n=true):aH (eZ a n):=by
 obtain⟨b,c,e⟩:=Cx.lK (x:=(a,n)) h;refine⟨⟨b.1,b.2,trivial⟩,fun d _=>?_⟩;rw[zU]
 split
 ·exact⟨c,Int.le_refl _,e,trivial⟩
 ·trivial
theorem Gx {a n:Int} (h:Dt.ak a n=true):pG [(a,n)] (eZ a n):=⟨iL h,fun d m _=>by
 rw[nJ,eG,eX];constructor
 ·rintro⟨rfl,rfl⟩;rfl
 ·intro h;injection h with h1 h2;exact⟨h1,h2⟩⟩
noncomputable def aY (t:T) (a n:Int):Bool:=Tr.ak 5 t&&Dt.ak a n && !decide ((a,n)∈dl t)
theorem dD {t:T} {a n:Int} : aY t a n=true↔au 5 t∧Dt.ak a n=true∧(a,n)∉dl t:=by
 unfold aY;rw[Bool.and_eq_true,Bool.and_eq_true,Tr.aO,Bool.not_eq_true',Ea,and_assoc]
theorem E_ {t:T} {u:List S3} (c:au 5 t) (hu:pG (dl t) u) (a n:Int):aD u a n=decide ((a,n)∈dl t):=by
 by_cases hd:ny a
 ·by_cases h:(a,n)∈dl t
  ·rw[(hu.has a n hd).2 h,aJ h]
  ·rw[aM h]
   cases b:aD u a n with
   | false=>rfl
   | true=>exact absurd ((hu.has a n hd).1 b) h
 ·rw[lq hu.right hd,aM fun h=>hd (lK (x:=(a,n)) (mH c _ h)).1]
theorem G_ {u v:List S3} {a n:Int} (hu:aH u) (hd:Dt.ak a n=true) (b:iW l6 u (eZ a n) v) (d m:Int):aD v d m=(aD u d m||decide (d=a∧m=n)):=by
 by_cases h:ny d
 ·rw[b.has d m h,nJ];rfl
 ·rw[lq b.right h,lq hu h,aM fun c=>h (by rw[c.1];exact Mi hd)];rfl
theorem qy {u v:List S3} {a n:Int} (hu:aH u) (hd:Dt.ak a n=true) (b:iW l6 u (eZ a n) v):aD v a n=true:=by
 rw[G_ hu hd b,aJ ⟨rfl,rfl⟩,Bool.or_true]
theorem jX {d:Nat} {e:E} (a:dR e):au (d+1) (cu e):=⟨fun x b=>by
 rw[eX.1 b];exact a,by simp,by simp,by simp⟩
theorem iQ (e:E):nodes (cu e)=1:=by unfold cu;rw[bJ];rfl
theorem RK.Ml {k:K} (h:RK k) (p:List ByteArray) (q:Int×Int) (o:Option (Option E)) (b:Cs.st k p q=o):aU k.1 p q=o.join:=by
 rw[← b]
 cases a:aD k.2 q.1 q.2 with
 | true=>rw[iw a];rfl
 | false=>rw[ja a,h.unknown a];rfl
end Cs
namespace Cs
open Tr Cx Sp Rw Classical
def g_ (l:List E):Int:=(l.map fun e=>e.v).sum
theorem yw:g_ []=0:=rfl
theorem jZ (e:E) (l:List E):g_ (e::l)=e.v+g_ l:=by unfold g_;rw[List.map_cons,om]
theorem Kr (a b:List E):g_ (a++b)=g_ a+g_ b:=by unfold g_;rw[mD,List.sum_append_int]
theorem Iy {l:List E} {k:Nat} (h:k<l.length):g_ (l.take (k+1))=g_ (l.take k)+l[k].v:=by
 rw[dZ h,Kr,jZ,yw,Int.add_zero]
theorem DR {m:Int} : ∀ {l:List E},(∀ e∈l,-m≤e.v∧e.v≤m) → -(m*l.length)≤g_ l∧g_ l≤m*l.length
 | [],_=>by simp[yw]
 | e::l,h=>by
  have h1:=h e (fA);have h2:=DR (l:=l) fun x a=>h x (gY _ a);rw[jZ,lY]
  have h3:m*((l.length+1:Nat):Int)=m*l.length+m:=by rw[Int.natCast_add,Int.mul_add];simp
  omega
noncomputable def sH (e:E):List E→List E
 | []=>[e]
 | x::l=>if ic (aV e) (aV x)then e::x::l else x::sH e l
theorem nK (e:E):∀ (l:List E) (x:E),x∈sH e l↔x=e∨x∈l
 | [],x=>by simp[sH]
 | y::l,x=>by
  unfold sH
  split
  ·simp
  ·rw[jJ,nK e l,jJ]
   constructor
   ·rintro (h | h | h)
    ·exact .inr (.inl h)
    ·exact .inl h
    ·exact .inr (.inr h)
   ·rintro (h | h | h)
    ·exact .inr (.inl h)
    ·exact .inl h
    ·exact .inr (.inr h)
theorem Cu (e:E):∀ l:List E,g_ (sH e l)=g_ l+e.v
 | []=>by unfold sH;rw[jZ,yw];omega
 | x::l=>by
  unfold sH
  split
  ·rw[jZ,jZ];omega
  ·rw[jZ,Cu e l,jZ];omega
theorem Ct (e:E):∀ l:List E,(sH e l).length=l.length+1
 | []=>rfl
 | x::l=>by
  unfold sH
  split
  ·rfl
  ·rw[lY,Ct e l,lY]
theorem u7 (e:E):∀ l:List E,l.Pairwise (fun x y=>ic (aV x) (aV y))→(∀ x∈l,aV x≠aV e)→(sH e l).Pairwise fun x y=>ic (aV x) (aV y)
 | [],_,_=>by simp[sH]
 | x::l,h,hn=>by
  obtain⟨d,f⟩:=fq.1 h;unfold sH
  split
  ·rename_i a
   refine fq.2 ⟨fun y b=>?_,h⟩
   rcases jJ.1 b with rfl | b
   ·exact a
   ·exact fV.tr _ _ _ a (d y b)
  ·rename_i a
   have c:ic (aV x) (aV e):=by
    rcases fV.tri (aV e) (aV x)with h3 | h3 | h3
    ·exact absurd h3 a
    ·exact absurd h3.symm (hn x (fA))
    ·exact h3
   refine fq.2 ⟨fun y b=>?_,u7 e l f fun y b=>hn y (gY _ b)⟩
   rcases (nK e l y).1 b with rfl | b
   ·exact c
   ·exact d y b
noncomputable def Md (t:T) (e:E):T:=.mk (sH e t.es) t.ks
theorem mP {d:Nat} {t:T} (h:au (d+1) t):t.es.Pairwise fun x y=>ic (aV x) (aV y):=by
 cases t
 exact KA h.2.1
theorem Gs {t:T} {e:E} (c:∀ p,aU t p (aV e)=none) {d:Nat} (h:au (d+1) t):∀ x∈t.es,aV x≠aV e:=fun x f b=>by
 have a:aU t [] (aV x)=some x:=(iE (key:=aV) fV (mP h)).2 ⟨f,rfl⟩;rw[b,c]at a
 cases a
theorem Ik {t:T} {e:E} {d:Nat} (h:au (d+1) t) (f:dR e) (i:∀ p,aU t p (aV e)=none):au (d+1) (Md t e):=by
 have g:=Gs i h;have j:=u7 e t.es (mP h) g
 cases t with
 | mk es ks=>
  refine⟨fun x b=>?_,?_,h.2.2⟩
  ·rcases (nK e es x).1 b with rfl | b
   ·exact f
   ·exact h.1 x b
  ·exact j.imp fun {x y} hxy=>(wF.2 (by
    have c:ic (x.a,x.n) (y.a,y.n):=hxy;unfold ic at c
    exact c))
theorem GY {t:T} {e:E} {d:Nat} (h:au (d+1) t) (m:∀ p,aU t p (aV e)=none) (p:List ByteArray) (q:Int×Int):aU (Md t e) p q=if p=[]∧aV e=q then some e else aU t p q:=by
 cases p with
 | nil=>
  show look aV (sH e t.es) q=if _ then _ else look aV t.es q
  have j:=u7 e t.es (mP h) (Gs m h)
  by_cases b:aV e=q
  ·rw[if_pos ⟨rfl,b⟩]
   exact (iE (key:=aV) fV j).2 ⟨(nK _ _ _).2 (.inl rfl),b⟩
  ·rw[if_neg fun a=>b a.2]
   cases f:look aV t.es q with
   | some x=>
    obtain⟨a,l⟩:=(iE (key:=aV) fV (mP h)).1 f;exact (iE (key:=aV) fV j).2 ⟨(nK _ _ _).2 (.inr a),l⟩
   | none=>
    refine iP fun x c i=>?_
    rcases (nK _ _ _).1 c with rfl | c
    ·exact b i
    ·have g:=(iE (key:=aV) fV (mP h)).2 ⟨c,i⟩
     rw[f]at g
     cases g
 | cons k p=>
  rw[if_neg fun a=>by cases a.1];rfl
theorem Jc {c r:K} {e:E} (g:RK c) (j:dR e) (l:aD c.2 e.a e.n=false) (h:l8 c (cu e,eZ e.a e.n) r):r.1=Md c.1 e:=by
 have b:∀ p,aU c.1 p (aV e)=none:=fun p=>g.unknown (q:=aV e) l;have m:RK (cu e,eZ e.a e.n):=zY (jX j) (iL j.1) (by rw[nJ];exact aJ ⟨rfl,rfl⟩);refine qw (d:=5) (.inl (h.right g m).tree) (.inl (Ik g.tree j b)) fun p q=>?_;rw[h.Cj g m,GY g.tree b,uz]
 by_cases f:p=[]∧aV e=q
 ·obtain⟨rfl,rfl⟩:=f
  rw[if_pos ⟨rfl,rfl⟩,if_pos ⟨rfl,rfl⟩,b,nY,if_neg];show ¬aD c.2 e.a e.n=true;rw[l];simp
 ·rw[if_neg f,if_neg f]
  cases i:aU c.1 p q with
  | none=>rfl
  | some y=>
   rw[qo,if_neg];have k:=fC i;show ¬aD (eZ e.a e.n) y.a y.n=true;rw[nJ,eG];rintro⟨s,t⟩
   have u:aV e=q:=by rw[← k];unfold aV;rw[s,t]
   rw[← u,b]at i
   cases i
theorem KQ {c r:K} {e:E} (b:RK c) (d:dR e) (f:aD c.2 e.a e.n=false) (h:l8 c (cu e,eZ e.a e.n) r):g_ r.1.es=g_ c.1.es+e.v∧r.1.es.length=c.1.es.length+1:=by
 rw[Jc b d f h];exact⟨Cu _ _,Ct _ _⟩
theorem H_ {e:E} (b:dR e):RK (cu e,eZ e.a e.n):=zY (jX b) (iL b.1) (by rw[nJ];exact aJ ⟨rfl,rfl⟩)
end Cs
namespace Cs
open Tr Cx Sp Rw Classical
def yP (t:T):List (Int×Int):=t.es.map aV
theorem wJ (t:T):dl (.mk t.es [])=yP t:=by
 unfold dl yP;rw[dL];simp[below];exact fun _ _=>rfl
theorem uU {d:Nat} {t:T} (h:au (d+1) t):au (d+1) (.mk t.es []):=by
 cases t
 exact⟨h.1,h.2.1,by simp,by simp⟩
theorem AU {d:Nat} {t:T} (h:au (d+1) t) {x:E} : x∈t.es↔aU t [] (aV x)=some x:=by
 rw[show aU t [] (aV x)=look aV t.es (aV x) from rfl,iE fV (mP h)];exact⟨fun a=>⟨a,rfl⟩,fun a=>a.1⟩
theorem Gy {d:Nat} {t:T} (h:au (d+1) t) {q:Int×Int} : q∈yP t↔∃ e,aU t [] q=some e:=by
 constructor
 ·intro c
  obtain⟨x,f,rfl⟩:=dH.1 c;exact⟨x,(AU h).1 f⟩
 ·rintro⟨e,a⟩
  have b:=fC a;exact dH.2 ⟨e,(AU h).2 (by rw[b];exact a),b⟩
theorem Lj {d:Nat} {t:T} (h:au (d+1) t) {q:Int×Int} (f:q∈yP t):q∈dl t:=by
 obtain⟨e,a⟩:=(Gy h).1 f;have b:=fC a;have c:([],e)∈leaves t:=(gq h [] e).2 (by rw[b];exact a);exact dH.2 ⟨([],e),c,b⟩
end Cs
namespace Cs
open Tr Cx Sp Rw Classical
def jd (t:T):List ByteArray:=(t.ks.filter fun k=>decide (0<k.2.es.length)).map fun k=>k.1
theorem sJ {ks:List Kd} (h:ks.Pairwise fun x y=>cK x.1 y.1) {x:Kd} (a:x∈ks):aR ks x.1=x.2:=by
 rw[jf,show look dW ks x.1=some x from (iE (key:=dW) aQ h).2 ⟨a,rfl⟩];rfl
theorem mO {d:Nat} {t:T} (h:au (d+1) t):t.ks.Pairwise fun x y=>cK x.1 y.1:=by
 cases t
 exact h.2.2.1
theorem nD (t:T) (k:ByteArray) (p:List ByteArray) (q:Int×Int):aU t (k::p) q=aU (aR t.ks k) p q:=rfl
theorem Ke {l m:List ByteArray} (c:l.Pairwise cK) (d:m.Pairwise cK) (h:∀ x,x∈l↔x∈m):l=m:=by
 refine BK (key:=id) aQ c d fun k=>?_
 by_cases a:k∈l
 ·rw[show look id l k=some k from (iE (key:=id) aQ c).2 ⟨a,rfl⟩,show look id m k=some k from (iE (key:=id) aQ d).2 ⟨(h k).1 a,rfl⟩]
 ·rw[show look id l k=none from iP fun x b e=>a (by rw[← show x=k from e];exact b),show look id m k=none from iP fun x b e=>a (by rw[← show x=k from e];exact (h x).2 b)]
structure lF (l m:List ByteArray):Prop where
 rise:m.Pairwise cK
 mem:∀ x,x∈m↔x∈l
theorem lF.eq {l m b:List ByteArray} (h:lF l m) (a:lF l b):m=b:=Ke h.rise a.rise fun x=>(h.mem x).trans (a.mem x).symm
theorem Dw {e:E} {s:ByteArray} (a:dR e) (c:iV s):au 5 (bF (cu e) [s]):=by
 have h:=au.wrap (d:=1) (jX (d:=0) a) (fun h=>by cases h.1) (p:=[s]) (fun k b=>by rw[eX.1 b];exact c);exact au.more (au.more (au.more h))
theorem Mk {d:Nat} {t:T} (h:au d t) {p:List ByteArray} {q:Int×Int} {e:E} (a:aU t p q=some e):q∈dl t:=by
 have b:=fC a;have c:(p,e)∈leaves t:=(gq h p e).2 (by rw[b];exact a);exact dH.2 ⟨(p,e),c,b⟩
theorem Mj {d:Nat} {t:T} (h:au d t) {q:Int×Int} (a:q∈dl t):∃ p e,aU t p q=some e:=by
 obtain⟨x,b,rfl⟩:=dH.1 a;exact⟨x.1,x.2,(gq h x.1 x.2).1 b⟩
theorem nN {t:T} (h:au 5 t) (k:ByteArray):au 5 (aR t.ks k):=by
 cases t
 exact au.yH (d:=4) h k
theorem Lb {t:T} (a:au 5 t) {s:ByteArray} {q:Int×Int} (h:q∈dl (aR t.ks s)):q∈dl t:=by
 obtain⟨p,e,b⟩:=Mj (nN a s) h;exact Mk a (p:=s::p) (e:=e) b
end Cs
namespace Cs
open Tr Cx Sp Rw Classical
structure jK where
 path:List ByteArray
 act:Int
 s:ByteArray
 n:Int
def d_ (k:ByteArray):Nat:=match k.data.toList with
 | 102::_=>1
 | 115::_=>2
 | 99::_=>3
 | 114::_=>4
 | 109::_=>5
 | _=>0
def bD (p:List ByteArray):Nat:=match p.getLast? with
 | some k=>d_ k
 | none=>0
structure f_ (p:List ByteArray):Prop where
 some:p≠[]
 few:p.length≤3
 each:∀ k∈p,k.size≤30∧d_ k≠0
 maps:∀ (i:Nat) (h:i<p.length),i+1<p.length→d_ p[i]=5
def dI (a:Int) (k:Nat):Prop:=(a=1∨a=2)∧k=1∨(a=3∨a=4)∧k=2∨a=5∧k=3∨a=6∧k=4∨a=7
structure jM (o:jK):Prop where
 path:f_ o.path
 act:dI o.act (bD o.path)
 key:(o.act=3∨o.act=4)→iV o.s
 text:o.act=6→o.s.size≤30
 none_:¬(o.act=3∨o.act=4∨o.act=6)→o.s=⟨#[]⟩
 num:o.act=5 → -1099511627776≤o.n∧o.n≤1099511627776
 zero:o.act≠5→o.n=0
def brings (a:Int):Prop:=a=1∨a=3∨a=5∨a=6
def bL (o:jK):List ByteArray:=if o.act=3 then o.path++[o.s]else o.path
def oU (x e:jK):Prop:=x.path <+: e.path∧(x.act=7∨(e.path.length=x.path.length∧((x.act=1∨x.act=2)∧e.act=1∨(x.act=3∨x.act=4)∧e.act=3∧e.s=x.s∨x.act=6∧e.act=6)))
def BF (o:jK) (p:List ByteArray):Prop:=(o.act=1∨o.act=2∨o.act=7)∧o.path <+: p∨(o.act=3∨o.act=4)∧o.path++[o.s] <+: p∨o.act=6∧p=o.path
theorem EK (a:List ByteArray) (k:ByteArray):bD (a++[k])=d_ k:=by
 unfold bD;rw[List.getLast?_append];simp
theorem qf {a b:List ByteArray} (j:f_ b) (i:a≠[]) (h:a <+: b) (f:a≠b):bD a=5:=by
 obtain⟨c,rfl⟩:=h;have l:c≠[]:=fun e=>f (by rw[e,kR]);have hl:=List.length_pos_iff.2 l;obtain⟨d,k,rfl⟩:∃ d k,a=d++[k]:=⟨a.dropLast,a.getLast i,(List.dropLast_concat_getLast i).symm⟩;rw[EK];have g:=j.maps d.length (by simp) (by simp;omega);rw[BL (by simp),BM (bG)]at g
 simpa using g
theorem mM {p:List ByteArray} {e:jK} (d:f_ p) (c:jM e):p <+: bL e↔p <+: e.path:=by
 unfold bL
 split
 ·rename_i h3
  rw[List.prefix_concat_iff];constructor
  ·rintro (h | h)
   ·exfalso
    have h1:=qf d c.path.some (a:=e.path) (by rw[h];exact List.prefix_append _ _) (by rw[h];intro b;have:=congrArg List.length b;simp at this);have b:=c.act;unfold dI at b;omega
   ·exact h
  ·exact .inr
 ·exact Iff.rfl
theorem pre_eq {a b:List ByteArray} (h:a <+: b) (c:b.length=a.length):a=b:=h.eq_of_length c.symm
theorem DW {x e:jK} (k:jM x) (j:jM e) (p:brings e.act):BF x (bL e)↔oU x e:=by
 have l:=k.act;have m:=j.act;unfold dI at l m;unfold brings at p
 -- one path goes on from the other one, both right
 have g:x.path <+: e.path→x.path=e.path∨bD x.path=5:=fun h=>by
  by_cases b:x.path=e.path
  ·exact .inl b
  ·exact .inr (qf j.path k.path.some h b)
 unfold BF oU;constructor
 ·rintro (⟨c,b⟩ | ⟨c,b⟩ | ⟨c,b⟩)
  ·have d:=(mM k.path j).1 b
   refine⟨d,?_⟩
   rcases c with c | c | c
   ·rcases g d with f | f
    ·rw[f]at l ⊢
     exact .inr ⟨rfl,.inl ⟨.inl c,by omega⟩⟩
    ·omega
   ·rcases g d with f | f
    ·rw[f]at l ⊢
     exact .inr ⟨rfl,.inl ⟨.inr c,by omega⟩⟩
    ·omega
   ·exact .inl c
  ·have no:x.path++[x.s] <+: e.path→False:=fun h=>by
    have d:x.path <+: e.path:=(List.prefix_append _ _).trans h
    rcases g d with f | f
    ·rw[f]at h
     have:=h.length_le
     simp at this
     omega
    ·omega
   unfold bL at b
   split at b
   ·rename_i d
    rw[List.prefix_concat_iff]at b
    rcases b with b | b
    ·obtain⟨f,i⟩:=List.append_inj' b rfl
     injection i with i;rw[f];exact⟨List.prefix_refl _,.inr ⟨rfl,.inr (.inl ⟨c,d,i.symm⟩)⟩⟩
    ·exact absurd b no
   ·exact absurd b no
  ·unfold bL at b
   split at b
   ·exfalso
    have d:=qf k.path j.path.some (a:=e.path) (by rw[← b];exact List.prefix_append _ _) (by rw[← b];intro f;have:=congrArg List.length f;simp at this);omega
   ·rw[b]at m ⊢
    exact⟨List.prefix_refl _,.inr ⟨rfl,.inr (.inr ⟨c,by omega⟩)⟩⟩
 ·rintro⟨c,b | ⟨b,d⟩⟩
  ·exact .inl ⟨.inr (.inr b),(mM k.path j).2 c⟩
  ·have f:=pre_eq c b
   rcases d with ⟨d,_⟩ | ⟨d,i,n⟩ | ⟨d,i⟩
   ·exact .inl ⟨by omega,(mM k.path j).2 c⟩
   ·refine .inr (.inl ⟨d,?_⟩)
    unfold bL;rw[if_pos i,f,n];exact List.prefix_refl _
   ·refine .inr (.inr ⟨d,?_⟩)
    unfold bL;rw[if_neg (by omega),f]
theorem gU (t:T) (p a:List ByteArray) (q:Int×Int):aU (aI t p) a q=aU t (p++a) q:=by
 induction p generalizing t with
 | nil=>rfl
 | cons k p b=>exact b (aR t.ks k)
theorem cB {t:T} (h:au 5 t) (p:List ByteArray):au 5 (aI t p):=by
 induction p generalizing t with
 | nil=>exact h
 | cons k p a=>exact a (nN h k)
theorem Eu {t:T} (h:au 5 t) {q:Int×Int} : q∈dl t↔∃ p e,aU t p q=some e:=by
 constructor
 ·intro c
  obtain⟨x,d,rfl⟩:=dH.1 c;exact⟨x.1,x.2,(gq h x.1 x.2).1 d⟩
 ·rintro⟨p,e,a⟩
  have b:=fC a;exact dH.2 ⟨(p,e),(gq h p e).2 (by rw[b];exact a),b⟩
noncomputable def fo (t:T) (o:jK):List (Int×Int):=
 if o.act=3∨o.act=4 then dl (aI t (o.path++[o.s]))else if o.act=5 then []else if o.act=6 then yP (aI t o.path)else dl (aI t o.path)
theorem tN {t:T} (h:au 5 t) {o:jK} (m:jM o) {q:Int×Int} : q∈fo t o↔∃ p e,aU t p q=some e∧BF o p:=by
 have l:=m.act;unfold dI at l;unfold fo BF
 have pre:∀ g:List ByteArray,(q∈dl (aI t g)↔∃ p e,aU t p q=some e∧g <+: p):=fun g=>by
  rw[Eu (cB h g)];constructor
  ·rintro⟨p,e,a⟩
   rw[gU]at a;exact⟨_,e,a,List.prefix_append _ _⟩
  ·rintro⟨p,e,a,c,rfl⟩
   exact⟨c,e,by rw[gU];exact a⟩
 split
 ·rename_i i
  rw[pre];constructor
  ·rintro⟨p,e,a,f⟩
   exact⟨p,e,a,.inr (.inl ⟨i,f⟩)⟩
  ·rintro⟨p,e,a,⟨b,_⟩ | ⟨_,f⟩ | ⟨b,_⟩⟩
   ·omega
   ·exact⟨p,e,a,f⟩
   ·omega
 ·rename_i i
  split
  ·rename_i k
   simp only[List.not_mem_nil,false_iff]
   rintro⟨p,e,a,⟨b,_⟩ | ⟨b,_⟩ | ⟨b,_⟩⟩ <;> omega
  ·rename_i k
   split
   ·rename_i j
    rw[Gy (d:=4) (cB h o.path)];constructor
    ·rintro⟨e,a⟩
     rw[gU,kR]at a;exact⟨_,e,a,.inr (.inr ⟨j,rfl⟩)⟩
    ·rintro⟨p,e,a,⟨b,_⟩ | ⟨b,_⟩ | ⟨_,rfl⟩⟩
     ·omega
     ·omega
     ·exact⟨e,by rw[gU,kR];exact a⟩
   ·rename_i j
    rw[pre];constructor
    ·rintro⟨p,e,a,f⟩
     exact⟨p,e,a,.inl ⟨by omega,f⟩⟩
    ·rintro⟨p,e,a,⟨_,f⟩ | ⟨b,_⟩ | ⟨b,_⟩⟩
     ·exact⟨p,e,a,f⟩
     ·omega
     ·omega
theorem Cy {a b r:K} (m:RK a) (j:RK b) (n:RK r) {p:List ByteArray} {q:Int×Int} (h:Cs.st r p q=mx (Cs.st a p q) (Cs.st b p q)) (f:∀ e g,aU a.1 p q=some e→aU b.1 p q=some g→e=g) (e:E) :
  aU r.1 p q=some e↔(aU a.1 p q=some e∧(aD b.2 q.1 q.2=true→aU b.1 p q=some e))∨(aU b.1 p q=some e∧(aD a.2 q.1 q.2=true→aU a.1 p q=some e)):=by
 rw[n.Ml p q _ h]
 cases d:aD a.2 q.1 q.2 with
 | false=>
  rw[ja d,wI,m.unknown d]
  cases c:aD b.2 q.1 q.2 with
  | false=>
   rw[ja c,j.unknown c];simp
  | true=>
   rw[iw c];simp
 | true=>
  rw[iw d]
  cases c:aD b.2 q.1 q.2 with
  | false=>
   rw[ja c,Bo,j.unknown c];simp
  | true=>
   rw[iw c]
   cases k:aU a.1 p q with
   | none=>
    cases i:aU b.1 p q <;> simp[mx]
   | some x=>
    cases i:aU b.1 p q with
    | none=>simp[mx]
    | some y=>
     obtain rfl:=f x y k i;have l:mx (some (some x)) (some (some x))=some (some x):=Bh _;rw[l];simp
structure Ev where
 d:Int×Int
 o:jK
 seen:List S3
noncomputable def eT (ev:Ev):E:=⟨ev.d.1,ev.d.2,if ev.o.act=6 then ev.o.s else⟨#[]⟩,ev.o.n⟩
structure jc (all:List Ev):Prop where
 diff:all.Pairwise fun x y=>x.d≠y.d
 ok:∀ x∈all,jM x.o
 seen:∀ x∈all,∀ a n,aD x.seen a n=true→∃ y∈all,y.d=(a,n)
theorem Df:∀ {all:List Ev},all.Pairwise (fun x y=>x.d≠y.d)→∀ x∈all,∀ y∈all,x.d=y.d→x=y
 | [],_,x,hx,_,_,_=>by cases hx
 | z::l,h,x,hx,y,hy,e=>by
  obtain⟨c,f⟩:=fq.1 h
  rcases jJ.1 hx with a | a <;> rcases jJ.1 hy with b | b
  ·rw[a,b]
  ·exact absurd (by rw[← a];exact e) (c y b)
  ·exact absurd (by rw[← b];exact e.symm) (c x a)
  ·exact Df f x a y b e
theorem jc.one {all:List Ev} (h:jc all):∀ x∈all,∀ y∈all,x.d=y.d→x=y:=Df h.diff
def mR (all:List Ev) (c:List S3) (ev:Ev):Prop:=brings ev.o.act∧∀ y∈all,aD c y.d.1 y.d.2=true→aD y.seen ev.d.1 ev.d.2=true→¬oU y.o ev.o
structure Knows (all:List Ev) (k:K):Prop where
 right:RK k
 made:∀ a n,aD k.2 a n=true→∃ y∈all,y.d=(a,n)
 down:∀ y∈all,aD k.2 y.d.1 y.d.2=true→∀ a n,aD y.seen a n=true→aD k.2 a n=true
 Cj:∀ p q e,aU k.1 p q=some e↔∃ y∈all,y.d=q∧aD k.2 q.1 q.2=true∧bL y.o=p∧eT y=e∧mR all k.2 y
theorem Knows.agree {all:List Ev} (k:jc all) {a b:K} (i:Knows all a) (j:Knows all b) {p:List ByteArray} {q:Int×Int} {e c:E} (h:aU a.1 p q=some e) (g:aU b.1 p q=some c):e=c:=by
 obtain⟨x,l,d,_,_,rfl,_⟩:=(i.Cj p q e).1 h;obtain⟨y,m,f,_,_,rfl,_⟩:=(j.Cj p q c).1 g;rw[k.one x l y m (d.trans f.symm)]
theorem Knows.hear {all:List Ev} (H:jc all) {a b r:K} (c:Knows all a) (f:Knows all b) (x:l8 a b r):Knows all r:=by
 have J:=x.right c.right f.right
 have i:∀ d n,aD r.2 d n=true↔aD a.2 d n=true∨aD b.2 d n=true:=fun d n=>by
  rw[x.aD c.right f.right,Bool.or_eq_true]
 refine⟨J,fun d n h=>?_,fun y l h d n k=>?_,fun p q e=>?_⟩
 ·rcases (i d n).1 h with h | h
  ·exact c.made d n h
  ·exact f.made d n h
 ·rcases (i _ _).1 h with h | h
  ·exact (i d n).2 (.inl (c.down y l h d n k))
  ·exact (i d n).2 (.inr (f.down y l h d n k))
 ·rw[Cy c.right f.right J (x.st c.right f.right p q) (fun _ _ h N=>c.agree H f h N)]
  -- one side: what stands at one, and at the other one if it was seen there
  have side:∀ {a b:K},Knows all a→Knows all b→(∀ d n,aD r.2 d n=true↔aD a.2 d n=true∨aD b.2 d n=true)→aU a.1 p q=some e→(aD b.2 q.1 q.2=true→aU b.1 p q=some e)→∃ y∈all,y.d=q∧aD r.2 q.1 q.2=true∧bL y.o=p∧eT y=e∧mR all r.2 y:=by
   intro a b c f i m s;obtain⟨y,l,hd,g,A,w,k⟩:=(c.Cj p q e).1 m;refine⟨y,l,hd,(i _ _).2 (.inl g),A,w,k.1,fun z u F j=>?_⟩
   rcases (i _ _).1 F with h | h
   ·exact k.2 z u h j
   ·have G:=f.down z u h _ _ j
    rw[hd]at G;obtain⟨O,C,v,_,_,_,B⟩:=(f.Cj p q e).1 (s G);obtain rfl:=H.one y l O C (hd.trans v.symm);exact B.2 z u h j
  have other:∀ {a:K},Knows all a→(∀ d n,aD a.2 d n=true→aD r.2 d n=true)→aD a.2 q.1 q.2=true→(∃ y∈all,y.d=q∧aD r.2 q.1 q.2=true∧bL y.o=p∧eT y=e∧mR all r.2 y)→aU a.1 p q=some e:=by
   rintro a c t g ⟨y,l,hd,_,A,w,k⟩;exact (c.Cj p q e).2 ⟨y,l,hd,g,A,w,k.1,fun z u D j=>k.2 z u (t _ _ D) j⟩
  constructor
  ·rintro (⟨m,s⟩ | ⟨m,s⟩)
   ·exact side c f i m s
   ·exact side f c (fun d n=>(i d n).trans or_comm) m s
  ·intro h
   have L:∀ d n,aD a.2 d n=true→aD r.2 d n=true:=fun d n h=>(i d n).2 (.inl h);have M:∀ d n,aD b.2 d n=true→aD r.2 d n=true:=fun d n h=>(i d n).2 (.inr h);obtain⟨_,_,_,g,_⟩:=id h
   rcases (i _ _).1 g with g | g
   ·exact .inl ⟨other c L g h,fun g=>other f M g h⟩
   ·exact .inr ⟨other f M g h,fun g=>other c L g h⟩
theorem Knows.other {all:List Ev} {k:K} (h:Knows all k) {ev:Ev} (s:aD k.2 ev.d.1 ev.d.2=false):Knows (all++[ev]) k:=by
 have b:∀ y,y∈all++[ev]↔y∈all∨y=ev:=fun y=>by rw[fO,eX]
 refine⟨h.right,fun a n u=>?_,fun y c r a n g=>?_,fun p q e=>?_⟩
 ·obtain⟨y,c,hd⟩:=h.made a n u
  exact⟨y,(b y).2 (.inl c),hd⟩
 ·rcases (b y).1 c with c | rfl
  ·exact h.down y c r a n g
  ·rw[s]at r;cases r
 ·rw[h.Cj]
  constructor
  ·rintro⟨y,c,hd,j,t,m,g⟩
   refine⟨y,(b y).2 (.inl c),hd,j,t,m,g.1,fun z l f i=>?_⟩
   rcases (b z).1 l with l | rfl
   ·exact g.2 z l f i
   ·rw[s]at f;cases f
  ·rintro⟨y,c,hd,j,t,m,g⟩
   rcases (b y).1 c with c | rfl
   ·exact⟨y,c,hd,j,t,m,g.1,fun z l f i=>g.2 z ((b z).2 (.inl l)) f i⟩
   ·rw[← hd]at j
    rw[s]at j;cases j
structure kg (t:T) (o:jK) (d:Int×Int) (x:K):Prop where
 tree:x.1=if brings o.act then bF (cu (eT ⟨d,o,[]⟩)) (bL o)else none_
 ctx:∃ u,pG (fo t o) u∧iW l6 u (eZ d.1 d.2) x.2
theorem oF (e:E):∀ (s p:List ByteArray) (q:Int×Int),aU (bF (cu e) s) p q=if p=s∧aV e=q then some e else none
 | [],p,q=>uz e p q
 | k::s,p,q=>by
  cases p with
  | nil=>
   rw[if_neg (by rintro⟨h,_⟩;cases h)];rfl
  | cons c p=>
   rw[nD]
   show aU (if k=c then bF (cu e) s else none_) p q=_
   by_cases b:k=c
   ·subst b
    rw[if_pos rfl,oF e s p q]
    by_cases h:p=s∧aV e=q
    ·rw[if_pos h,if_pos ⟨by rw[h.1],h.2⟩]
    ·rw[if_neg h,if_neg (by rintro⟨a,d⟩;injection a with _ a;exact h ⟨a,d⟩)]
   ·rw[if_neg b,iC,if_neg (by rintro⟨a,_⟩;injection a with a;exact b a.symm)]
theorem jc.snoc {all:List Ev} (h:jc all) {ev:Ev} (g:∀ y∈all,y.d≠ev.d) (i:jM ev.o) (j:∀ a n,aD ev.seen a n=true→∃ y∈all,y.d=(a,n)):jc (all++[ev]):=by
 have b:∀ y,y∈all++[ev]↔y∈all∨y=ev:=fun y=>by rw[fO,eX]
 refine⟨List.pairwise_append.2 ⟨h.diff,by simp,fun x c y e=>by rw[eX.1 e];exact g x c⟩,fun x c=>?_,fun x c a n f=>?_⟩
 ·rcases (b x).1 c with c | rfl
  ·exact h.ok x c
  ·exact i
 ·rcases (b x).1 c with c | rfl
  ·obtain⟨y,e,hd⟩:=h.seen x c a n f
   exact⟨y,(b y).2 (.inl e),hd⟩
  ·obtain⟨y,e,hd⟩:=j a n f
   exact⟨y,(b y).2 (.inl e),hd⟩
theorem Knows.make {all:List Ev} (S:jc all) {k x r:K} (h:Knows all k) {o:jK} {d:Int×Int} (G:jM o) (L:∀ y∈all,y.d≠d) (X:Dt.ak d.1 d.2=true) (hd:kg k.1 o d x) (U:RK x) (Z:l8 k x r):Knows (all++[⟨d,o,k.2⟩]) r:=by
 have hr:=Z.right h.right U
 have f:∀ y,y∈all++[(⟨d,o,k.2⟩:Ev)]↔y∈all∨y=⟨d,o,k.2⟩:=fun y=>by rw[fO,eX]
 have l:aD k.2 d.1 d.2=false:=by
  cases b:aD k.2 d.1 d.2 with
  | false=>rfl
  | true=>
   obtain⟨y,g,e⟩:=h.made _ _ b;exact absurd e (L y g)
 obtain⟨u,hu,hv⟩:=hd.ctx
 have F:∀ a n,aD x.2 a n=true↔(a,n)∈fo k.1 o∨(a,n)=d:=fun a n=>by
  rw[G_ hu.right X hv,Bool.or_eq_true,eG];refine or_congr ?_ ⟨fun e=>Prod.ext e.1 e.2,fun e=>by rw[← e];exact⟨rfl,rfl⟩⟩
  by_cases W:ny a
  ·exact hu.has a n W
  ·constructor
   ·intro b
    rw[lq hu.right W]at b
    cases b
   ·intro b
    exfalso;obtain⟨p,e,t,_⟩:=(tN h.right.tree G).1 b;have c:=h.right.known t;rw[lq h.right.ctx W]at c
    cases c
 have N7:∀ a n,(a,n)∈fo k.1 o→aD k.2 a n=true:=fun a n b=>by
  obtain⟨p,e,t,_⟩:=(tN h.right.tree G).1 b;exact h.right.known t
 have v:∀ a n,aD r.2 a n=true↔aD k.2 a n=true∨(a,n)=d:=fun a n=>by
  rw[Z.aD h.right U,Bool.or_eq_true,F];exact⟨fun e=>e.elim .inl fun e=>e.elim (fun e=>.inl (N7 a n e)) .inr,fun e=>e.elim .inl fun e=>.inr (.inr e)⟩
 have B:∀ p q e,aU x.1 p q=some e↔brings o.act∧p=bL o∧d=q∧eT ⟨d,o,k.2⟩=e:=fun p q e=>by
  rw[hd.tree]
  split
  ·rename_i J
   rw[oF]
   split
   ·rename_i b
    constructor
    ·intro c
     injection c with c;exact⟨J,b.1,b.2,c⟩
    ·rintro⟨_,_,_,c⟩
     rw[← c];rfl
   ·rename_i b
    constructor
    ·intro c;cases c
    ·rintro⟨_,c,i,_⟩
     exact absurd ⟨c,i⟩ b
  ·rename_i J
   rw[iC];constructor
   ·intro c;cases c
   ·rintro⟨b,_⟩
    exact absurd b J
 refine⟨hr,fun a n H=>?_,fun y g N9 a n s=>?_,fun p q e=>?_⟩
 ·rcases (v a n).1 H with H | H
  ·obtain⟨y,g,e⟩:=h.made a n H
   exact⟨y,(f y).2 (.inl g),e⟩
  ·exact⟨_,(f _).2 (.inr rfl),H.symm⟩
 ·rcases (f y).1 g with g | rfl
  ·rcases (v _ _).1 N9 with b | b
   ·exact (v a n).2 (.inl (h.down y g b a n s))
   ·exact absurd b (L y g)
  ·exact (v a n).2 (.inl s)
 ·rw[Cy h.right U hr (Z.st h.right U p q) (fun e V b c=>by
   obtain⟨_,_,i,_⟩:=(B p q V).1 c;have R:=h.right.known b;rw[← i,l]at R
   cases R)]
  constructor
  ·rintro (⟨b,c⟩ | ⟨b,_⟩)
   ·obtain⟨y,g,j,C,D,t,s⟩:=(h.Cj p q e).1 b
    have A:d≠q:=fun e=>by rw[← e,l]at C;cases C
    have Ny:¬q∈fo k.1 o:=fun i=>by
     have R:=c ((F q.1 q.2).2 (.inl i));exact A ((B p q e).1 R).2.2.1
    refine⟨y,(f y).2 (.inl g),j,(v _ _).2 (.inl C),D,t,s.1,fun z w NA m O=>?_⟩
    rcases (f z).1 w with w | rfl
    ·rcases (v _ _).1 NA with i | i
     ·exact s.2 z w i m O
     ·exact L z w i
    ·refine Ny ((tN h.right.tree G).2 ⟨p,e,b,?_⟩)
     rw[← D];exact (DW G (S.ok y g) s.1).2 O
   ·obtain⟨J,D,C,t⟩:=(B p q e).1 b
    refine⟨_,(f _).2 (.inr rfl),C,(v _ _).2 (.inr C.symm),D.symm,t,J,fun z w _ m _=>?_⟩
    rcases (f z).1 w with w | rfl
    ·obtain⟨y,g,e⟩:=S.seen z w _ _ m
     exact L y g e
    ·rw[show aD k.2 d.1 d.2=true from m]at l
     cases l
  ·rintro⟨y,g,j,C,D,t,s⟩
   rcases (f y).1 g with g | rfl
   ·have A:d≠q:=fun e=>L y g (j.trans e.symm)
    have M:aD k.2 q.1 q.2=true:=by
     rcases (v _ _).1 C with i | i
     ·exact i
     ·exact absurd i.symm A
    have b:aU k.1 p q=some e:=(h.Cj p q e).2 ⟨y,g,j,M,D,t,s.1,fun z w N_ m=>s.2 z ((f z).2 (.inl w)) ((v _ _).2 (.inl N_)) m⟩;refine .inl ⟨b,fun c=>?_⟩;exfalso
    rcases (F _ _).1 c with i | i
    ·obtain⟨p',V,Y,N⟩:=(tN h.right.tree G).1 i
     obtain⟨y',N8,Q,_,Nz,_,_⟩:=(h.Cj p' q V).1 Y;obtain rfl:=S.one y g y' N8 (j.trans Q.symm);rw[← Nz]at N;refine s.2 _ ((f _).2 (.inr rfl)) ((v _ _).2 (.inr rfl)) ?_ ((DW G (S.ok y g) s.1).1 N);rw[j];exact M
    ·exact A i.symm
   ·refine .inr ⟨(B p q e).2 ⟨s.1,D.symm,j,t⟩,fun c=>?_⟩
    rw[← j]at c;rw[show aD k.2 d.1 d.2=true from c]at l
    cases l
theorem Knows.none_:Knows [] bH:=⟨jl,fun a n h=>(by cases (show aD [] a n=true from h)),fun y b=>(by cases b),fun p q e=>by
 rw[show aU bH.1 p q=none from iC p q];constructor
 ·intro h;cases h
 ·rintro⟨y,b,_⟩;cases b⟩
theorem Knows.same {all:List Ev} {a b:K} (f:Knows all a) (g:Knows all b) (h:a.2=b.2):a=b:=by
 refine Prod.ext (qw (d:=5) (.inl f.right.tree) (.inl g.right.tree) fun p q=>?_) h
 have i:∀ e,aU a.1 p q=some e↔aU b.1 p q=some e:=fun e=>by rw[f.Cj,g.Cj,h]
 cases c:aU a.1 p q with
 | some e=>exact ((i e).1 c).symm
 | none=>
  cases j:aU b.1 p q with
  | none=>rfl
  | some e=>rw[(i e).2 j]at c;cases c
end Cs
end
section
open ChangeShapes WideShapes ChangeAt RowKit
namespace Cs
open Tr Cx Sp Rw Classical
theorem jC (a:Int) (w:World) (z:Bool) (b:decide (brings a)=z) :
  Calls Tryz.prog 54 #[.int .i64 a] w fun e w'=>e = .returned (.bool z)∧av w w':=by
 by_cases c:a=1
 ·subst c
  obtain rfl:z=true:=by
   rw[← b];exact aJ (by unfold brings;omega)
  go_enter Tryz.func54,Tryz.ntmps54;go_wp2_with fail;go_ret;exact⟨by first | rfl | simp,bN⟩
 have f1:(a==1)=false:=by simpa using c
 by_cases d:a=3
 ·subst d
  obtain rfl:z=true:=by
   rw[← b];exact aJ (by unfold brings;omega)
  go_enter Tryz.func54,Tryz.ntmps54;go_wp2_with fail;go_ret;exact⟨by first | rfl | simp,bN⟩
 have f3:(a==3)=false:=by simpa using d
 by_cases f:a=5
 ·subst f
  obtain rfl:z=true:=by
   rw[← b];exact aJ (by unfold brings;omega)
  go_enter Tryz.func54,Tryz.ntmps54;go_wp2_with fail;go_ret;exact⟨by first | rfl | simp,bN⟩
 have f5:(a==5)=false:=by simpa using f
 by_cases g:a=6
 ·subst g
  obtain rfl:z=true:=by
   rw[← b];exact aJ (by unfold brings;omega)
  go_enter Tryz.func54,Tryz.ntmps54;go_wp2_with fail;go_ret;exact⟨by first | rfl | simp,bN⟩
 have f6:(a==6)=false:=by simpa using g
 obtain rfl:z=false:=by
  rw[← b];exact aM (by unfold brings;omega)
 go_enter Tryz.func54,Tryz.ntmps54;go_wp2_with fail;go_ret;exact⟨by first | rfl | simp,bN⟩
theorem rH (k:List ByteArray) (j:Int) (xs:ByteArray) (r:Int) (z:Option Addr) (f A:Nat) (w:World) (hn:f≤900) (i:Rd w w.heap.size 1 z f A (strs k)) :
  Calls Tryz.prog 58 #[.agg #[.slice z f A,.int .i64 j,.string xs,.int .i64 r]] w fun e w'=>∃ (A':Option Addr) (m c':Nat),e = .returned (.slice A' m c')∧ai (Own w' w.heap.size 9 1 A' m c' (strs (bL ⟨k,j,xs,r⟩)))∧ai (m≤f+1)∧av w w':=by
 obtain⟨g,W,y,v,a,-,-,-,-⟩:=zi w (.slice z f A) (.int .i64 j) (.string xs) (.int .i64 r) 27
 have t:W.heap.size=g+1:=by rw[v,y];simp
 have F:ai (Kept [(⟨g,0,none⟩,.slice z f A),(⟨g,1,none⟩,.int .i64 j),(⟨g,2,none⟩,.string xs),(⟨g,3,none⟩,.int .i64 r)] w W):=by
  have h0:=Kept.a_ a
  refine (((h0.af ?_).af ?_).af ?_).af ?_ <;> (rw[v,y];go_simp)
 have HRX:=ah (i.later a);have HLX:=ah (bM i);obtain⟨p,L⟩:∃ p,p=g+1:=⟨_,rfl⟩;obtain⟨X,x⟩:∃ X,X=W.alloc (.cells #[] 9):=⟨_,rfl⟩
 have c:av W X:=by rw[x];exact Dt.ay _ _ _
 have d:p=W.heap.size:=by rw[L,t]
 have h:av w X:=a.trans (c.mono a.size);obtain⟨N,c3,w3,V,M,q,_⟩:=wG X p p (by rw[x,d];exact heap_alloc_new _ _) (bG) (by rw[d];exact c.size) (i.below h) (by omega);obtain⟨O,c4,w4,Y,Z,s3⟩:=kJ w3 p w3.heap.size rfl M (aN (by rw[d];exact c.size) q.size) xs (by omega)
 have b:w.heap.size≤p:=by rw[d];exact a.size
 have l:=ah (F.later c)
 have n:g<p:=by omega
 have g1:w3.cell? ⟨g,1,none⟩=some (.int .i64 j):=(q.cell (p:=⟨g,1,none⟩) n).trans l.c1;have g2:w3.cell? ⟨g,2,none⟩=some (.string xs):=(q.cell (p:=⟨g,2,none⟩) n).trans l.c2;have B:ai (av w w3):=h.trans (q.mono b);have C:ai (av w w4):=(h.trans (q.mono b)).trans (s3.mono b);have G:ai (Own w3 w.heap.size 9 1 N f c3 (strs k)):=M.mono b;have H:ai (Own w4 w.heap.size 9 1 O (f+1) c4 (strs (k++[xs]))):=Z.mono b;have s:=ah V;have J:=ah Y;have k0:=l.c0;have R:=ah L;have U:=ah x;have Q:=ah y;have S:=ah v;clear L x y v a c h t V M q Y Z s3 i d b n
 by_cases u:j=3
 ·subst u
  have D:ai (bL ⟨k,3,xs,r⟩=k++[xs]):=if_pos rfl;go_enter Tryz.func58,Tryz.ntmps58;go_wp2_with (at_builtin;(try rw[← Q.o]);(try rw[← S.o]);(try rw[← R.o]);(try rw[← U.o]);first | refine Lib.wpList_append_run _ rfl _ _ _ _ rfl _ _ rfl rfl _ _ J ?_ | refine Lib.wpList_append_run _ rfl _ _ _ _ rfl _ _ rfl rfl _ _ s ?_);go_ret;exact⟨O,f+1,c4,rfl,by rw[D.o];exact H.o,bG,C⟩
 ·have f3:(j==3)=false:=by simpa using u
  have D:ai (bL ⟨k,j,xs,r⟩=k):=if_neg u;clear u;go_enter Tryz.func58,Tryz.ntmps58;go_wp2_with (at_builtin;(try rw[← Q.o]);(try rw[← S.o]);(try rw[← R.o]);(try rw[← U.o]);refine Lib.wpList_append_run _ rfl _ _ _ _ rfl _ _ rfl rfl _ _ s ?_);go_ret;exact⟨N,f,c3,rfl,by rw[D.o];exact G.o,Nat.le_succ _,B⟩
theorem BA (G:List ByteArray) (t:Int) (xs:ByteArray) (u:Int) (n:Option Addr) (a p:Nat) (w:World) (j:Rd w w.heap.size 1 n a p (strs G)) :
  Calls Tryz.prog 73 #[.agg #[.slice n a p,.int .i64 t,.string xs,.int .i64 u]] w fun e w'=>∃ z:Bool,e = .returned (.bool z)∧ai (z=true→a≤9)∧av w w':=by
 obtain⟨g,W,s,r,f,-,-,-,-⟩:=zi w (.slice n a p) (.int .i64 t) (.string xs) (.int .i64 u) 27
 have F:W.heap.size=g+1:=by rw[r,s];simp
 have d:ai (Kept [(⟨g,0,none⟩,.slice n a p),(⟨g,1,none⟩,.int .i64 t),(⟨g,2,none⟩,.string xs),(⟨g,3,none⟩,.int .i64 u)] w W):=by
  have Q:=Kept.a_ f
  refine (((Q.af ?_).af ?_).af ?_).af ?_ <;> (rw[r,s];go_simp)
 have HRX:=ah (j.later f);have v:=ah (bM j);have q:=ah s;have l:=ah r;clear s r f F
 by_cases R:9<a
 ·have J:decide ((9:Int)<(a:Int))=true:=aJ (by omega)
  obtain⟨c0,c1,c2,c3,-⟩:=d.cj;rw[l.o]at c0 c1 c2 c3;rw[q.o]at c0 c1 c2 c3;go_enter Tryz.func73,Tryz.ntmps73;go_wp2_with fail;go_ret;exact⟨false,rfl,fun h=>(by cases h),by have h:=d.below;rw[l.o]at h;exact h⟩
 have J:decide ((9:Int)<(a:Int))=false:=aM (by omega)
 by_cases A:99<xs.size
 ·have H:decide ((99:Int)<(xs.size:Int))=true:=aJ (by omega)
  obtain⟨c0,c1,c2,c3,-⟩:=d.cj;rw[l.o]at c0 c1 c2 c3;rw[q.o]at c0 c1 c2 c3;go_enter Tryz.func73,Tryz.ntmps73;go_wp2_with fail;go_ret;exact⟨false,rfl,fun h=>(by cases h),by have h:=d.below;rw[l.o]at h;exact h⟩
 have H:decide ((99:Int)<(xs.size:Int))=false:=aM (by omega)
 have m:ai (a≤9):=FL
 obtain⟨c0,c1,c2,c3,-⟩:=d.cj;rw[l.o]at c0 c1 c2 c3;rw[q.o]at c0 c1 c2 c3;go_enter Tryz.func73,Tryz.ntmps73;go_wp2_with fail;rw[← q.o,← l.o];clear c0 c1 c2 c3 R A J H
 go_loopw [17] (fun i wr=>∃ (k:Nat),k≤a∧i = .int .i64 k∧ai (Kept [(⟨g,0,none⟩,.slice n a p),(⟨g,1,none⟩,.int .i64 t),(⟨g,2,none⟩,.string xs),(⟨g,3,none⟩,.int .i64 u)] w wr)) (fun i _=>a-(intOf i).toNat)
 case atStart=>exact⟨0,by omega,rfl,d⟩
 case round=>
  obtain⟨k,hk,rfl,c⟩:=hrel;have hk9:=m.o
  by_cases D:k<a
  ·have C:k<G.length:=by rw[v.o];exact D
   have y:=ah (Rd.more (Rd.below (j) c.below) c.below.size);obtain⟨b,o,rfl,B,M⟩:=gM y (by omega);have S:=M k C;obtain⟨x,N⟩:∃ x,x=G[k]:=⟨_,rfl⟩;rw[← N]at S;have c0:=c.c0;clear M N B
   by_cases L:99<x.size
   ·have O:decide ((99:Int)<(x.size:Int))=true:=aJ (by omega)
    clear L;go_wp2_with fail;go_ret;exact⟨false,rfl,fun h=>(by cases h),c.below⟩
   ·have O:decide ((99:Int)<(x.size:Int))=false:=aM (by omega)
    clear L;go_wp2_with fail;go_roundw
    case rel=>exact⟨k+1,by omega,by go_num,c⟩
    case measure=>simp[intOf];omega
  ·obtain rfl:k=a:=by omega
   go_wp2_with fail;go_ret;exact⟨true,rfl,fun _=>m.o,c.below⟩
end Cs
namespace Cs
open Tr Cx Sp Rw Classical
end Cs
namespace Cs
open Tr Cx Sp Rw Classical
def Low (b:Nat) (w:World):Prop:=b≤w.heap.size
theorem Low.later {b:Nat} {w w':World} (h:Low b w) (a:av w w'):Low b w':=aN h a.size
instance {b:Nat} {v v':World} : fE v v' (Low b v) (Low b v'):=⟨fun h hb=>h.later hb⟩
structure jw where
 ev:Ev
 p:SV
 q:SV
def tY (x:jw):List Value:=[.int .i64 x.ev.d.1,.int .i64 x.ev.d.2,.slice x.p.A x.p.n x.p.c,.int .i64 x.ev.o.act,.string x.ev.o.s,.int .i64 x.ev.o.n,.slice x.q.A x.q.n x.q.c]
theorem AV (x:jw):(tY x).length=7:=rfl
theorem wC (x:jw):∀ u∈tY x,u.oneCell'=true:=by
 intro u hu;simp[tY]at hu
 rcases hu with rfl | rfl | rfl | rfl | rfl | rfl | rfl <;> rfl
structure Ei (w:World) (B:Nat) (x:jw):Prop where
 path:Rd w B 1 x.p.A x.p.n x.p.c (Tr.strs x.ev.o.path)
 seen:Rd w B 3 x.q.A x.q.n x.q.c (aP x.ev.seen)
theorem Ei.more {w:World} {B a:Nat} {x:jw} (h:Ei w B x) (b:B≤a):Ei w a x:=⟨h.path.more b,h.seen.more b⟩
theorem Ei.below {w w':World} {B:Nat} {x:jw} (h:Ei w B x) (a:Below B w w'):Ei w' B x:=⟨h.path.below a,h.seen.below a⟩
structure pE (w:World) (B:Nat) (A:Option Addr) (n c:Nat) (l:List jw):Prop where
 len:l.length=n
 row:Rd w B 7 A n c (l.flatMap tY)
 each:∀ x∈l,Ei w B x
theorem pE.later {w w':World} {A:Option Addr} {n c:Nat} {l:List jw} (h:pE w w.heap.size A n c l) (a:av w w'):pE w' w'.heap.size A n c l:=⟨h.len,h.row.later a,fun x b=>((h.each x b).below a).more a.size⟩
instance {A:Option Addr} {n c:Nat} {l:List jw} {v v':World} : fE v v' (pE v v.heap.size A n c l) (pE v' v'.heap.size A n c l):=⟨fun h hb=>h.later hb⟩
theorem pE.at_ {w:World} {B:Nat} {A:Option Addr} {n c:Nat} {l:List jw} (h:pE w B A n c l) (g:0<n):∃ b o,A=some ⟨b,o,none⟩∧b<B∧∀ (i:Nat) (hi:i<l.length),
  w.cell? ⟨b,o+i*7,none⟩=some (.int .i64 (l[i]).ev.d.1)∧w.cell? ⟨b,o+i*7+1,none⟩=some (.int .i64 (l[i]).ev.d.2)∧w.cell? ⟨b,o+i*7+2,none⟩=some (.slice (l[i]).p.A (l[i]).p.n (l[i]).p.c)∧w.cell? ⟨b,o+i*7+3,none⟩=some (.int .i64 (l[i]).ev.o.act)∧w.cell? ⟨b,o+i*7+4,none⟩=some (.string (l[i]).ev.o.s)∧w.cell? ⟨b,o+i*7+5,none⟩=some (.int .i64 (l[i]).ev.o.n)∧w.cell? ⟨b,o+i*7+6,none⟩=some (.slice (l[i]).q.A (l[i]).q.n (l[i]).q.c):=by
 obtain⟨b,o,e,f,a⟩:=fJ AV h.row g;exact⟨b,o,e,f,fun i hi=>⟨a i hi 0 _ rfl,a i hi 1 _ rfl,a i hi 2 _ rfl,a i hi 3 _ rfl,a i hi 4 _ rfl,a i hi 5 _ rfl,a i hi 6 _ rfl⟩⟩
theorem EF:(Tryz.prog.info? 79).map (fun i=>(i.zero,i.size,i.bytes))=some (some (.agg #[.int .i64 0,.int .i64 0,.slice none 0 0,.int .i64 0,.string ⟨#[]⟩,.int .i64 0,.slice none 0 0]),7,96):=by kernel_rfl
end Cs
end
section
namespace Cs
open Tr Cx Sp Rw Classical
theorem ve:∀ (d:Nat) {t:T},au d t→¬(t.es=[]∧t.ks=[])→∃ p q e,aU t p q=some e
 | 0,_,h,_=>absurd h (by unfold au;exact id)
 | d+1,.mk es ks,h,hn=>by
  cases es with
  | cons e es=>exact⟨[],aV e,e,(AU (t:=.mk (e::es) ks) h).1 (fA)⟩
  | nil=>
   cases ks with
   | nil=>exact absurd ⟨rfl,rfl⟩ hn
   | cons x ks=>
    have a:=h.2.2.2 x (fA);obtain⟨p,q,e,b⟩:=ve d a.2.2 a.2.1;refine⟨x.1::p,q,e,?_⟩;rw[nD,show aR (T.mk [] (x::ks)).ks x.1=x.2 from sJ h.2.2.1 (fA)];exact b
theorem uL {α:Type} : ∀ {l m:List α},l.Nodup→(∀ x∈l,x∈m)→l.length≤m.length
 | [],_,_,_=>Nat.zero_le _
 | a::l,m,hn,hs=>by
  obtain⟨d,e⟩:=List.nodup_cons.1 hn;obtain⟨s,t,rfl⟩:=List.append_of_mem (hs a (fA))
  have f:=uL (m:=s++t) e fun x c=>by
   have b:=hs x (gY _ c);rw[fO,jJ]at b;rw[fO]
   rcases b with b | rfl | b
   ·exact .inl b
   ·exact absurd c d
   ·exact .inr b
  rw[bP]at f;rw[lY,bP,lY];omega
theorem EM:∀ (d:Nat) {t:T},au d t→¬(t.es=[]∧t.ks=[])→1≤(leaves t).length:=fun d t h f=>by
 obtain⟨p,q,e,a⟩:=ve d h f;have c:=fC a;have b:=(gq h p e).2 (by rw[c];exact a);exact List.length_pos_of_mem b
theorem Ku {α:Type} {f g:α→Nat} {c:Nat} : ∀ {l:List α},(∀ x∈l,f x+1≤c*g x)→(l.map f).sum+l.length≤c*(l.map g).sum
 | [],_=>by simp
 | a::l,h=>by
  have h1:=h a (fA);have h2:=Ku (l:=l) fun x b=>h x (gY _ b);simp only[List.map_cons,om,lY,Nat.mul_add];omega
theorem sV:∀ (d:Nat) {t:T},au d t→nodes t≤d*(leaves t).length
 | 0,_,h=>absurd h (by unfold au;exact id)
 | d+1,.mk es ks,h=>by
  rw[bJ,rD]
  have h1:(ks.map fun k=>nodes k.2).sum+ks.length≤(d+1)*(ks.map fun k=>(leaves k.2).length).sum:=by
   refine Ku fun x b=>?_;have a:=h.2.2.2 x b;have h3:=sV d a.2.2;have h4:=EM d a.2.2 a.2.1;rw[Nat.add_mul,Nat.one_mul];omega
  have h5:es.length≤(d+1)*es.length:=Nat.le_mul_of_pos_left _ (by omega);rw[Nat.mul_add];omega
theorem Bb {all:List Ev} {k:K} (h:Knows all k) (a:(leaves k.1).Nodup):(leaves k.1).length≤all.length:=by
 have b:=uL (m:=all.map fun y=>(bL y.o,eT y)) a fun x e=>by
  obtain⟨y,f,_,_,d,c,_⟩:=(h.Cj x.1 (aV x.2) x.2).1 ((gq h.right.tree x.1 x.2).1 e);exact dH.2 ⟨y,f,by rw[d,c]⟩
 rw[eP]at b;exact b
theorem sO:∀ (d:Nat) {t:T},au d t→(leaves t).Nodup
 | 0,_,h=>absurd h (by unfold au;exact id)
 | d+1,.mk es ks,h=>by
  rw[dL];refine List.pairwise_append.2 ⟨List.Pairwise.map _ (fun x y c e=>?_) (mP (t:=.mk es ks) h),?_,fun x g y f=>?_⟩
  ·injection e with _ e
   rw[e]at c;exact fV.irr _ c
  ·unfold below
   refine List.pairwise_flatMap.2 ⟨fun k i=>List.Pairwise.map _ (fun x y c e=>c (by injection e with e1 e2;injection e1 with _ e1;exact Prod.ext e1 e2)) (sO d (h.2.2.2 k i).2.2),(mO (t:=.mk es ks) h).imp fun {a b} hab x g y f e=>?_⟩;obtain⟨x',_,rfl⟩:=dH.1 g;obtain⟨j,_,rfl⟩:=dH.1 f;injection e with e1 _;injection e1 with e1 _;rw[e1]at hab;exact aQ.irr _ hab
  ·obtain⟨e,_,rfl⟩:=dH.1 g
   unfold below at f;obtain⟨k,_,f⟩:=ol.1 f;obtain⟨j,_,rfl⟩:=dH.1 f;intro e;injection e with e1 _
   cases e1
theorem eU {all:List Ev} {k:K} (h:Knows all k):nodes k.1≤5*all.length:=by
 have h1:=sV 5 h.right.tree;have h2:=Bb h (sO 5 h.right.tree);omega
theorem tO:∀ {c:List S3} {m:Int},gZ m c→(∀ d,ny d→∃ m,aB m (Cx.part c d))→0≤m→(c.map fun s=>(s.1,s.2.1)).Nodup
 | [],_,_,_,_=>by simp
 | s::c,m,hr,hp,hm=>by
  obtain⟨h1,f,g⟩:=hr;rw[List.map_cons,List.nodup_cons];obtain⟨m1,b⟩:=hp s.1 ⟨by omega,f⟩;rw[eu,if_pos rfl]at b;obtain⟨_,q2,_,k⟩:=b;refine⟨fun h=>?_,tO g (fun d hd=>?_) (by omega)⟩
  ·obtain⟨t,i,e⟩:=dH.1 h
   injection e with e1 e2;have a:=k.mem t.2 (jA.2 (by rw[← e1];exact i));omega
  ·obtain⟨j,a⟩:=hp d hd
   rw[eu]at a
   split at a
   ·exact⟨_,a.2.2.2⟩
   ·exact⟨j,a⟩
theorem FW {c:List S3} (h:aH c) {l:List (Int×Int)} (i:∀ a n,aD c a n=true→(a,n)∈l):c.length≤l.length:=by
 have e:=uL (tO h.rise (fun d hd=>⟨1,h.part d hd⟩) (Int.le_refl 0)) (m:=l) fun x j=>by
  obtain⟨s,b,rfl⟩:=dH.1 j;refine i _ _ ?_;have f:=h.rise.mem s b;have g:=(h.part s.1 ⟨f.1,f.2⟩).mem s.2 (jA.2 b);unfold aD;exact lM.2 ⟨s.2,jA.2 b,Int.le_refl _,g.2.1⟩
 rw[eP]at e;exact e
theorem fZ {all:List Ev} {k:K} (h:Knows all k):k.2.length≤all.length:=by
 have b:=FW h.right.ctx (l:=all.map fun y=>y.d) fun a n c=>by
  obtain⟨y,f,e⟩:=h.made a n c;exact dH.2 ⟨y,f,e⟩
 rw[eP]at b;exact b
end Cs
namespace Cs
open Tr Cx Sp Rw Classical
noncomputable def CW (e:E):K:=(cu e,eZ e.a e.n)
theorem Lm {a n:Int} (h:Dt.ak a n=true):iW l6 [] (eZ a n) (eZ a n):=⟨iL h,fun d m _=>by
 show aD (eZ a n) d m=(false||aD (eZ a n) d m)
 rw[Bool.false_or]⟩
theorem F4 {l:List K} {p:List ByteArray} {q:Int×Int} (h:∀ k∈l,Cs.st k p q=none):lX l p q=none:=by
 induction l with
 | nil=>rfl
 | cons k l b=>
  show mx (Cs.st k p q) (lX l p q)=none;rw[h k (fA),b fun x a=>h x (gY _ a)];rfl
theorem AllJ.MU {l:List K} {x:K} (h:AllJ l x) {a n:Int} (e:∀ k∈l,aD k.2 a n=false):aD x.2 a n=false:=by
 cases c:aD x.2 a n with
 | false=>rfl
 | true=>
  have b:Cs.st x [] (a,n)=none:=by
   rw[h.st];exact F4 fun k d=>ja (k:=k) (q:=(a,n)) (e k d)
  rw[iw (k:=x) (q:=(a,n)) c]at b
  cases b
theorem AllJ.front {l:List K} {x y k:K} (h:AllJ l x) (b:RK k) (a:l8 k x y):AllJ (k::l) y:=(AllJ.one b).app h a
def cA (k:Nat):Int:=((k % 4:Nat):Int)
def cN (k:Nat):Int:=1099511627776-(k:Int)
theorem JO (e:E) (a n:Int):aD (CW e).2 a n=decide (a=e.a∧n=e.n):=nJ _ _ _ _
theorem EY {e:E} (a:dR e):RK (CW e):=H_ a
def Iz (l:List Int) (k:Nat):Int:=(l.take k).sum
theorem I5 (l:List Int):Iz l 0=0:=by unfold Iz;simp
theorem I4 {l:List Int} {k:Nat} (h:k<l.length):Iz l (k+1)=Iz l k+l[k]:=by
 unfold Iz;rw[dZ h,List.sum_append_int,om,List.sum_nil,Int.add_zero]
structure Made (c:K) (l:List Int) (xs:List K):Prop where
 each:∀ (j:Nat) (h:j<xs.length) (h2:j<l.length),xs[j]=CW ⟨cA j,cN j,⟨#[]⟩,l[j]⟩∧dR ⟨cA j,cN j,⟨#[]⟩,l[j]⟩∧aD c.2 (cA j) (cN j)=false
theorem Made.nil (c:K) (l:List Int):Made c l []:=⟨fun j h _=>absurd h (Nat.not_lt_zero j)⟩
theorem Made.snoc {c:K} {l:List Int} {xs:List K} (h:Made c l xs) (hl:xs.length<l.length) {k:K} (f:k=CW ⟨cA xs.length,cN xs.length,⟨#[]⟩,l[xs.length]⟩) (b:dR ⟨cA xs.length,cN xs.length,⟨#[]⟩,l[xs.length]⟩) (g:aD c.2 (cA xs.length) (cN xs.length)=false):Made c l (xs++[k]):=⟨fun j d a=>by
 by_cases e:j<xs.length
 ·rw[BL e]
  exact h.each j e a
 ·rw[bP,List.length_singleton]at d
  obtain rfl:j=xs.length:=by omega
  rw[BM (bG)];simp only[Nat.sub_self,List.getElem_cons_zero]
  exact⟨f,b,g⟩⟩
theorem Made.right {c:K} {l:List Int} {xs:List K} (h:Made c l xs) (hl:xs.length≤l.length) (j:Nat) (d:j<xs.length):RK xs[j]:=by
 obtain⟨a,b,_⟩:=h.each j d (by omega);rw[a];exact EY b
structure Ej (c:K) (l:List Int) (xs:List K) (k:Nat) (ka:K):Prop where
 all:AllJ (c::xs.take k) ka
 sum:g_ ka.1.es=g_ c.1.es+Iz l k
theorem Ej.zero {c:K} (a:RK c) (l:List Int) (xs:List K):Ej c l xs 0 c:=⟨by rw[List.take_zero];exact AllJ.one a,by rw[I5,Int.add_zero]⟩
theorem Ej.step {c:K} {l:List Int} {xs:List K} {k:Nat} {m r:K} (f:Made c l xs) (h:Ej c l xs k m) (d:k<xs.length) (t:xs.length≤l.length) (a:l8 m xs[k] r):Ej c l xs (k+1) r:=by
 obtain⟨p,q,s⟩:=f.each k d (by omega);refine⟨?_,?_⟩
 ·rw[dZ d,← List.cons_append]
  exact h.all.snoc (f.right t k d) a
 ·have g:aD m.2 (cA k) (cN k)=false:=by
   refine h.all.MU fun y i=>?_
   rcases jJ.1 i with rfl | i
   ·exact s
   ·obtain⟨j,b,rfl⟩:=qz i
    rw[l7]at b;rw[List.getElem_take];obtain⟨n,_,_⟩:=f.each j (by omega) (by omega);rw[n,JO,aM];rintro⟨_,e⟩;have e:cN k=cN j:=e;unfold cN at e;omega
  rw[p]at a;have u:=(KQ (e:=⟨cA k,cN k,⟨#[]⟩,l[k]'(by omega)⟩) h.all.right q g a).1;rw[u,h.sum,I4 (by omega),Int.add_assoc]
theorem GJ {c:K} {xs:List K} {k:Nat} {a r:K} (h:AllJ (xs.drop (xs.length-k)++[c]) a) (hk:k<xs.length) (g:RK (xs[xs.length-1-k]'(by omega))) (f:l8 (xs[xs.length-1-k]'(by omega)) a r):AllJ (xs.drop (xs.length-(k+1))++[c]) r:=by
 have e:xs.drop (xs.length-(k+1))=(xs[xs.length-1-k]'(by omega))::xs.drop (xs.length-k):=by
  have b:xs.length-(k+1)=xs.length-1-k:=by omega
  have d:xs.length-k=xs.length-1-k+1:=by omega
  rw[b,d,List.drop_eq_getElem_cons (by omega)]
 rw[e,List.cons_append];exact h.front g f
end Cs
namespace Cs
open Tr Cx Sp Rw Classical
end Cs
end
section
open ChangeShapes WideShapes ChangeAt RowKit
namespace Cs
open Tr Cx Sp Rw Classical
theorem Lu {t:T} (b:au 5 t):∀ e∈t.es,-1099511627776≤e.v∧e.v≤1099511627776:=by
 cases t with
 | mk es ks=>exact fun e a=>⟨(b.1 e a).2.2.1,(b.1 e a).2.2.2⟩
theorem DU {es:List E} (h:∀ e∈es,-1099511627776≤e.v∧e.v≤1099511627776) (k:Nat) (hk:k≤1000) : -1099511627776000≤g_ (es.take k)∧g_ (es.take k)≤1099511627776000:=by
 have h1:=DR (m:=1099511627776) (l:=es.take k) fun e a=>h e (List.mem_of_mem_take a)
 have h2:(es.take k).length≤k:=by rw[l7];omega
 omega
set_option maxRecDepth 100000 in
set_option maxHeartbeats 4000000 in
theorem IB (t:T) (Ae Ak:Option Addr) (ne nk ce ck:Nat) (w:World) (x:Int) (hx:(if Tr.ak 5 t=true then g_ t.es else 0)=x) (hl:LenT reachBytes t) (hn:nodes t≤999) (H:aF w w.heap.size t ⟨Ae,ne,ce⟩ ⟨Ak,nk,ck⟩) :
  Calls Tryz.prog 115 #[.agg #[.slice Ae ne ce,.slice Ak nk ck]] w fun e w'=>e = .returned (.int .i64 x)∧av w w':=by
 have N:=ah H;have HL:=ah hl;have F:=ah hx;clear hx hl;obtain⟨g,S⟩:∃ g,g=w.heap.size:=⟨_,rfl⟩;have h:=ah (bQ w Ae Ak ne nk ce ck);rw[← S]at h;obtain⟨W0,l⟩:∃ W,W=w.alloc (.cells #[.slice Ae ne ce,.slice Ak nk ck] 35):=⟨_,rfl⟩;rw[← l]at h;have HG:=ah S;have Q:=ah l;have J:=h.c0;have L:=h.c1;clear S l;have M:=ah (bS t Ae Ak ne nk ce ck W0 HL (aF.more h.below.size _ (aF.below N h.below)));obtain⟨y,X⟩:∃ y,Tr.ak 5 t=y:=⟨_,rfl⟩;rw[X]at M F;have Y:=ah X;clear X;go_enter Tryz.func115,Tryz.ntmps115;go_wp2_with fail;rw[← HG.o,← Q.o];refine M.mono ?_;rintro e v1 ⟨rfl,r⟩;have c:=ah (h.later r);clear r J L M
 have J:=c.c0;have L:=c.c1
 cases y with
 | false=>
  obtain rfl:x=0:=F.symm;go_wp2_with fail;go_ret;exact⟨rfl,c.below⟩
 | true=>
  have D:=Lu (Tr.aO.1 Y);clear Y
  cases t with
  | mk es ks=>
   obtain⟨A,U⟩:=bn H;have HR:=ah H;have q:=ah A;have j:ai (∀ e∈es,-1099511627776≤e.v∧e.v≤1099511627776):=D
   have hnk:ne≤999:=by have:=bE es ks;omega
   clear A U H D;have R:ai (g_ es=x):=F.o;clear F;clear hn;go_wp2_with fail;clear J L
   go_loopw [3,12] (fun s9 i wr=>∃ (k:Nat),k≤ne∧i = .int .i64 k∧s9 = .int .i64 (g_ (es.take k))∧ai (Kept [(⟨g,0,none⟩,.slice Ae ne ce),(⟨g,1,none⟩,.slice Ak nk ck)] w wr)) (fun _ i _=>ne-(intOf i).toNat)
   case atStart=>exact⟨0,by omega,rfl,rfl,c⟩
   case round=>
    obtain⟨k,hk,rfl,rfl,a⟩:=hrel;have J:=a.c0;have L:=a.c1
    by_cases V:k<ne
    ·have m:k<es.length:=by rw[q.o];exact V
     obtain⟨b,o,rfl,G,Z⟩:=uR HR (by omega);obtain⟨c0,c1,c2,c3⟩:=Z k m;have c0:=(a.below.cell (p:=⟨b,o+k*4,none⟩) G).trans c0;have c1:=(a.below.cell (p:=⟨b,o+k*4+1,none⟩) G).trans c1;have c2:=(a.below.cell (p:=⟨b,o+k*4+2,none⟩) G).trans c2;have c3:=(a.below.cell (p:=⟨b,o+k*4+3,none⟩) G).trans c3;obtain⟨s1,C⟩:∃ s:Int,g_ (es.take k)=s:=⟨_,rfl⟩;obtain⟨s2,n⟩:∃ s:Int,g_ (es.take (k+1))=s:=⟨_,rfl⟩;have d:=Iy m;have B:=DU j k (by omega);have z:=DU j (k+1) (by omega);have u:=j.o _ (bT m);obtain⟨v,hv⟩:∃ v:Int,(es[k]).v=v:=⟨_,rfl⟩;rw[hv]at c3 d u;rw[C]at d B ⊢;rw[n]at d z
     have hw:IntKind.i64.wrap (s1+v)=s2:=by rw[iN];omega
     have O:=ah n;clear C n d B z u hv Z

     go_wp2_with fail;go_roundw
     case rel=>exact⟨k+1,by omega,by go_num,by rw[O.o],(a.alloc _)⟩
     case measure=>simp[intOf];omega
    ·obtain rfl:k=ne:=by omega
     have f:g_ (es.take k)=x:=by rw[← R.o,eO (by rw[q.o];omega)]
     rw[f];clear f;go_wp2_with fail;go_ret;exact⟨rfl,a.below⟩
end Cs
end
section
open ChangeShapes WideShapes ChangeAt RowKit Go.Shelf Go.Sort
namespace Cs
open Tr Cx Sp Rw Classical
theorem FB {α:Type} [Inhabited α] [DecidableEq α] (d:Array α):∀ m j,j<m→d[j]! ∈ Lib.compactUpTo d m
 | 0,j,h=>absurd h (by omega)
 | m+1,j,h=>by
  rw[Lib.compactUpTo_succ,fO]
  by_cases c:j<m
  ·exact .inl (FB d m j c)
  ·obtain rfl:j=m:=by omega
   cases f:Lib.keeps d j with
   | true=>exact .inr (by simp)
   | false=>
    have a:¬(j=0∨d[j]! ≠ d[j-1]!):=yF f;have h2:j≠0:=fun e=>a (.inl e);have b:d[j]! = d[j-1]!:=yX fun e=>a (.inr e);rw[b];exact .inl (FB d j (j-1) (by omega))
theorem LU {α:Type} [Inhabited α] [DecidableEq α] {d:Array α} {m:Nat} {x:α} (h:x∈Lib.compactUpTo d m):∃ j,j<m∧x=d[j]!:=by
 unfold Lib.compactUpTo at h;obtain⟨j,a,rfl⟩:=dH.1 h;exact⟨j,List.mem_range.1 (qR.1 a).1,rfl⟩
theorem GA (d:Array (List UInt8)) (g:∀ i j,i<j→j<d.size→Op.bytesLess d[j]! d[i]! = false):∀ m,m≤d.size→(Lib.compactUpTo d m).Pairwise fun a b=>Op.bytesLess a b=true
 | 0,_=>by simp[Lib.compactUpTo]
 | m+1,h=>by
  rw[Lib.compactUpTo_succ,List.pairwise_append]
  refine⟨GA d g m (by omega),by split <;> simp,fun a s b f=>?_⟩
  obtain⟨j,t,rfl⟩:=LU s
  cases n:Lib.keeps d m with
  | false=>rw[n]at f;simp at f
  | true=>
   rw[n]at f
   obtain rfl:b=d[m]!:=by simpa using f
   have p:d[m]! ≠ d[m-1]!:=by
    have c:m=0∨d[m]! ≠ d[m-1]!:=jH n
    rcases c with c | c
    ·omega
    ·exact c
   have r:=g j m t (by omega)
   rcases iX d[j]! d[m]! with c | c | c
   ·exact c
   ·exfalso
    by_cases l:j=m-1
    ·rw[l]at c;exact p c.symm
    ·have k:=g j (m-1) (by omega) (by omega)
     have q:=g (m-1) m (by omega) (by omega);rw[c]at k
     rcases iX d[m]! d[m-1]! with e | e | e
     ·rw[e]at q;cases q
     ·exact p e
     ·rw[e]at k;cases k
   ·rw[c]at r;cases r
def gu (l:List ByteArray):List ByteArray:=(Lib.compact (l.map rX)).map K_
theorem BV (l:List ByteArray):(gu l).length≤l.length:=by
 unfold gu;rw[eP];exact aN (Lib.compact_length_le _) (by rw[eP];exact bG)
theorem sU {a:List (List UInt8)} {x:List UInt8} : x∈Lib.compact a↔x∈a:=by
 unfold Lib.compact;constructor
 ·intro h
  obtain⟨j,b,rfl⟩:=LU h;rw[show a.toArray[j]! = a[j] from by simp[b]];exact bT b
 ·intro h
  obtain⟨j,b,rfl⟩:=qz h;have c:=FB a.toArray a.length j b
  rwa [show a.toArray[j]! = a[j] from by simp[b]]at c
theorem IY {l:List ByteArray} {x:ByteArray} : x∈gu l↔x∈l:=by
 unfold gu;constructor
 ·intro h
  obtain⟨y,a,rfl⟩:=dH.1 h;obtain⟨z,b,rfl⟩:=dH.1 (sU.1 a);rw[CV];exact b
 ·intro h
  exact dH.2 ⟨rX x,sU.2 (dH.2 ⟨x,h,rfl⟩),CV x⟩
theorem GV {l:List ByteArray} (h:l.Pairwise fun a b=>¬cK b a):(gu l).Pairwise cK:=by
 unfold gu;rw[List.pairwise_map]
 have g:=GA (l.map rX).toArray (fun i j f m=>by
  have d:j<l.length:=by simpa using m
  have c:i<l.length:=by omega
  have e:=tV.1 h i j c d f;rw[show (l.map rX).toArray[j]! = rX l[j] from by simp[d],show (l.map rX).toArray[i]! = rX l[i] from by simp[c]]
  cases k:Op.bytesLess (rX l[j]) (rX l[i])with
  | false=>rfl
  | true=>
   refine absurd ?_ e;unfold cK;rw[nu,nu]
   exact k) (l.map rX).length (by simp)
 refine List.Pairwise.imp (fun {a b} e=>?_) g;unfold cK;rw[nu,nu];show Op.bytesLess (rX (K_ a)) (rX (K_ b))=true;rw[G9,G9];exact e
theorem KN (l:List ByteArray):lF l (gu (kU l)):=⟨GV (yg l),fun _=>IY.trans vg⟩
theorem IZ (l:List ByteArray) (n m:Nat) (A:Option Addr) (c base:Nat) (w:World) (s:l.length=n) (f:(gu l).length=m) (hn:n≤900000) (i:Own w base 9 1 A n c (strs l)) :
  Calls Tryz.prog 150 #[.slice A n c] w fun e w'=>e = .returned (.slice A m c)∧Own w' base 9 1 A m c (strs (gu l))∧Below base w w':=by
 rcases Nat.eq_zero_or_pos n with p | p
 ·subst p
  have:l=[]:=DZ s;subst this;have j:gu []=[]:=DZ (Nat.le_zero.1 (BV []))
  obtain rfl:m=0:=by rw[← f,j];rfl
  refine (Go.Proofs.AnyG.slices_Compact_string_empty zu A c w).mono ?_;rintro e w' ⟨rfl,rfl⟩;exact⟨rfl,by rw[j];exact i,bN⟩
 ·subst s
  rcases i.row.2 with ⟨_,h⟩ | ⟨g,cap,cur,B,y,z,x,h2,h3,r⟩
  ·omega
  ·injection B with e1 _ e3
   subst e1;subst e3;rw[Nat.mul_one,yo]at r;have u:=Go.Proofs.AnyG.slices_Compact_string zu g 0 c (l.map rX) w (holds_of_block z (by simpa using r)) (by rw[eP];omega) (by rw[eP];exact x)
   have a:(Lib.compact (l.map rX)).length=m:=by rw[← f];unfold gu;rw[eP]
   rw[eP,a]at u;refine u.mono ?_;rintro e w' ⟨rfl,q,rfl⟩;refine⟨rfl,⟨?_,jD _⟩,Lib.below_putRow (bN) y⟩;have t:=i.row;rw[yo]at t
   have d:m≤l.length:=by rw[← f];exact BV l
   have b:=Lib.ownsRow_putRow (q:=q) (k:=m) (ys:=Lib.compact (l.map rX)++List.replicate (l.length-m) []) t (by simp;omega) d;rw[← a,List.take_left]at b;rw[a]at b
   have v:Tr.strs (gu l)=(Lib.compact (l.map rX)).map encStr:=by
    unfold Tr.strs gu;rw[List.map_map];rfl
   rw[v];exact b
end Cs
end
section
open ChangeShapes WideShapes ChangeAt RowKit
namespace Cs
open Tr Cx Sp Rw Classical
set_option maxRecDepth 100000 in
set_option maxHeartbeats 4000000 in
theorem D5 (t:T) (Ae Ak:Option Addr) (ne nk ce ck:Nat) (w:World) (m:List ByteArray) (q:Nat) (hm:(Tr.ak 5 t=true→lF (t.es.map E.s) m)∧(Tr.ak 5 t=false→m=[])) (hq:m.length=q) (C:LenT reachBytes t) (hn:nodes t≤1000) (hr:aF w w.heap.size t ⟨Ae,ne,ce⟩ ⟨Ak,nk,ck⟩) :
  Calls Tryz.prog 116 #[.agg #[.slice Ae ne ce,.slice Ak nk ck]] w fun e w'=>∃ (A':Option Addr) (c':Nat),e = .returned (.slice A' q c')∧ai (Own w' w.heap.size 9 1 A' q c' (strs m))∧av w w':=by
 have A:∀ W,av w W→ai (Calls Tryz.prog 46 #[.agg #[.slice Ae ne ce,.slice Ak nk ck]] W fun e w'=>e = .returned (.bool (Tr.ak 5 t))∧av W w'):=fun W hW=>bS t Ae Ak ne nk ce ck W C (aF.more hW.size _ (aF.below hr hW));obtain⟨z,hz⟩:∃ z,Tr.ak 5 t=z:=⟨_,rfl⟩;rw[hz]at hm A;have HM:=ah hm;have HQ:=ah hq;clear hz hm hq
 cases t with
 | mk es ks=>
  obtain⟨Y,j⟩:=bn hr;have HR:=ah hr;have y:=ah Y
  have hnk:ne≤1000:=by have:=bE es ks;omega
  clear Y j hr C hn;obtain⟨g,hg⟩:∃ g,g=w.heap.size:=⟨_,rfl⟩;have G:=ah (bQ w Ae Ak ne nk ce ck);rw[← hg]at G;obtain⟨W0,B⟩:∃ W,W=w.alloc (.cells #[.slice Ae ne ce,.slice Ak nk ck] 35):=⟨_,rfl⟩;rw[← B]at G;have HG:=ah hg;have NF:=ah B;have k0:=G.c0;have k1:=G.c1;clear hg B;go_enter Tryz.func116,Tryz.ntmps116;go_wp2_with fail;rw[← HG.o,← NF.o];refine (A W0 G.below).o.mono ?_;rintro e F ⟨rfl,R⟩;have c:=ah (G.later R);clear R k0 k1 A;have k0:=c.c0;have k1:=c.c1
  cases z with
  | false=>
   obtain rfl:m=[]:=HM.2 rfl;obtain rfl:q=0:=HQ.symm;go_wp2_with fail;go_ret;exact⟨none,0,rfl,⟨iy _ _ _ _,by simp[Tr.strs]⟩,c.below⟩
  | true=>
   have NE:ai (lF (es.map E.s) m):=HM.1 rfl;clear HM;go_wp2_with fail
   go_loopw [3,12] (fun v i wr=>∃ (k:Nat) (u:Option Addr) (x:Nat),k≤ne∧i = .int .i64 k∧v = .slice u k x∧ai (Own wr F.heap.size 9 1 u k x (strs ((es.take k).map E.s)))∧ai (av F wr)) (fun _ i _=>ne-(intOf i).toNat)
   case atStart=>exact⟨0,none,0,by omega,rfl,rfl,⟨iy _ _ _ _,by simp[Tr.strs]⟩,bN⟩
   case round=>
    obtain⟨k,u,x,hk,rfl,rfl,HO,d⟩:=hrel;clear k0 k1
    by_cases NG:k<ne
    ·have f:=c.below.trans (d.mono c.below.size)
     have X:k<es.length:=by rw[y.o];exact NG
     obtain⟨b,o,rfl,hb,hc⟩:=uR HR (by omega);obtain⟨c0,c1,c2,c3⟩:=hc k X;have c0:=(f.cell (p:=⟨b,o+k*4,none⟩) hb).trans c0;have c1:=(f.cell (p:=⟨b,o+k*4+1,none⟩) hb).trans c1;have c2:=(f.cell (p:=⟨b,o+k*4+2,none⟩) hb).trans c2;have c3:=(f.cell (p:=⟨b,o+k*4+3,none⟩) hb).trans c3;obtain⟨tx,D⟩:∃ s,s=(es[k]).s:=⟨_,rfl⟩;obtain⟨ea,S⟩:∃ s,s=(es[k]).a:=⟨_,rfl⟩;obtain⟨en,U⟩:∃ s,s=(es[k]).n:=⟨_,rfl⟩;obtain⟨ev,V⟩:∃ s,s=(es[k]).v:=⟨_,rfl⟩;rw[← S]at c0;rw[← U]at c1;rw[← D]at c2;rw[← V]at c3
     have M:ai ((es.take (k+1)).map E.s=(es.take k).map E.s++[tx]):=ah (by rw[dZ X,mD,D];rfl)
     have r:av wr (wr.alloc (.cells #[.int .i64 ea,.int .i64 en,.string tx,.int .i64 ev] 97)):=Dt.ay _ _ _;obtain⟨A6,c6,w6,r1,r2,r3⟩:=kJ (wr.alloc (.cells #[.int .i64 ea,.int .i64 en,.string tx,.int .i64 ev] 97)) F.heap.size (wr.heap.size+1) (by simp) (aG HO r) (aN d.size r.size) tx (by omega)
     have NA:ai (Own w6 F.heap.size 9 1 A6 (k+1) c6 (strs ((es.take (k+1)).map E.s))):=ah (by rw[M.o];exact r2)
     have H:=ah ((d.trans (r.mono d.size)).trans r3);have N:=ah r1;clear r1 r2 r3 r hc f D S U V;go_wp2_with (at_builtin;refine Lib.wpList_append_run _ rfl _ _ _ _ rfl _ _ rfl rfl _ _ N ?_);go_roundw
     case rel=>exact⟨k+1,A6,c6,by omega,by go_num,rfl,NA,H⟩
     case measure=>simp[intOf];omega
    ·obtain rfl:k=ne:=by omega
     obtain⟨l,C⟩:∃ l,l=es.map E.s:=⟨_,rfl⟩
     have N9:ai (Own wr F.heap.size 9 1 u k x (strs l)):=by
      have h1:=HO.o;rw[eO (by rw[y.o];exact bG),← C]at h1;exact h1
     have j:l.length=k:=by rw[C,eP];exact y.o
     have J:ai (gu (kU l)=m):=by
      have h:=NE.o;rw[← C]at h;exact (KN l).eq h
     have HB:=ah (c.below.trans (d.mono c.below.size));have L:=ah (Ah l k u x F.heap.size wr j (by omega) N9 d.size);have N8:=ah j;clear C j;go_wp2_with fail;refine L.mono ?_;rintro e w2 ⟨rfl,Z,O⟩;have N_:=ah Z;have Nz:=ah (HB.trans (O.mono c.below.size));have HC:=ah (IZ (kU l) k q u x F.heap.size w2 (by rw[Ag];exact N8.o) (by rw[J.o];exact HQ.o) (by omega) N_);clear Z O L;go_wp2_with fail;refine HC.mono ?_;rintro e w3 ⟨rfl,Ny,Q⟩
     have NC:ai (Own w3 w.heap.size 9 1 u q x (strs m)):=by
      have h:=Ny.mono c.below.size;rw[J.o]at h;exact h
     have N7:=ah (Nz.trans (Q.mono c.below.size));clear Ny Q HC;go_wp2_with fail;go_ret;exact⟨u,x,rfl,NC,N7⟩
end Cs
namespace Cs
open Tr Cx Sp Rw Classical
end Cs
end
end Go.Proofs.YtgeafpaognhokaaGreat
