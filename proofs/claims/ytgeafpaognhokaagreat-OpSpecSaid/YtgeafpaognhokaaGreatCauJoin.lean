/- Two joined, and compared. -/
import Derived.Test.YtgeafpaognhokaaGreatG00
import Derived.Test.YtgeafpaognhokaaGreatG50
import Derived.Test.YtgeafpaognhokaaGreatG10
set_option maxRecDepth 100000
set_option maxHeartbeats 4000000
namespace Go.Proofs.YtgeafpaognhokaaGreat
open ChangeShapes WideShapes ChangeAt RowKit
namespace Cs
open Tr Cx Sp Rw Classical
structure eH (w':World) (lo:Nat) (k:K) (Ae:Option Addr) (ne ce:Nat) (Ak:Option Addr) (nk ck:Nat) (Ca:Option Addr) (na ca9:Nat):Prop where
 tree:aX w' (fun b=>lo≤b) k.1 ⟨Ae,ne,ce⟩ ⟨Ak,nk,ck⟩
 len:k.2.length=na
 ctx:RO w' (fun b=>lo≤b) 3 Ca na ca9 (aP k.2)
theorem eH.later {w w':World} {f:Nat} {k:K} {Ae Ak e:Option Addr} {ne ce nk ck g a:Nat} (h:eH w f k Ae ne ce Ak nk ck e g a) (c:av w w'):eH w' f k Ae ne ce Ak nk ck e g a:=⟨aX.later h.tree c,h.len,h.ctx.keep c.size fun b _ d=>c.block b d⟩
instance {lo:Nat} {k:K} {Ae Ak Ca:Option Addr} {ne ce nk ck na ca9:Nat} {v v':World} : fE v v' (eH v lo k Ae ne ce Ak nk ck Ca na ca9) (eH v' lo k Ae ne ce Ak nk ck Ca na ca9):=⟨fun h hb=>h.later hb⟩
theorem eH.mono {w:World} {f b:Nat} {k:K} {Ae Ak d:Option Addr} {ne ce nk ck g a:Nat} (h:eH w f k Ae ne ce Ak nk ck d g a) (e:b≤f):eH w b k Ae ne ce Ak nk ck d g a:=⟨aX.mono (fun _ c _=>aN e c) _ h.tree,h.len,h.ctx.mono fun _ c _=>aN e c⟩
theorem eH.M_ {w:World} {c:Nat} {k:K} {Ae Ak b:Option Addr} {ne ce nk ck d a:Nat} (h:eH w c k Ae ne ce Ak nk ck b d a):aF w w.heap.size k.1 ⟨Ae,ne,ce⟩ ⟨Ak,nk,ck⟩:=aX.rd _ h.tree
theorem eH.no (w:World) (a:Nat):eH w a bH none 0 0 none 0 0 none 0 0:=⟨aX.none _ _ _ _ _ _,rfl,RO.nil _ _ _ _ _⟩
theorem eH.gT {w:World} {d r:Nat} {k:K} {Ae Ak f:Option Addr} {ne ce nk ck i a:Nat} (h:eH w d k Ae ne ce Ak nk ck f i a) (hr:r<d) (v0 v1 v2:Value):eH (((w.setCell ⟨r,0,none⟩ v0).setCell ⟨r,1,none⟩ v1).setCell ⟨r,2,none⟩ v2) d k Ae ne ce Ak nk ck f i a:=by
 have g:∀ b,d≤b→(((w.setCell ⟨r,0,none⟩ v0).setCell ⟨r,1,none⟩ v1).setCell ⟨r,2,none⟩ v2).heap[b]?=w.heap[b]?:=fun b c=>
  ((cZ _ ⟨r,2,none⟩ _ b (fun e=>by have h:b=r:=e;omega)).trans (cZ _ ⟨r,1,none⟩ _ b (fun e=>by have h:b=r:=e;omega))).trans (cZ _ ⟨r,0,none⟩ _ b (fun e=>by have h:b=r:=e;omega))
 exact⟨aX.keep (by simp[World.setCell]) (fun b c _=>g b c) _ h.tree,h.len,h.ctx.keep (by simp[World.setCell]) fun b c _=>g b c⟩
def wM (k:K) (w:World) (e:Ending) (w':World):Prop:=∃ Ae ne ce Ak nk ck Ca na ca9,e = .returned (.agg #[.slice Ae ne ce,.slice Ak nk ck,.slice Ca na ca9])∧eH w' w.heap.size k Ae ne ce Ak nk ck Ca na ca9∧av w w'
def Av (k:K) (x:Int) (w:World) (e:Ending) (w':World):Prop:=∃ Ae ne ce Ak nk ck Ca na ca9,e = .returned (.tuple #[.agg #[.slice Ae ne ce,.slice Ak nk ck,.slice Ca na ca9],.int .i64 x])∧eH w' w.heap.size k Ae ne ce Ak nk ck Ca na ca9∧av w w'
theorem BZ (g:List S3) (i:Option Addr) (a d:Nat) (w:World) (t:g.length=a) (hna:a≤1000) (p:Rd w w.heap.size 3 i a d (aP g)) :
  Calls Tryz.prog 147 #[.slice i a d] w fun e w'=>∃ A c,e = .returned (.slice A a c)∧RO w' (fun b=>w.heap.size≤b) 3 A a c (aP g)∧av w w':=by
 obtain⟨k,c2,q,j,h,l⟩:=IU (w:=w) (base:=w.heap.size) (n:=0) (m:=a) (c:=0) (c':=d) (A:=none) (A':=i) (xs:=[]) (ys:=g) ⟨iy _ _ _ _,by simp[aP]⟩ p (by omega) (bG);rw[Nat.zero_add]at j h;rw[List.nil_append]at h;have f:=ah j;have r:ai (RO q (fun b=>w.heap.size≤b) 3 k a c2 (aP g)∧av w q):=⟨(RO.b_ h).mono fun _ s _=>s.1,l⟩;clear j h l p t;go_enter Tryz.func147,Tryz.ntmps147;go_wp2_with (at_builtin;refine Lib.wpList_append_run _ rfl _ _ _ _ rfl _ _ rfl rfl _ _ f ?_);go_ret;exact⟨k,c2,rfl,r⟩
theorem LF (w:World) (Ae Ak e c d f:Option Addr) (ne nk ce ck k a i mk g h l b:Nat):∃ (W:World) (p q r:Nat),ai (W=((w.alloc (.cells #[.slice Ae ne ce,.slice Ak nk ck,.slice e k a] 42)).alloc (.cells #[.slice c i g,.slice d mk h,.slice f l b] 42)).alloc (.cells #[.slice none 0 0,.slice none 0 0,.slice none 0 0] 42))∧ai (p=w.heap.size)∧ai (q=p+1)∧ai (r=p+1+1)∧ai (Kept [(⟨p,0,none⟩,.slice Ae ne ce),(⟨p,1,none⟩,.slice Ak nk ck),(⟨p,2,none⟩,.slice e k a),(⟨q,0,none⟩,.slice c i g),(⟨q,1,none⟩,.slice d mk h),(⟨q,2,none⟩,.slice f l b)] w W)∧ai (Kept [(⟨r,0,none⟩,.slice none 0 0),(⟨r,1,none⟩,.slice none 0 0),(⟨r,2,none⟩,.slice none 0 0)] w W)∧ai (aA r W):=by
 refine⟨_,_,_,_,rfl,rfl,rfl,rfl,?_,?_,⟨by simp,fun j=>by go_simp⟩⟩
 ·have m:=Kept.a_ (gH w #[.slice Ae ne ce,.slice Ak nk ck,.slice e k a] #[.slice c i g,.slice d mk h,.slice f l b] #[.slice none 0 0,.slice none 0 0,.slice none 0 0] 42 42 42)
  refine (((((m.af ?_).af ?_).af ?_).af ?_).af ?_).af ?_ <;> go_simp
 ·have m:=Kept.a_ (gH w #[.slice Ae ne ce,.slice Ak nk ck,.slice e k a] #[.slice c i g,.slice d mk h,.slice f l b] #[.slice none 0 0,.slice none 0 0,.slice none 0 0] 42 42 42)
  refine ((m.af ?_).af ?_).af ?_ <;> go_simp
theorem u_ (t u:T) (j k:List S3) (Ae Ak O Be Bk Q:Option Addr) (ne nk ce ck n h me mk de dk s i:Nat) (w:World) (hn:nodes t≤1000) (hl:j.length=n) (hna:n≤1000) (hr:aF w w.heap.size t ⟨Ae,ne,ce⟩ ⟨Ak,nk,ck⟩) (hc:Rd w w.heap.size 3 O n h (aP j)) (Z:nodes u≤1000) (Y:k.length=s) (hnb:s≤1000) (Ny:aF w w.heap.size u ⟨Be,me,de⟩ ⟨Bk,mk,dk⟩) (U:Rd w w.heap.size 3 Q s i (aP k)) (ht:au 5 t) (hu:au 5 u) (V:aH j) (X:aH k) :
  Calls Tryz.prog 71 #[.agg #[.slice Ae ne ce,.slice Ak nk ck,.slice O n h],.agg #[.slice Be me de,.slice Bk mk dk,.slice Q s i]] w fun e w'=>∃ x,l8 (t,j) (u,k) x∧x.2.length≤n+s∧wM x w e w':=by
 have J:=ah (And.intro ht (And.intro hu (And.intro V X)));clear ht hu V X;have G:=ah (And.intro hn (And.intro hl (And.intro hr hc)));clear hn hl hr hc;have H:=ah (And.intro Z (And.intro Y (And.intro Ny U)));clear Z Y Ny U;obtain⟨W,p,q,r,HW,HP,HQ,HR,a,d,c⟩:=LF w Ae Ak O Be Bk Q ne nk ce ck n h me mk de dk s i
 have N8:w.heap.size≤r:=by have:=HP.o;have:=HR.o;omega
 have hpr:p<r:=by have:=HR.o;omega
 have hqr:q<r:=by have:=HQ.o;have:=HR.o;omega
 have a:=ah a.drew;have d:=ah d.drew;have c:=ah c.drew;go_enter Tryz.func71,Tryz.ntmps71;go_wp2_with fail;rw[← HW.o,← HP.o,← HR.o]
 try rw[← HQ.o]
 refine Rg (S:=eB _) a.cj (fun hHeld=>?_);obtain⟨w1,N7⟩:∃ v,v=W.drew:=⟨_,rfl⟩;rw[← N7]at hHeld a d c ⊢;clear N7;refine T4 0 5 1 6 3 8 4 9 ?_;refine T2 5 10 6 11 ?_;refine Tc 2 (fun K A=>?_);go_simp;(go_at_call 124;refine (y9 4 (fun ca cb=>DV 4 ca cb) j k t u Ae Ak Be Bk O Q ne nk ce ck me mk de dk n h s i w1 (.inl J.1) (.inl J.2.1) (by have:=G.1;omega) (by have:=H.1;omega) G.2.1 H.2.1 (by omega) (by omega) ((G.2.2.2.below a.below).more a.below.size) ((H.2.2.2.below a.below).more a.below.size) J.2.2.1 J.2.2.2 (aF.more a.below.size _ (aF.below G.2.2.1 a.below)) (aF.more a.below.size _ (aF.below H.2.2.1 a.below))).mono ?_)
 rintro e v2 ⟨B,rn,C,Rk,D,rd,rfl,Nz,f⟩;obtain⟨N,l⟩:∃ z,z=w1.heap.size:=⟨_,rfl⟩
 have NJ:r<N:=by rw[l];exact c.1
 have NG:ai (w.heap.size≤N):=ah (by rw[l];exact a.below.size)
 have R:ai (aX v2 (fun b=>N≤b) (bf 5 j k t u) ⟨B,rn,C⟩ ⟨Rk,D,rd⟩):=ah (by rw[l];exact Nz)
 have hB2:N≤v2.heap.size:=by rw[l];exact f.size
 obtain⟨a,d,c⟩:=kX f a d c;clear Nz f l;clear hHeld;refine Th A ?_ (fun hHeld=>?_)
 ·exact a.cj
 clear A K;refine Tc 7 (fun K A=>?_);go_simp;(go_at_call 125;refine (rQ j k n s O Q h i v2 G.2.1 H.2.1 (by omega) (by omega) ((G.2.2.2.below a.below).more a.below.size) ((H.2.2.2.below a.below).more a.below.size) J.2.2.1 J.2.2.2).mono ?_);rintro e v7 ⟨xs,F,L,M,rfl,N9,NA,NC,N_,f⟩;have NH:ai (l8 (t,j) (u,k) (bf 5 j k t u,xs)):=⟨rfl,NA⟩;have NF:ai (eH v7 N (bf 5 j k t u,xs) B rn C Rk D rd L F M):=⟨aX.later R f,N9,(RO.b_ N_).mono fun b hb _=>by have:=hb.1;omega⟩;have NI:ai (F≤n+s):=NC;obtain⟨a,d,c⟩:=kX f a d c;clear f N9 NA NC N_ R;obtain⟨z0,z1,z2,-⟩:=d.cj;have m0:=c.2 0;have m1:=c.2 1;have m2:=c.2 2;clear hHeld
 refine Th A ?_ (fun hHeld=>?_)
 ·exact a.cj
 clear A K;refine Tk 8 13 ?_;refine Tc 9 (fun K A=>?_);go_simp;refine Th A ?_ (fun g=>?_)
 ·(try dsimp only)
  have h9:=a.past3 (p:=r) N8 (by simp;omega) (.slice B rn C) (.slice Rk D rd) (.slice L F M);exact h9.cj
 clear A K hHeld;have hHeld:=g;clear g;refine Td ?_;clear hHeld;obtain⟨W9,m⟩:∃ W,W=((v7.setCell ⟨r,0,none⟩ (.slice B rn C)).setCell ⟨r,1,none⟩ (.slice Rk D rd)).setCell ⟨r,2,none⟩ (.slice L F M):=⟨_,rfl⟩;have NE:=jF m a.below N8
 have y:ai (eH W9 w.heap.size (bf 5 j k t u,xs) B rn C Rk D rd L F M):=by
  unfold ai;rw[m];exact (NF.gT NJ _ _ _).mono NG
 obtain⟨l0,l1,l2⟩:=kH m z0 z1 z2;clear z0 z1 z2 m0 m1 m2;rw[← m];clear m;go_wp2_with fail;refine bodyPost_ret (v:=.agg #[.slice B rn C,.slice Rk D rd,.slice L F M]) (by simp[results,Tryz.results71,go_sem,l0,l1,l2]) rfl ⟨_,NH,by have:=NI.o;have:=y.len;omega,B,rn,C,Rk,D,rd,L,F,M,rfl,y,NE⟩
def ug (a b:K) (na nb:Nat) (w:World) (e:Ending) (w':World):Prop:=∃ (x:K) (z:Int),((RK a∧RK b→z=0∧l8 a b x∧x.2.length≤na+nb)∧(¬(RK a∧RK b)→z=1∧x=bH))∧Av x z w e w'
theorem jO (t u:T) (B C:List S3) (Ae Ak S Q R U:Option Addr) (ne nk ce ck D k me mk X Y F l:Nat) (w:World) (hn:nodes t≤1000) (hl:B.length=D) (N7:D≤1000) (hr:aF w w.heap.size t ⟨Ae,ne,ce⟩ ⟨Ak,nk,ck⟩) (hc:Rd w w.heap.size 3 S D k (aP B)) (Nz:nodes u≤1000) (Ny:C.length=F) (N8:F≤1000) (N9:aF w w.heap.size u ⟨Q,me,X⟩ ⟨R,mk,Y⟩) (Z:Rd w w.heap.size 3 U F l (aP C)) :
  Calls Tryz.prog 29 #[.agg #[.slice Ae ne ce,.slice Ak nk ck,.slice S D k],.agg #[.slice Q me X,.slice R mk Y,.slice U F l]] w (ug (t,B) (u,C) D F w):=by
 have y:=ah (And.intro hn (And.intro hl (And.intro hr hc)));clear hn hl hr hc;have A:=ah (And.intro Nz (And.intro Ny (And.intro N9 Z)));clear Nz Ny N9 Z;obtain⟨W,p,q,r,HW,HP,HQ,HR,a,f,b⟩:=LF w Ae Ak S Q R U ne nk ce ck D k me mk X Y F l
 have O:w.heap.size≤r:=by have:=HP.o;have:=HR.o;omega
 have hpr:p<r:=by have:=HR.o;omega
 have hqr:q<r:=by have:=HQ.o;have:=HR.o;omega
 obtain⟨c0,c1,c2,c3,c4,c5,-⟩:=a.cj;have m:=ah (jg t B Ae Ak S ne nk ce ck D k W y.1 y.2.1 N7 (aF.more a.below.size _ (aF.below y.2.2.1 a.below)) ((y.2.2.2.below a.below).more a.below.size));go_enter Tryz.func29,Tryz.ntmps29;go_wp2_with fail;rw[← HW.o,← HP.o,← HR.o]
 try rw[← HQ.o]
 cases L:bB (t,B)with
 | false=>
  rw[L]at m
  have G:ai (¬RK (t,B)):=fun h=>by rw[bI.2 h]at L;cases L
  clear L;refine m.mono ?_;rintro e v1 ⟨rfl,d⟩;obtain⟨a,f,b⟩:=kX d a f b;clear d c0 c1 c2 c3 c4 c5;obtain⟨z0,z1,z2,-⟩:=f.cj;have m0:=b.2 0;have m1:=b.2 1;have m2:=b.2 2;obtain⟨V,c⟩:∃ W,W=((v1.setCell ⟨r,0,none⟩ (.slice none 0 0)).setCell ⟨r,1,none⟩ (.slice none 0 0)).setCell ⟨r,2,none⟩ (.slice none 0 0):=⟨_,rfl⟩;have i:=jF c a.below O
  have g:ai (eH V w.heap.size bH none 0 0 none 0 0 none 0 0):=by
   unfold ai;rw[c];exact eH.no _ _
  obtain⟨l0,l1,l2⟩:=kH c z0 z1 z2;have j:=ah c;clear c;go_wp2_with fail;rw[← j.o];refine bodyPost_ret (v:=.tuple #[.agg #[.slice none 0 0,.slice none 0 0,.slice none 0 0],.int .i64 1]) (by simp[results,Tryz.results29,go_sem,l0,l1,l2]) rfl ⟨bH,1,⟨fun h=>absurd h.1 G,fun _=>⟨rfl,rfl⟩⟩,none,0,0,none,0,0,none,0,0,rfl,g,i⟩
 | true=>
  rw[L]at m;have H:ai (RK (t,B)):=bI.1 L;clear L;refine m.mono ?_;rintro e v1 ⟨rfl,d⟩;obtain⟨a,f,b⟩:=kX d a f b;clear d c0 c1 c2 c3 c4 c5;obtain⟨c0,c1,c2,c3,c4,c5,-⟩:=a.cj;have n:=ah (jg u C Q R U me mk X Y F l v1 A.1 A.2.1 N8 (aF.more a.below.size _ (aF.below A.2.2.1 a.below)) ((A.2.2.2.below a.below).more a.below.size));go_wp2_with fail
  cases M:bB (u,C)with
  | false=>
   rw[M]at n
   have G:ai (¬RK (u,C)):=fun h=>by rw[bI.2 h]at M;cases M
   clear M;refine n.mono ?_;rintro e v2 ⟨rfl,d⟩;obtain⟨a,f,b⟩:=kX d a f b;clear d c0 c1 c2 c3 c4 c5;obtain⟨z0,z1,z2,-⟩:=f.cj;have m0:=b.2 0;have m1:=b.2 1;have m2:=b.2 2;obtain⟨V,c⟩:∃ W,W=((v2.setCell ⟨r,0,none⟩ (.slice none 0 0)).setCell ⟨r,1,none⟩ (.slice none 0 0)).setCell ⟨r,2,none⟩ (.slice none 0 0):=⟨_,rfl⟩;have i:=jF c a.below O
   have g:ai (eH V w.heap.size bH none 0 0 none 0 0 none 0 0):=by
    unfold ai;rw[c];exact eH.no _ _
   obtain⟨l0,l1,l2⟩:=kH c z0 z1 z2;have j:=ah c;clear c;go_wp2_with fail;rw[← j.o];refine bodyPost_ret (v:=.tuple #[.agg #[.slice none 0 0,.slice none 0 0,.slice none 0 0],.int .i64 1]) (by simp[results,Tryz.results29,go_sem,l0,l1,l2]) rfl ⟨bH,1,⟨fun h=>absurd h.2 G,fun _=>⟨rfl,rfl⟩⟩,none,0,0,none,0,0,none,0,0,rfl,g,i⟩
  | true=>
   rw[M]at n;have J:ai (RK (u,C)):=bI.1 M;clear M;refine n.mono ?_;rintro e v2 ⟨rfl,d⟩;obtain⟨a,f,b⟩:=kX d a f b;clear d c0 c1 c2 c3 c4 c5;obtain⟨c0,c1,c2,c3,c4,c5,-⟩:=a.cj;have HJ:=ah (u_ t u B C Ae Ak S Q R U ne nk ce ck D k me mk X Y F l v2 y.1 y.2.1 N7 (aF.more a.below.size _ (aF.below y.2.2.1 a.below)) ((y.2.2.2.below a.below).more a.below.size) A.1 A.2.1 N8 (aF.more a.below.size _ (aF.below A.2.2.1 a.below)) ((A.2.2.2.below a.below).more a.below.size) H.tree J.tree H.ctx J.ctx);go_wp2_with fail;refine HJ.mono ?_;rintro e v3 ⟨x,hx,N_,Re,rn,rc,Rk,rm,rd,Rc,rq,re,rfl,N,d⟩;obtain⟨B1,s⟩:∃ z,z=v2.heap.size:=⟨_,rfl⟩
   have NE:r<B1:=by rw[s];exact b.1
   have NC:ai (w.heap.size≤B1):=ah (by rw[s];exact a.below.size)
   rw[← s]at N;have NA:=ah N;have HX:=ah (And.intro hx N_);obtain⟨a,f,b⟩:=kX d a f b;clear d N hx N_ s c0 c1 c2 c3 c4 c5;obtain⟨z0,z1,z2,-⟩:=f.cj;have m0:=b.2 0;have m1:=b.2 1;have m2:=b.2 2;obtain⟨V,c⟩:∃ W,W=((v3.setCell ⟨r,0,none⟩ (.slice Re rn rc)).setCell ⟨r,1,none⟩ (.slice Rk rm rd)).setCell ⟨r,2,none⟩ (.slice Rc rq re):=⟨_,rfl⟩;have i:=jF c a.below O
   have g:ai (eH V w.heap.size x Re rn rc Rk rm rd Rc rq re):=by
    unfold ai;rw[c];exact (NA.gT NE _ _ _).mono NC
   obtain⟨l0,l1,l2⟩:=kH c z0 z1 z2;have j:=ah c;clear c;go_wp2_with fail;rw[← j.o];refine bodyPost_ret (v:=.tuple #[.agg #[.slice Re rn rc,.slice Rk rm rd,.slice Rc rq re],.int .i64 0]) (by simp[results,Tryz.results29,go_sem,l0,l1,l2]) rfl ⟨x,0,⟨fun _=>⟨rfl,HX⟩,fun h=>absurd ⟨H,J⟩ h⟩,Re,rn,rc,Rk,rm,rd,Rc,rq,re,rfl,g,i⟩
end Cs
end Go.Proofs.YtgeafpaognhokaaGreat
