/- Texts of the lower layers, and of layer 9, put together. -/
import Derived.Test.YtgeafpaognhokaaGreatG00
import Derived.Test.YtgeafpaognhokaaGreatCauJoin
import Derived.Test.YtgeafpaognhokaaGreatTreeRefSame
import Derived.Test.YtgeafpaognhokaaGreatG10
import Derived.Test.YtgeafpaognhokaaGreatG50
import Derived.Test.YtgeafpaognhokaaGreatG20
import Derived.Test.YtgeafpaognhokaaGreatTreeRefRight
import Derived.Test.YtgeafpaognhokaaGreatTreeBuild
import Derived.Test.YtgeafpaognhokaaGreatG01
import Derived.Test.YtgeafpaognhokaaGreatOpRef1
import Derived.Test.YtgeafpaognhokaaGreatG30
import Derived.Test.YtgeafpaognhokaaGreatTreeLeaves
import Derived.Test.YtgeafpaognhokaaGreatTreeRight
import Derived.Lib.Strings
import Derived.Lib.Slices
import Derived.Lib.Walk
import Derived.Lib.Bytealg
namespace Go.Proofs.YtgeafpaognhokaaGreat
section
open ChangeShapes WideShapes ChangeAt RowKit
namespace Cs
open Tr Cx Sp Rw Classical
theorem Mf (w:World) (Ae Ak b:Option Addr) (ne nk ce ck c a:Nat):∃ (W:World) (p r:Nat),ai (W=(w.alloc (.cells #[.slice Ae ne ce,.slice Ak nk ck,.slice b c a] 42)).alloc (.cells #[.slice none 0 0,.slice none 0 0,.slice none 0 0] 42))∧ai (p=w.heap.size)∧ai (r=p+1)∧ai (Kept [(⟨p,0,none⟩,.slice Ae ne ce),(⟨p,1,none⟩,.slice Ak nk ck),(⟨p,2,none⟩,.slice b c a)] w W)∧ai (Kept [(⟨r,0,none⟩,.slice none 0 0),(⟨r,1,none⟩,.slice none 0 0),(⟨r,2,none⟩,.slice none 0 0)] w W)∧ai (aA r W):=by
 refine⟨_,_,_,rfl,rfl,rfl,?_,?_,⟨by simp,fun j=>by go_simp⟩⟩
 ·have d:=Kept.a_ (Dt.bC w #[.slice Ae ne ce,.slice Ak nk ck,.slice b c a] #[.slice none 0 0,.slice none 0 0,.slice none 0 0] 42 42)
  refine ((d.af ?_).af ?_).af ?_ <;> go_simp
 ·have d:=Kept.a_ (Dt.bC w #[.slice Ae ne ce,.slice Ak nk ck,.slice b c a] #[.slice none 0 0,.slice none 0 0,.slice none 0 0] 42 42)
  refine ((d.af ?_).af ?_).af ?_ <;> go_simp
set_option maxRecDepth 100000 in
set_option maxHeartbeats 4000000 in
theorem Et (t:T) (m:List S3) (Ae Ak J:Option Addr) (ne nk ce ck j l:Nat) (w:World) (hn:nodes t≤1000) (hl:m.length=j) (R:j≤1000) (hr:aF w w.heap.size t ⟨Ae,ne,ce⟩ ⟨Ak,nk,ck⟩) (hc:Rd w w.heap.size 3 J j l (aP m)) :
  Calls Tryz.prog 107 #[.agg #[.slice Ae ne ce,.slice Ak nk ck,.slice J j l]] w (wM (if bB (t,m)=true then (t,m)else bH) w):=by
 obtain⟨k9,D⟩:∃ k,(if bB (t,m)=true then (t,m)else bH)=k:=⟨_,rfl⟩
 rw[D];have O:=ah D;clear D;have u:=ah (And.intro hn (And.intro hl (And.intro hr hc)));clear hn hl hr hc;obtain⟨W,p,r,HW,HP,HR,a,f,c⟩:=Mf w Ae Ak J ne nk ce ck j l
 have F:w.heap.size≤r:=by have:=HP.o;have:=HR.o;omega
 have hpr:p<r:=by have:=HR.o;omega
 obtain⟨c0,c1,c2,-⟩:=a.cj;have x:=ah (jg t m Ae Ak J ne nk ce ck j l W u.1 u.2.1 R (aF.more a.below.size _ (aF.below u.2.2.1 a.below)) ((u.2.2.2.below a.below).more a.below.size));go_enter Tryz.func107,Tryz.ntmps107;go_wp2_with fail;rw[← HW.o,← HP.o]
 try rw[← HR.o]
 cases C:bB (t,m)with
 | false=>
  rw[C]at x
  obtain rfl:k9=bH:=by rw[← O.o,C];rfl
  clear C;refine x.mono ?_;rintro e v1 ⟨rfl,d⟩;obtain⟨a,f,c⟩:=kX d a f c;clear d c0 c1 c2;obtain⟨Z,z1,z2,-⟩:=f.cj;have m0:=c.2 0;have m1:=c.2 1;have m2:=c.2 2;obtain⟨W9,g⟩:∃ W,W=((v1.setCell ⟨r,0,none⟩ (.slice none 0 0)).setCell ⟨r,1,none⟩ (.slice none 0 0)).setCell ⟨r,2,none⟩ (.slice none 0 0):=⟨_,rfl⟩;have A:=jF g a.below F
  have n:ai (eH W9 w.heap.size bH none 0 0 none 0 0 none 0 0):=by
   unfold ai;rw[g];exact eH.no _ _
  obtain⟨l0,l1,l2⟩:=kH g Z z1 z2;have Nz:=ah g;clear g;go_wp2_with fail;rw[← Nz.o];refine bodyPost_ret (v:=.agg #[.slice none 0 0,.slice none 0 0,.slice none 0 0]) (by simp[results,Tryz.results107,go_sem,l0,l1,l2]) rfl ⟨none,0,0,none,0,0,none,0,0,rfl,n,A⟩
 | true=>
  rw[C]at x
  obtain rfl:(t,m)=k9:=by rw[← O.o,C];rfl
  have N8:ai (RK (t,m)):=bI.1 C;clear C;refine x.mono ?_;rintro e v1 ⟨rfl,d⟩;obtain⟨a,f,c⟩:=kX d a f c;clear d c0 c1 c2;go_wp2_with fail;refine Rg (S:=eB _) a.drew.cj (fun hHeld=>?_);obtain⟨X,s⟩:∃ v,v=v1.drew:=⟨_,rfl⟩
  have a:ai (Kept [(⟨p,0,none⟩,.slice Ae ne ce),(⟨p,1,none⟩,.slice Ak nk ck),(⟨p,2,none⟩,.slice J j l)] w X):=ah (by rw[s];exact a.drew)
  have f:ai (Kept [(⟨r,0,none⟩,.slice none 0 0),(⟨r,1,none⟩,.slice none 0 0),(⟨r,2,none⟩,.slice none 0 0)] w X):=ah (by rw[s];exact f.drew)
  have c:ai (aA r X):=ah (by rw[s];exact c.drew)
  rw[← s]at hHeld ⊢;clear s;refine T4 0 7 1 8 3 10 4 11 ?_;refine Tc 2 (fun K y=>?_);go_simp;(go_at_call 146;refine (uq t Ae Ak ne nk ce ck X (LenT.few (by have:=u.1;omega)) (by have:=u.1;omega) (aF.more a.below.size _ (aF.below u.2.2.1 a.below))).mono ?_);rw[aO.2 N8.o.tree,if_pos rfl];rintro e Y ⟨B,rn,G,Rk,H,rd,rfl,U,d⟩;obtain⟨N,q⟩:∃ z,z=X.heap.size:=⟨_,rfl⟩
  have N9:r<N:=by rw[q];exact c.1
  have N7:ai (w.heap.size≤N):=ah (by rw[q];exact a.below.size)
  have Q:ai (aX Y (fun b=>N≤b) t ⟨B,rn,G⟩ ⟨Rk,H,rd⟩):=ah (by rw[q];exact U)
  have hB2:N≤Y.heap.size:=by rw[q];exact d.size
  obtain⟨a,f,c⟩:=kX d a f c;clear U d q;clear hHeld;refine Th y ?_ (fun hHeld=>?_)
  ·exact a.cj
  clear y K;refine Tc 5 (fun K y=>?_);go_simp;(go_at_call 147;refine (BZ m J j l Y u.2.1 R ((u.2.2.2.below a.below).more a.below.size)).mono ?_);rintro e v7 ⟨L,M,rfl,V,d⟩;have Ny:ai (eH v7 N (t,m) B rn G Rk H rd L j M):=⟨aX.later Q d,u.2.1,V.mono fun b hb _=>by have h:Y.heap.size≤b:=hb;omega⟩;obtain⟨a,f,c⟩:=kX d a f c;clear d V Q;obtain⟨Z,z1,z2,-⟩:=f.cj;have m0:=c.2 0;have m1:=c.2 1;have m2:=c.2 2;clear hHeld;refine Th y ?_ (fun hHeld=>?_)
  ·exact a.cj
  clear y K;refine Tk 6 13 ?_;refine Tc 7 (fun K y=>?_);go_simp;refine Th y ?_ (fun i=>?_)
  ·(try dsimp only)
   have h9:=a.past3 (p:=r) F (by simp;omega) (.slice B rn G) (.slice Rk H rd) (.slice L j M);exact h9.cj
  clear y K hHeld;have hHeld:=i;clear i;refine Td ?_;clear hHeld;obtain⟨W9,g⟩:∃ W,W=((v7.setCell ⟨r,0,none⟩ (.slice B rn G)).setCell ⟨r,1,none⟩ (.slice Rk H rd)).setCell ⟨r,2,none⟩ (.slice L j M):=⟨_,rfl⟩;have A:=jF g a.below F
  have n:ai (eH W9 w.heap.size (t,m) B rn G Rk H rd L j M):=by
   unfold ai;rw[g];exact (Ny.gT N9 _ _ _).mono N7
  obtain⟨l0,l1,l2⟩:=kH g Z z1 z2;clear Z z1 z2 m0 m1 m2;rw[← g];clear g;go_wp2_with fail;refine bodyPost_ret (v:=.agg #[.slice B rn G,.slice Rk H rd,.slice L j M]) (by simp[results,Tryz.results107,go_sem,l0,l1,l2]) rfl ⟨B,rn,G,Rk,H,rd,L,j,M,rfl,n,A⟩
end Cs
namespace Cs
open Tr Cx Sp Rw Classical
structure CP where
 k:K
 e:SV
 d:SV
 c:SV
structure vB (w:World) (p:CP):Prop where
 tree:aF w w.heap.size p.k.1 p.e p.d
 len:p.k.2.length=p.c.n
 ctx:Rd w w.heap.size 3 p.c.A p.c.n p.c.c (aP p.k.2)
theorem vB.later {w w':World} {p:CP} (h:vB w p) (a:av w w'):vB w' p:=⟨aF.later h.tree a,h.len,h.ctx.later a⟩
instance {p:CP} {v v':World} : fE v v' (vB v p) (vB v' p):=⟨fun h hb=>h.later hb⟩
def AO (p:CP):List Value:=[.slice p.e.A p.e.n p.e.c,.slice p.d.A p.d.n p.d.c,.slice p.c.A p.c.n p.c.c]
def Eg (w:World) (g:Nat) (ps:List CP):Prop:=∀ (k:Nat) (h:k<ps.length),w.cell? ⟨g,k*3,none⟩=some (.slice ps[k].e.A ps[k].e.n ps[k].e.c)∧w.cell? ⟨g,k*3+1,none⟩=some (.slice ps[k].d.A ps[k].d.n ps[k].d.c)∧w.cell? ⟨g,k*3+2,none⟩=some (.slice ps[k].c.A ps[k].c.n ps[k].c.c)
theorem Eg.later {w w':World} {g:Nat} {d:List CP} (h:Eg w g d) (a:av w w'):Eg w' g d:=fun k i=>by
 obtain⟨c,e,f⟩:=h k i;have b:=aL w _ c;exact⟨(a.cell (p:=⟨g,k*3,none⟩) b).trans c,(a.cell (p:=⟨g,k*3+1,none⟩) b).trans e,(a.cell (p:=⟨g,k*3+2,none⟩) b).trans f⟩
end Cs
namespace Cs
open Tr Cx Sp Rw Classical
theorem FT (w:World) (Ae Ak:Option Addr) (ne nk ce ck:Nat) (a n:Int):∃ (W:World) (p q:Nat),ai (W=(w.alloc (.cells #[.slice Ae ne ce,.slice Ak nk ck] 35)).alloc (.cells #[.int .i64 a,.int .i64 n] 37))∧ai (p=w.heap.size)∧ai (q=p+1)∧ai (Kept [(⟨p,0,none⟩,.slice Ae ne ce),(⟨p,1,none⟩,.slice Ak nk ck),(⟨q,0,none⟩,.int .i64 a),(⟨q,1,none⟩,.int .i64 n)] w W):=by
 refine⟨_,_,_,rfl,rfl,rfl,?_⟩;have b:=Kept.a_ (show av w ((w.alloc (.cells #[.slice Ae ne ce,.slice Ak nk ck] 35)).alloc (.cells #[.int .i64 a,.int .i64 n] 37)) from ((bN).alloc (bG) _).alloc (by simp) _)
 refine (((b.af ?_).af ?_).af ?_).af ?_ <;> go_simp
theorem Gz (w:World) (a n:Int) (b:TypeId):Rd (w.alloc (.cells #[.int .i64 a,.int .i64 n] b)) (w.heap.size+1) 2 (some ⟨w.heap.size,0,none⟩) 1 1 ([(a,n)].flatMap jG):=
 ⟨rfl,bG,fun u hu=>wS (a,n) u (by simpa using hu),fun _=>⟨_,_,rfl,by omega,fun j u hu=>by
  rw[Nat.zero_add,cell_of_row _ _ j _ _ (0,0) (heap_alloc_new _ _)]
  simpa [jG] using hu⟩⟩
theorem Jw {u:List S3} {a n:Int} (hd:Dt.ak a n=true) (hu:aH u):fH u a n=aD u a n:=by
 unfold fH;rw[hd,show bA u=true from aJ hu];rfl
def IJ (t:T) (a n:Int) (w:World) (e:Ending) (w':World):Prop:=∃ (v:List S3) (z:Int) (q c:Nat) (A:Option Addr),e = .returned (.tuple #[.slice A q c,.int .i64 z])∧ai (v.length=q∧RO w' (fun b=>w.heap.size≤b) 3 A q c (aP v))∧ai ((aY t a n=true→z=0∧∃ u,pG (dl t) u∧iW l6 u (eZ a n) v∧q≤4*nodes t+4)∧(aY t a n=false→z=1∧v=[]))∧av w w'
theorem uy {t:T} {a n:Int} {w w':World} (h:aY t a n=false) (c:av w w'):IJ t a n w (.returned (.tuple #[.slice none 0 0,.int .i64 1])) w':=⟨[],1,0,0,none,rfl,ah (And.intro rfl (RO.nil _ _ _ _ _)),ah (And.intro (fun b=>by rw[h]at b;cases b) (fun _=>⟨rfl,rfl⟩)),c⟩
set_option maxRecDepth 100000 in
set_option maxHeartbeats 4000000 in
theorem zB (t:T) (Ae Ak:Option Addr) (ne nk ce ck:Nat) (a n:Int) (w:World) (hl:LenT reachBytes t) (hn:nodes t≤1000) (hr:aF w w.heap.size t ⟨Ae,ne,ce⟩ ⟨Ak,nk,ck⟩) :
  Calls Tryz.prog 92 #[.agg #[.slice Ae ne ce,.slice Ak nk ck],.agg #[.int .i64 a,.int .i64 n]] w (IJ t a n w):=by
 obtain⟨W,p,q,HW,HP,HQ,c⟩:=FT w Ae Ak ne nk ce ck a n;have HR:=ah (aF.more c.below.size _ (aF.below hr c.below));have HL:=ah hl;have HN:=ah hn;clear hr hl hn;have c0:=c.c0;have c1:=c.c1;go_enter Tryz.func92,Tryz.ntmps92;go_wp2_with fail;rw[← HP.o,← HW.o]
 try rw[← HQ.o]
 cases U:Tr.ak 5 t with
 | false=>
  have f:ai (aY t a n=false):=by unfold ai aY;rw[U];rfl
  refine (z8 t Ae Ak ne nk ce ck W U HL HR).mono ?_;rintro e v1 ⟨rfl,l⟩;have c:=ah (c.later l);clear l c0 c1;go_wp2_with fail;go_ret2;exact uy f c.below
 | true=>
  have HT:=ah U;refine (uw t Ae Ak ne nk ce ck W U HL HN HR).mono ?_;rintro e v1 ⟨u,m,B,d,rfl,V,X,hm,S,l⟩;have c:=ah (c.later l);have s:=ah (And.intro V.o (And.intro X.o hm));obtain⟨g,v2,hg,y,A,-,-⟩:=A_ v1 (.int .i64 a) (.int .i64 n) 37;have i:=ah (S.later A);have h1:=Gz v1 a n 37;rw[← y,← hg]at h1;have G:=ah (Gv [(a,n)] 1 (some ⟨g,0,none⟩) 1 v2 rfl (by omega) (h1.more (by rw[y];simp;omega)));have D:=ah (c.later A);have Hg:=ah hg;have Nz:=ah y;clear l c0 c1 V X hm S A h1 hg y U;have c2:=c.c2;have c3:=c.c3;go_wp2_with fail;rw[← Hg.o,← Nz.o];refine G.mono ?_;clear c2 c3;rintro e v3 (⟨r,o,mo,Ao,co,rfl,N,O,M,R,j⟩ | ⟨hno,rfl,j⟩)
  ·have hd:Dt.ak a n=true:=r (a,n) (by simp)
   obtain rfl:o=eZ a n:=O.eq (Gx hd);have c:=ah (D.later j);have i:=ah (i.later j);have HO:=ah (And.intro N.o (And.intro R.o M));have HD:=ah hd;obtain⟨z,hz⟩:∃ z,aD u a n=z:=⟨_,rfl⟩
   have L:fH u a n=z:=by rw[Jw hd s.o.2.1.right];exact hz
   have HZ:=ah hz;have HH:=ah (Jt u m B d a n v3 s.1 (by have:=s.2.2;have:=HN.o;omega) i z L);clear r N O M R j hz L hd;have c2:=c.c2;have c3:=c.c3;go_wp2_with fail;refine HH.mono ?_;rintro e v4 ⟨rfl,C⟩;obtain⟨c,i⟩:=gI C c i;have Ny:=ah (HO.2.1.later C);clear C c2 c3
   cases z with
   | true=>
    have f:ai (aY t a n=false):=by
     have h:=HZ.o;rw[E_ (Tr.aO.1 HT.o) s.o.2.1]at h;unfold ai aY;rw[h,Bool.not_true,Bool.and_false]
    go_wp2_with fail;go_ret2;exact uy f c.below
   | false=>
    have f:ai (aY t a n=true):=by
     have h:=HZ.o;rw[E_ (Tr.aO.1 HT.o) s.o.2.1]at h;unfold ai aY;rw[h,HT.o,HD.o];rfl
    have F:=c;have H:=ah (rQ u (eZ a n) m mo B Ao d co v4 s.1 HO.1 (by have:=s.2.2;have:=HN.o;omega) (by have:=HO.2.2;omega) i Ny s.2.1.right (iL HD));go_wp2_with fail;refine H.mono ?_;rintro e v5 ⟨v,k,A',c',rfl,Y,Z,hk,Q,J⟩;have c:=ah (F.later J);have HV:=ah (And.intro Y.o (And.intro Z.o (And.intro hk Q)));clear Y Z hk Q J H HH G;go_wp2_with fail;go_ret2;exact⟨v,0,k,c',A',rfl,ah (And.intro HV.1 ((RO.b_ HV.2.2.2).mono fun b hb _=>aN (F.below.size) hb.1)),ah (And.intro (fun _=>⟨rfl,u,s.2.1,HV.2.1,by have:=s.2.2;have:=HO.2.2;have:=HV.2.2.1;omega⟩) (fun h=>by rw[f.o]at h;cases h)),c.below⟩
  ·have f:ai (aY t a n=false):=by
    unfold ai aY
    cases hd:Dt.ak a n with
    | false=>rw[Bool.and_false];rfl
    | true=>exact absurd (fun x hx=>by rw[eX.1 hx];exact hd) hno
   have c:=ah (D.later j);clear hno j;go_wp2_with fail;go_ret2;exact uy f c.below
end Cs
end
set_option maxRecDepth 100000
set_option maxHeartbeats 4000000
section
open ChangeShapes WideShapes ChangeAt RowKit
namespace Tr
theorem RO.later {w w':World} {ok:Nat→Prop} {sz n c:Nat} {A:Option Addr} {xs:List Value} (h:RO w ok sz A n c xs) (d:av w w'):RO w' ok sz A n c xs:=h.keep d.size fun b _ a=>d.block b a
instance {ok:Nat→Prop} {sz n c:Nat} {A:Option Addr} {xs:List Value} {v v':World} : fE v v' (RO v ok sz A n c xs) (RO v' ok sz A n c xs):=⟨fun h hb=>h.later hb⟩
end Tr
namespace Cs
open Tr Cx Sp Rw Classical
theorem pM (w:World) (Ae Ak:Option Addr) (ne nk ce ck:Nat) (a n:Int):∃ (W:World) (p q r:Nat),ai (W=((w.alloc (.cells #[.slice Ae ne ce,.slice Ak nk ck] 35)).alloc (.cells #[.int .i64 a,.int .i64 n] 37)).alloc (.cells #[.slice none 0 0,.slice none 0 0,.slice none 0 0] 42))∧ai (p=w.heap.size)∧ai (q=p+1)∧ai (r=p+1+1)∧ai (Kept [(⟨p,0,none⟩,.slice Ae ne ce),(⟨p,1,none⟩,.slice Ak nk ck),(⟨q,0,none⟩,.int .i64 a),(⟨q,1,none⟩,.int .i64 n)] w W)∧ai (Kept [(⟨r,0,none⟩,.slice none 0 0),(⟨r,1,none⟩,.slice none 0 0),(⟨r,2,none⟩,.slice none 0 0)] w W)∧ai (aA r W):=by
 refine⟨_,_,_,_,rfl,rfl,rfl,rfl,?_,?_,⟨by simp,fun j=>by go_simp⟩⟩
 ·have b:=Kept.a_ (gH w #[.slice Ae ne ce,.slice Ak nk ck] #[.int .i64 a,.int .i64 n] #[.slice none 0 0,.slice none 0 0,.slice none 0 0] 35 37 42)
  refine (((b.af ?_).af ?_).af ?_).af ?_ <;> go_simp
 ·have b:=Kept.a_ (gH w #[.slice Ae ne ce,.slice Ak nk ck] #[.int .i64 a,.int .i64 n] #[.slice none 0 0,.slice none 0 0,.slice none 0 0] 35 37 42)
  refine ((b.af ?_).af ?_).af ?_ <;> go_simp
def oo (lo:Nat) (ok:Bool) (er:Int) (x:T) (l:List (Int×Int)) (a n:Int) (N:Nat) (w:World) (e:Ending) (w':World):Prop:=∃ (k:K) (z:Int) (Ae:Option Addr) (ne ce:Nat) (Ak:Option Addr) (nk ck:Nat) (Ca:Option Addr) (na ca9:Nat),e = .returned (.tuple #[.agg #[.slice Ae ne ce,.slice Ak nk ck,.slice Ca na ca9],.int .i64 z])∧ai (eH w' lo k Ae ne ce Ak nk ck Ca na ca9)∧ai ((ok=true→z=0∧k.1=x∧na≤N∧∃ u,pG l u∧iW l6 u (eZ a n) k.2)∧(ok=false→z=er∧k=bH))∧av w w'
theorem cells3 {w:World} {r:Nat} {a b c:Value} : (((w.setCell ⟨r,0,none⟩ a).setCell ⟨r,1,none⟩ b).setCell ⟨r,2,none⟩ c).heap.size=w.heap.size:=by simp[World.setCell]
theorem bR {w:World} {r:Nat} {a b c:Value} (g:Nat) (h:g≠r):(((w.setCell ⟨r,0,none⟩ a).setCell ⟨r,1,none⟩ b).setCell ⟨r,2,none⟩ c).heap[g]?=w.heap[g]?:=
 ((cZ _ ⟨r,2,none⟩ _ g h).trans (cZ _ ⟨r,1,none⟩ _ g h)).trans (cZ _ ⟨r,0,none⟩ _ g h)
theorem zw (t:T) (Ae Ak:Option Addr) (ne nk ce ck:Nat) (a n:Int) (es:List E) (P:Option Addr) (l C:Nat) (M:Nat) (w:World) (hl:LenT reachBytes t) (hn:nodes t≤1000) (hr:aF w w.heap.size t ⟨Ae,ne,ce⟩ ⟨Ak,nk,ck⟩) (R:M≤w.heap.size) (hp:es.length=l) (hP:RO w (fun b=>M≤b) 4 P l C (bV es)) :
  Calls Tryz.prog 139 #[.agg #[.slice Ae ne ce,.slice Ak nk ck],.agg #[.int .i64 a,.int .i64 n],.slice P l C] w (oo M (aY t a n) 1 (.mk es []) (dl t) a n (4*nodes t+4) w):=by
 obtain⟨W,p,q,r,HW,Y,HQ,F,d,x,g⟩:=pM w Ae Ak ne nk ce ck a n
 have L:w.heap.size≤r:=by have:=Y.o;have:=F.o;omega
 have HR:=ah (aF.more d.below.size _ (aF.below hr d.below));have N:ai (RO W (fun b=>M≤b∧b<w.heap.size) 4 P l C (bV es)):=(hP.mono fun b j B=>And.intro j B).keep d.below.size fun b _ B=>d.below.block b B;have O:=ah (And.intro hl (And.intro hn hp));clear hr hl hn hp hP;obtain⟨c0,c1,c2,c3,-⟩:=d.cj;have X:=ah (zB t Ae Ak ne nk ce ck a n W O.1 O.2.1 HR);go_enter Tryz.func139,Tryz.ntmps139;go_wp2_with fail;rw[← Y.o,← HW.o]
 try rw[← F.o]
 try rw[← HQ.o]
 refine X.mono ?_;rintro e v1 ⟨v,z,k,c,A,rfl,hv,hz,H⟩;have J:r<W.heap.size∧w.heap.size≤W.heap.size:=⟨g.1,d.below.size⟩;obtain⟨d,x,g,N⟩:=iR H d x g N;have HV:=ah hv.o;have HZ:=ah hz.o;have G:=ah J;clear H c0 c1 c2 c3 hv hz J X;obtain⟨z0,z1,z2,-⟩:=x.cj;have m0:=g.2 0;have m1:=g.2 1;have m2:=g.2 2
 cases D:aY t a n with
 | false=>
  have s:=ah D;obtain⟨rfl,rfl⟩:=HZ.2 D;obtain⟨W9,f⟩:∃ W,W=((v1.setCell ⟨r,0,none⟩ (.slice none 0 0)).setCell ⟨r,1,none⟩ (.slice none 0 0)).setCell ⟨r,2,none⟩ (.slice none 0 0):=⟨_,rfl⟩;have m:=jF f d.below L;obtain⟨S,U,V⟩:=kH f z0 z1 z2;have y:=ah f;clear f D;go_wp2_with fail;rw[← y.o];refine bodyPost_ret (v:=.tuple #[.agg #[.slice none 0 0,.slice none 0 0,.slice none 0 0],.int .i64 1]) (by simp[results,Tryz.results139,go_sem,S,U,V]) rfl ⟨bH,1,none,0,0,none,0,0,none,0,0,rfl,eH.no _ _,ah (And.intro (fun h=>by rw[s.o]at h;cases h) (fun _=>⟨rfl,rfl⟩)),m⟩
 | true=>
  have s:=ah D;obtain⟨rfl,hu⟩:=HZ.1 D;have Z:=ah hu;obtain⟨W9,f⟩:∃ W,W=((v1.setCell ⟨r,0,none⟩ (.slice P l C)).setCell ⟨r,1,none⟩ (.slice none 0 0)).setCell ⟨r,2,none⟩ (.slice A k c):=⟨_,rfl⟩;have m:=jF f d.below L
  have Q:ai (eH W9 M (.mk es [],v) P l C none 0 0 A k c):=by
   unfold ai;rw[f];refine⟨?_,HV.1,(HV.2.keep (by rw[cells3];exact bG) fun b j _=>bR b (by have:=G.1;omega)).mono fun b j _=>aN R (aN G.2 j)⟩;rw[kQ];exact⟨O.2.2,(N.keep (by rw[cells3];exact bG) fun b j _=>bR b (by have:=j.2;omega)).mono fun b j _=>j.1,rfl,[],RO.nil _ _ _ _ _,fun i hi=>by simp at hi⟩
  obtain⟨S,U,V⟩:=kH f z0 z1 z2;have y:=ah f;clear f D hu;go_wp2_with fail;rw[← y.o];refine bodyPost_ret (v:=.tuple #[.agg #[.slice P l C,.slice none 0 0,.slice A k c],.int .i64 0]) (by simp[results,Tryz.results139,go_sem,S,U,V]) rfl ⟨(.mk es [],v),0,P,l,C,none,0,0,A,k,c,rfl,Q,ah (And.intro (fun _=>⟨rfl,rfl,by obtain⟨u,_,_,h⟩:=Z.o;exact h,by obtain⟨u,h1,h2,_⟩:=Z.o;exact⟨u,h1,h2⟩⟩) (fun h=>by rw[s.o]at h;cases h)),m⟩
theorem oD (t:T) (Ae Ak:Option Addr) (ne nk ce ck:Nat) (a n:Int) (w:World) (hl:LenT reachBytes t) (hn:nodes t≤1000) (hr:aF w w.heap.size t ⟨Ae,ne,ce⟩ ⟨Ak,nk,ck⟩) :
  Calls Tryz.prog 93 #[.agg #[.slice Ae ne ce,.slice Ak nk ck],.agg #[.int .i64 a,.int .i64 n]] w (oo w.heap.size (aY t a n) 1 (cu ⟨a,n,⟨#[]⟩,0⟩) (dl t) a n (4*nodes t+4) w):=by
 obtain⟨W,p,q,r,HW,R,HQ,x,i,f,c⟩:=pM w Ae Ak ne nk ce ck a n
 have X:w.heap.size≤r:=by have:=R.o;have:=x.o;omega
 have s:W.heap.size=r+1:=by rw[HW.o];simp;have:=R.o;have:=x.o;omega
 obtain⟨g,B⟩:∃ g,g=r+1:=⟨_,rfl⟩;obtain⟨A,d⟩:∃ A,A=W.alloc (.cells #[.int .i64 a,.int .i64 n,.string ⟨#[]⟩,.int .i64 0] 97):=⟨_,rfl⟩
 have m:av W A:=by rw[d];exact Dt.ay _ _ _
 have V:r<g:=by omega
 have HE:ai (RO A (fun b=>g≤b) 4 (some ⟨g,0,none⟩) 1 1 (bV [⟨a,n,⟨#[]⟩,0⟩])):=by
  refine⟨rfl,bG,fun u hu=>?_,fun _=>⟨_,_,rfl,bG,by rw[d];simp;omega,fun j=>by rw[d,B,← s];go_simp,fun j u hu=>?_⟩⟩
  ·simp[bV,wT]at hu
   rcases hu with rfl | rfl | rfl | rfl <;> rfl
  ·rw[Nat.zero_add,d,B,← s,cell_of_row _ _ j _ _ (0,0) (heap_alloc_new _ _)]
   simpa [bV,wT] using hu
 have l:=ah (i.later m);obtain⟨f,c⟩:=gI m f c;have HR:=ah (aF.more l.below.size _ (aF.below hr l.below));have Z:=ah (And.intro hl hn)
 have C:g≤A.heap.size:=by rw[B,← s];exact m.size
 have Y:=ah (zw t Ae Ak ne nk ce ck a n [⟨a,n,⟨#[]⟩,0⟩] (some ⟨g,0,none⟩) 1 1 g A Z.1 Z.2 HR C rfl HE);have Hg:=ah B;have S:=ah d;clear hr hl hn B d m C s;obtain⟨c0,c1,c2,c3,-⟩:=i.cj;go_enter Tryz.func93,Tryz.ntmps93;go_wp2_with fail;rw[← R.o,← HW.o]
 try rw[← x.o]
 try rw[← HQ.o]
 rw[← Hg.o,← S.o];refine Y.mono ?_;rintro e v1 ⟨k,z,G,rn,H,Rk,L,rd,F,M,J,rfl,D,hz,y⟩;have i:=ah (l.later y);obtain⟨f,c⟩:=gI y f c;have Q:=ah D.o;have HZ:=ah hz.o;clear y c0 c1 c2 c3 D hz Y l;obtain⟨z0,z1,z2,-⟩:=f.cj;have m0:=c.2 0;have m1:=c.2 1;have m2:=c.2 2;obtain⟨W9,h⟩:∃ W,W=((v1.setCell ⟨r,0,none⟩ (.slice G rn H)).setCell ⟨r,1,none⟩ (.slice Rk L rd)).setCell ⟨r,2,none⟩ (.slice F M J):=⟨_,rfl⟩;have N:=jF h i.below X
 have O:ai (eH W9 w.heap.size k G rn H Rk L rd F M J):=by
  unfold ai;rw[h];exact (Q.gT V _ _ _).mono (by omega)
 obtain⟨l0,l1,l2⟩:=kH h z0 z1 z2;have U:=ah h;clear h;go_wp2_with fail;rw[← U.o];refine bodyPost_ret (v:=.tuple #[.agg #[.slice G rn H,.slice Rk L rd,.slice F M J],.int .i64 z]) (by simp[results,Tryz.results93,go_sem,l0,l1,l2]) rfl ⟨k,z,G,rn,H,Rk,L,rd,F,M,J,rfl,O,HZ,N⟩
theorem pU (t:T) (Ae Ak:Option Addr) (ne nk ce ck:Nat) (a n:Int) (w:World) (M:LenT reachBytes t) (N:nodes t≤1000) (O:aF w w.heap.size t ⟨Ae,ne,ce⟩ ⟨Ak,nk,ck⟩) :
  Calls Tryz.prog 94 #[.agg #[.slice Ae ne ce,.slice Ak nk ck],.agg #[.int .i64 a,.int .i64 n]] w (oo w.heap.size (aY t a n) 1 none_ (dl t) a n (4*nodes t+4) w):=by
 obtain⟨W,p,q,r,U,L,R,g,b,f,c⟩:=pM w Ae Ak ne nk ce ck a n
 have G:w.heap.size≤r:=by have:=L.o;have:=g.o;omega
 have l:r<W.heap.size:=c.1;have S:=ah (aF.more b.below.size _ (aF.below O b.below));have J:=ah (And.intro M N);have H:=ah (zw t Ae Ak ne nk ce ck a n [] none 0 0 W.heap.size W J.1 J.2 S (bG) rfl (RO.nil _ _ _ _ _));have h:=ah (And.intro l b.below.size);clear O M N l;obtain⟨c0,c1,c2,c3,-⟩:=b.cj;go_enter Tryz.func94,Tryz.ntmps94;go_wp2_with fail;rw[← L.o,← U.o]
 try rw[← g.o]
 try rw[← R.o]
 refine H.mono ?_;rintro e v1 ⟨k,z,s,rn,u,Rk,y,rd,m,A,x,rfl,j,Q,i⟩;obtain⟨b,f,c⟩:=kX i b f c;have D:=ah j.o;have V:=ah Q.o;clear i c0 c1 c2 c3 j Q H;obtain⟨z0,z1,z2,-⟩:=f.cj;have m0:=c.2 0;have m1:=c.2 1;have m2:=c.2 2;obtain⟨X,d⟩:∃ W,W=((v1.setCell ⟨r,0,none⟩ (.slice s rn u)).setCell ⟨r,1,none⟩ (.slice Rk y rd)).setCell ⟨r,2,none⟩ (.slice m A x):=⟨_,rfl⟩;have B:=jF d b.below G
 have C:ai (eH X w.heap.size k s rn u Rk y rd m A x):=by
  unfold ai;rw[d];exact (D.gT h.1 _ _ _).mono h.2
 obtain⟨Y,Z,l2⟩:=kH d z0 z1 z2;have F:=ah d;clear d;go_wp2_with fail;rw[← F.o];refine bodyPost_ret (v:=.tuple #[.agg #[.slice s rn u,.slice Rk y rd,.slice m A x],.int .i64 z]) (by simp[results,Tryz.results94,go_sem,Y,Z,l2]) rfl ⟨k,z,s,rn,u,Rk,y,rd,m,A,x,rfl,C,V,B⟩
theorem JN (t:T) (Ae Ak:Option Addr) (ne nk ce ck:Nat) (w:World) (z:Bool) (n:(Tr.ak 5 t&&decide (0<ne))=z) (l:LenT reachBytes t) (m:aF w w.heap.size t ⟨Ae,ne,ce⟩ ⟨Ak,nk,ck⟩) :
  Calls Tryz.prog 113 #[.agg #[.slice Ae ne ce,.slice Ak nk ck]] w fun e w'=>e = .returned (.bool z)∧av w w':=by
 obtain⟨p,i⟩:∃ p,p=w.heap.size:=⟨_,rfl⟩;have a:=ah (bQ w Ae Ak ne nk ce ck);rw[← i]at a;obtain⟨W,g⟩:∃ W,W=w.alloc (.cells #[.slice Ae ne ce,.slice Ak nk ck] 35):=⟨_,rfl⟩;rw[← g]at a;have r:=ah i;have u:=ah g;have s:=ah (aF.more a.below.size _ (aF.below m a.below));have q:=ah l;have d:=ah n;have c0:=a.c0;have c1:=a.c1;clear i g m l n;obtain⟨y,j⟩:∃ y,Tr.ak 5 t=y:=⟨_,rfl⟩;rw[j]at d;have k:=ah (bS t Ae Ak ne nk ce ck W q s);rw[j]at k;clear j;go_enter Tryz.func113,Tryz.ntmps113;go_wp2_with fail;rw[← r.o,← u.o];refine k.mono ?_;rintro e v1 ⟨rfl,c⟩;have a:=ah (a.later c);clear c c0 c1;have c0:=a.c0
 have c1:=a.c1
 cases y with
 | false=>
  obtain rfl:z=false:=d.symm;go_wp2_with fail;go_ret;exact⟨rfl,a.below⟩
 | true=>
  by_cases h:0<ne
  ·obtain rfl:z=true:=by have b:=d.o;rw[aJ h]at b;exact b.symm
   have f:decide ((0:Int)<(ne:Int))=true:=aJ (by omega);go_wp2_with fail;go_ret;exact⟨by first | rfl | simp[f],a.below⟩
  ·obtain rfl:z=false:=by have b:=d.o;rw[aM h]at b;exact b.symm
   have f:decide ((0:Int)<(ne:Int))=false:=aM (by omega);go_wp2_with fail;go_ret;exact⟨by first | rfl | simp[f],a.below⟩
end Cs
end
section
open ChangeShapes WideShapes ChangeAt RowKit
namespace Cs
open Tr Cx Sp Rw Classical
theorem nodes_wrap (t:T):∀ p:List ByteArray,nodes (bF t p)=nodes t+p.length
 | []=>rfl
 | k::p=>by
  show nodes (.mk [] [(k,bF t p)])=_;rw[bJ,List.map_cons,List.map_nil,om,List.sum_nil,nodes_wrap t p];simp;omega
theorem EL (e:E):leaves (cu e)=[([],e)]:=by
 unfold cu;rw[dL];simp[below]
theorem BG {t:T} (g:au 5 t) {Ae Ak:Option Addr} {ne nk ce ck:Nat} {w:World} (d:LenT reachBytes t) (e:nodes t≤1000) (f:aF w w.heap.size t ⟨Ae,ne,ce⟩ ⟨Ak,nk,ck⟩):∃ u,pG (dl t) u∧u.length≤4*nodes t:=by
 obtain⟨_,_,u,q,_,_,_,a,b,c,_⟩:=Calls.some (uw t Ae Ak ne nk ce ck w (Tr.aO.2 g) d e f);exact⟨u,b,by rw[a.o];exact c⟩
theorem rO (a n:Int) (w:World) :
  Calls Tryz.prog 110 #[.agg #[.int .i64 a,.int .i64 n]] w fun e w'=>∃ g,e = .returned (.slice (some ⟨g,0,none⟩) 1 1)∧ai (RO w' (fun b=>w.heap.size≤b) 3 (some ⟨g,0,none⟩) 1 1 (aP (eZ a n)))∧av w w':=by
 obtain⟨p,l⟩:∃ p,p=w.heap.size:=⟨_,rfl⟩;obtain⟨W,h⟩:∃ W,W=w.alloc (.cells #[.int .i64 a,.int .i64 n] 37):=⟨_,rfl⟩
 have f:W.heap.size=p+1:=by rw[h,l];simp
 obtain⟨g,k⟩:∃ g,g=p+1:=⟨_,rfl⟩;obtain⟨m,c⟩:∃ m,m=W.alloc (.cells #[.int .i64 a,.int .i64 n,.int .i64 n] 117):=⟨_,rfl⟩
 have d:av w W:=by rw[h];exact Dt.ay _ _ _
 have i:av W m:=by rw[c];exact Dt.ay _ _ _
 have c0:W.cell? ⟨p,0,none⟩=some (.int .i64 a):=by rw[h,l];go_simp
 have c1:W.cell? ⟨p,1,none⟩=some (.int .i64 n):=by rw[h,l];go_simp
 have q:ai (RO m (fun b=>w.heap.size≤b) 3 (some ⟨g,0,none⟩) 1 1 (aP (eZ a n))):=by
  refine⟨rfl,bG,fun u hu=>?_,fun _=>⟨_,_,rfl,by rw[k,← f];exact d.size,by rw[c];simp;omega,fun j=>by rw[c,k,← f];go_simp,fun j u hu=>?_⟩⟩
  ·simp[aP,LM,eZ]at hu
   rcases hu with rfl | rfl | rfl <;> rfl
  ·rw[Nat.zero_add,c,k,← f,cell_of_row _ _ j _ _ (0,0) (heap_alloc_new _ _)]
   simpa [aP,LM,eZ] using hu
 have t:=ah (d.trans (i.mono d.size));have v:=ah l;have z:=ah h;have y:=ah k;have r:=ah c;clear l h k c d i f;go_enter Tryz.func110,Tryz.ntmps110;go_wp2_with fail;rw[← v.o,← z.o];go_wp2_with fail
 try rw[← r.o]
 go_ret;have s:=q.o;have x:=t.o;rw[← v.o]at s x;rw[y.o]at s;exact⟨p+1,rfl,s,by first | exact x | exact t.o⟩
theorem Bw (t:T) (Ae Ak:Option Addr) (ne nk ce ck:Nat) (a n:Int) (w:World) (z:Bool) (X:aY t a n=z) (N:LenT reachBytes t) (Q:nodes t≤1000) (R:aF w w.heap.size t ⟨Ae,ne,ce⟩ ⟨Ak,nk,ck⟩) :
  Calls Tryz.prog 52 #[.agg #[.slice Ae ne ce,.slice Ak nk ck],.agg #[.int .i64 a,.int .i64 n]] w fun e w'=>e = .returned (.bool z)∧av w w':=by
 obtain⟨W,p,q,HW,HP,HQ,c⟩:=FT w Ae Ak ne nk ce ck a n;have g:=ah (aF.more c.below.size _ (aF.below R c.below));have C:=ah N;have F:=ah Q;have L:=ah X;clear R N Q X;obtain⟨y,V⟩:∃ y,Tr.ak 5 t=y:=⟨_,rfl⟩;obtain⟨x,U⟩:∃ x,Dt.ak a n=x:=⟨_,rfl⟩;have r:=ah V;have s:=ah U;clear V U;go_enter Tryz.func52,Tryz.ntmps52;go_wp2_with fail;rw[← HP.o,← HW.o]
 try rw[← HQ.o]
 cases y with
 | false=>
  obtain rfl:z=false:=by rw[← L.o];unfold aY;rw[r.o];rfl
  refine Rg (S:=eB _) c.drew.cj (fun b=>?_);obtain⟨Y,j,f⟩:=mW W;obtain⟨c,g⟩:=gI f c g;rw[← j]at b ⊢;clear j f;refine Tk 0 5 ?_;refine Tc 1 (fun K i=>?_);go_simp;(go_at_call 27;refine (kz t Ae Ak ne nk ce ck _ C g).mono ?_);rw[r.o];rintro e Z ⟨rfl,f⟩;obtain⟨c,g⟩:=gI f c g;clear f;clear b;refine Th i ?_ (fun b=>?_)
  ·exact c.cj
  clear i K;refine Tk 2 7 ?_;refine U2 3 8 4 9 ?_;refine T2 5 10 6 11 ?_;refine U4 7 12 8 13 9 14 10 15 ?_;refine Tn 11 16 ?_;refine T2 12 17 13 4 ?_;refine Td ?_;clear b;go_wp2_with fail;go_ret;exact⟨by first | rfl | simp,c.below⟩
 | true=>
  cases x with
  | false=>
   obtain rfl:z=false:=by rw[← L.o];unfold aY;rw[s.o,Bool.and_false];rfl
   refine Rg (S:=eB _) c.drew.cj (fun b=>?_);obtain⟨Y,j,f⟩:=mW W;obtain⟨c,g⟩:=gI f c g;rw[← j]at b ⊢;clear j f;refine Tk 0 5 ?_;refine Tc 1 (fun K i=>?_);go_simp;(go_at_call 27;refine (kz t Ae Ak ne nk ce ck _ C g).mono ?_);rw[r.o];rintro e Z ⟨rfl,f⟩;obtain⟨c,g⟩:=gI f c g;clear f;clear b;refine Th i ?_ (fun b=>?_)
   ·exact c.cj
   clear i K;refine T2 2 7 3 8 ?_;refine Tc 4 (fun K i=>?_);go_simp;(go_at_call 80;refine (Dt.gN a n _).mono ?_);rw[s.o];rintro e x2 ⟨rfl,f⟩;obtain⟨c,g⟩:=gI f c g;clear f;clear b;refine Th i ?_ (fun b=>?_)
   ·exact c.cj
   clear i K;refine T2 5 10 6 11 ?_;refine U4 7 12 8 13 9 14 10 15 ?_;refine Tn 11 16 ?_;refine T2 12 17 13 4 ?_;refine Td ?_;clear b;go_wp2_with fail;go_ret;exact⟨by first | rfl | simp,c.below⟩
  | true=>
   have J:ai (au 5 t):=Tr.aO.1 r.o;obtain⟨u,k,A⟩:=BG J C F g.o;have G:=ah (And.intro k A);obtain⟨m,O⟩:∃ m,u.length=m:=⟨_,rfl⟩;have D:=ah O;obtain⟨M,l⟩:∃ h,fH u a n=h:=⟨_,rfl⟩;have HH:=ah l
   obtain rfl:z = !M:=by
    rw[← L.o,← l,Jw s.o k.right,E_ J.o k];unfold aY;rw[r.o,s.o];rfl
   clear k A O l;refine Rg (S:=eB _) c.drew.cj (fun b=>?_);obtain⟨Y,j,f⟩:=mW W;obtain⟨c,g⟩:=gI f c g;rw[← j]at b ⊢;clear j f;refine Tk 0 5 ?_;refine Tc 1 (fun K i=>?_);go_simp;(go_at_call 27;refine (kz t Ae Ak ne nk ce ck _ C g).mono ?_);rw[r.o];rintro e Z ⟨rfl,f⟩;obtain⟨c,g⟩:=gI f c g;clear f;clear b;refine Th i ?_ (fun b=>?_)
   ·exact c.cj
   clear i K;refine T2 2 7 3 8 ?_;refine Tc 4 (fun K i=>?_);go_simp;(go_at_call 80;refine (Dt.gN a n _).mono ?_);rw[s.o];rintro e x2 ⟨rfl,f⟩;obtain⟨c,g⟩:=gI f c g;clear f;clear b;refine Th i ?_ (fun b=>?_)
   ·exact c.cj
   clear i K;refine T4 5 10 6 11 7 12 9 14 ?_;refine Tc 8 (fun K i=>?_);go_simp;(go_at_call 72;refine (kK t Ae Ak ne nk ce ck _ F g (mH J) u G.1 m D (by have h1:=G.2;have h2:=D.o;have h3:=F.o;omega)).mono ?_);rintro e x3 ⟨B,d,rfl,v,f⟩;obtain⟨c,g⟩:=gI f c g;have H:=ah v;clear v f;clear b;refine Th i ?_ (fun b=>?_)
   ·exact c.cj
   clear i K;refine Tc 10 (fun K i=>?_);go_simp;(go_at_call 39;refine (iK u m B d a n _ D (by have h1:=G.2;have h2:=D.o;have h3:=F.o;omega) H (aJ G.1.right) M HH).mono ?_);rintro e x4 ⟨rfl,f⟩;obtain⟨c,g⟩:=gI f c g;clear f;clear b;refine Th i ?_ (fun b=>?_)
   ·exact c.cj
   clear i K;refine T3 11 16 12 17 13 4 ?_;refine Td ?_;clear b;go_wp2_with fail;go_ret;exact⟨by first | rfl | simp,c.below⟩
theorem MJ (w:World) (a b:Int) (c:ByteArray) (ev:Int):∃ (W:World) (p r:Nat),ai (W=(w.alloc (.cells #[.int .i64 a,.int .i64 b,.string c,.int .i64 ev] 97)).alloc (.cells #[.slice none 0 0,.slice none 0 0,.slice none 0 0] 42))∧ai (p=w.heap.size)∧ai (r=p+1)∧ai (Kept [(⟨p,0,none⟩,.int .i64 a),(⟨p,1,none⟩,.int .i64 b),(⟨p,2,none⟩,.string c),(⟨p,3,none⟩,.int .i64 ev)] w W)∧ai (Kept [(⟨r,0,none⟩,.slice none 0 0),(⟨r,1,none⟩,.slice none 0 0),(⟨r,2,none⟩,.slice none 0 0)] w W)∧ai (aA r W):=by
 have e:av w ((w.alloc (.cells #[.int .i64 a,.int .i64 b,.string c,.int .i64 ev] 97)).alloc (.cells #[.slice none 0 0,.slice none 0 0,.slice none 0 0] 42)):=((bN).alloc (bG) _).alloc (by simp) _;refine⟨_,_,_,rfl,rfl,rfl,?_,?_,⟨by simp,fun j=>by go_simp⟩⟩
 ·have d:=Kept.a_ e
  refine (((d.af ?_).af ?_).af ?_).af ?_ <;> go_simp
 ·have d:=Kept.a_ e
  refine ((d.af ?_).af ?_).af ?_ <;> go_simp
theorem xO (path:List ByteArray) (A:Option Addr) (m c:Nat) (n s:Int) (y:ByteArray) (ev:Int) (u v:List S3) (B:Option Addr) (k d q:Nat) (w:World) (X:path.length=m) (Z:Rd w w.heap.size 1 A m c (strs path)) (Nz:u.length=k) (hk:k≤1000) (Ny:Rd w w.heap.size 3 B k d (aP u)) (N7:aH u) (he:dR ⟨n,s,y,ev⟩) (ht:au 5 (bF (cu ⟨n,s,y,ev⟩) path)) (hm:m≤10) (hv:iW l6 u (eZ n s) v) (N8:v.length=q) (Y:q≤800000) :
  Calls Tryz.prog 57 #[.slice A m c,.agg #[.int .i64 n,.int .i64 s,.string y,.int .i64 ev],.slice B k d] w (wM (bF (cu ⟨n,s,y,ev⟩) path,v) w):=by
 obtain⟨W,p,r,HW,HP,M,f,l,j⟩:=MJ w n s y ev
 have F:w.heap.size≤r:=by have:=HP.o;have:=M.o;omega
 have hpr:p<r:=by have:=M.o;omega
 have N:=ah ((Z.below f.below).more f.below.size);have t:=ah ((Ny.below f.below).more f.below.size);have NG:=ah X;have HU:=ah (And.intro Nz (And.intro hk N7));have HV:=ah (And.intro hv (And.intro N8 Y));have HE:ai (Dt.ak n s=true):=he.1;have HT:=ah ht
 have NE:ai (nodes (bF (cu ⟨n,s,y,ev⟩) path)≤100000):=ah (by rw[nodes_wrap,iQ];omega)
 have NC:ai (∀ x:Lf,x∈[(path,(⟨n,s,y,ev⟩:E))]↔x∈leaves (bF (cu ⟨n,s,y,ev⟩) path)):=fun x=>by
  rw[vJ,EL];simp
 clear Z Ny X Nz hk N7 hv N8 Y he ht hm;go_enter Tryz.func57,Tryz.ntmps57;go_wp2_with fail;rw[← HP.o,← HW.o]
 try rw[← M.o]
 refine Rg (S:=eB _) f.drew.cj (fun hHeld=>?_);obtain⟨w1,N9,i⟩:=mW W;obtain⟨f,l,j,N,t⟩:=jo i f l j N t;rw[← N9]at hHeld ⊢;clear N9 i;refine T4 0 7 1 8 2 9 5 12 ?_;refine T2 6 13 7 14 ?_;refine Tc 3 (fun K C=>?_);go_simp;clear hHeld;refine Th C ?_ (fun hHeld=>?_)
 ·exact (f.alloc _).cj
 clear C K;obtain⟨g,hg⟩:∃ g,g=w1.heap.size:=⟨_,rfl⟩;obtain⟨w2,J⟩:∃ W,W=w1.alloc (.cells #[.slice A m c,.int .i64 n,.int .i64 s,.string y,.int .i64 ev] 109):=⟨_,rfl⟩
 have i:av w1 w2:=by rw[J];exact Dt.ay _ _ _
 have NA:ai (mh w2 w2.heap.size (some ⟨g,0,none⟩) 1 1 [(path,⟨n,s,y,ev⟩)]):=by
  have h1:=Bu w1 ⟨A,m,c⟩ ⟨n,s,y,ev⟩ 109;dsimp only at h1;rw[← J,← hg]at h1;refine⟨rfl,[(⟨A,m,c⟩,⟨n,s,y,ev⟩)],h1.more (by rw[J,hg];simp),dh.one NG ?_⟩;exact (RX.xI N (bG) (fun b D=>D)).keep i.size (fun b NI _=>i.block b NI) |>.mono fun b D _=>cO D i.size
 obtain⟨f,l,j,t⟩:=iR i f l j t;rw[← J]at hHeld ⊢;rw[← hg];clear hg J i;refine Tc 4 (fun K C=>?_);go_simp;(go_at_call 112;refine (BU 5 _ HT [(path,⟨n,s,y,ev⟩)] NC (some ⟨g,0,none⟩) 1 1 w2 (by omega) NE NA).mono ?_);rintro e w3 ⟨Q,rn,R,Rk,V,rd,rfl,L,i⟩;have G:ai (aX w3 (fun b=>r<b) (bF (cu ⟨n,s,y,ev⟩) path) ⟨Q,rn,R⟩ ⟨Rk,V,rd⟩):=aX.mono (fun b D _=>cO j.1 D) _ L;obtain⟨f,l,j,t⟩:=iR i f l j t;clear L i;clear hHeld;refine Th C ?_ (fun hHeld=>?_)
 ·exact f.cj
 clear C K;refine Tc 8 (fun K C=>?_);go_simp;(go_at_call 110;refine (rO n s w3).mono ?_);rintro e w4 ⟨h,rfl,L,i⟩;have HO:ai (Rd w4 w4.heap.size 3 (some ⟨h,0,none⟩) 1 1 (aP (eZ n s))):=L.rd;obtain⟨G,f,l,j,t⟩:=jo i G f l j t;clear L i;clear hHeld;refine Th C ?_ (fun hHeld=>?_)
 ·exact f.cj
 clear C K;refine Tc 9 (fun K C=>?_);go_simp;(go_at_call 109;refine (qZ u (eZ n s) v k 1 q B (some ⟨h,0,none⟩) d 1 w4 HU.1 rfl HV.2.1 HU.2.1 (by omega) t HO HU.2.2 (iL HE) HV.1 HV.2.2).mono ?_);rintro e w5 ⟨O,U,rfl,L,i⟩;have NH:ai (RO w5 (fun b=>r<b) 3 O q U (aP v)):=(RO.b_ L).mono fun b D _=>cO j.1 D.1;obtain⟨G,f,l,j⟩:=iR i G f l j;clear L i;obtain⟨z0,z1,z2,-⟩:=l.cj;have m0:=j.2 0;have m1:=j.2 1;have m2:=j.2 2;clear hHeld;refine Th C ?_ (fun hHeld=>?_)
 ·exact f.cj
 clear C K;refine Tk 10 17 ?_;refine Tc 11 (fun K C=>?_);go_simp;refine Th C ?_ (fun z=>?_)
 ·have h9:=(((f.o).set (a:=⟨r,0,none⟩) F (by simp;omega) (.slice Q rn R)).set (a:=⟨r,1,none⟩) F (by simp;omega) (.slice Rk V rd)).set (a:=⟨r,2,none⟩) F (by simp;omega) (.slice O q U)
  exact h9.cj
 clear C K hHeld;have hHeld:=z;clear z;refine Td ?_;clear hHeld;obtain⟨W9,H⟩:∃ W,W=((w5.setCell ⟨r,0,none⟩ (.slice Q rn R)).setCell ⟨r,1,none⟩ (.slice Rk V rd)).setCell ⟨r,2,none⟩ (.slice O q U):=⟨_,rfl⟩;have N_:=jF H f.below F
 have NF:ai (eH W9 w.heap.size (bF (cu ⟨n,s,y,ev⟩) path,v) Q rn R Rk V rd O q U):=by
  unfold ai;rw[H];exact⟨aX.mono (fun b D _=>aN F (oZ D)) _ (aX.keep (by rw[cells3];exact bG) (fun b D _=>bR b (by omega)) _ G),HV.2.1,(NH.keep (by rw[cells3];exact bG) (fun b D _=>bR b (by omega))).mono fun b D _=>aN F (oZ D)⟩
 obtain⟨l0,l1,l2⟩:=kH H z0 z1 z2;clear z0 z1 z2 m0 m1 m2;rw[← H];clear H;go_wp2_with fail;refine bodyPost_ret (v:=.agg #[.slice Q rn R,.slice Rk V rd,.slice O q U]) (by simp[results,Tryz.results57,go_sem,l0,l1,l2]) rfl ⟨Q,rn,R,Rk,V,rd,O,q,U,rfl,NF,N_⟩
end Cs
namespace Cs
open Tr Cx Sp Rw Classical
set_option maxRecDepth 100000 in
set_option maxHeartbeats 4000000 in
theorem Fj (t:T) (Ae Ak:Option Addr) (ne nk ce ck:Nat) (u:List S3) (m:Nat) (w:World) (z:au 5 t) (F:nodes t≤1000) (y:aF w w.heap.size t ⟨Ae,ne,ce⟩ ⟨Ak,nk,ck⟩) (hu:pG (yP t) u) (x:u.length=m) (j:m≤800000) :
  Calls Tryz.prog 111 #[.agg #[.slice Ae ne ce,.slice Ak nk ck]] w fun e w'=>∃ B d,e = .returned (.slice B m d)∧Rd w' w'.heap.size 3 B m d (aP u)∧av w w':=by
 have q:ai (au 5 (.mk t.es [])):=uU z
 have l:ai (nodes (.mk t.es [])≤1000):=by
  unfold ai;rw[bJ];have h:=bE t.es t.ks;rw[T.eta]at h;simp;omega
 have n:ai (aF w w.heap.size (.mk t.es []) ⟨Ae,ne,ce⟩ ⟨none,0,0⟩):=by
  have h:=y;rw[← T.eta t,gL]at h;unfold ai;rw[gL];exact⟨h.1,h.2.1,rfl,[],Rd.nil _,fun i hi=>by simp at hi⟩
 have r:=ah (And.intro hu (And.intro x j));clear y z F hu x j;obtain⟨g,v⟩:∃ g,g=w.heap.size:=⟨_,rfl⟩;have a:=ah (bQ w Ae Ak ne nk ce ck);rw[← v]at a;obtain⟨D,b⟩:∃ W,W=w.alloc (.cells #[.slice Ae ne ce,.slice Ak nk ck] 35):=⟨_,rfl⟩;rw[← b]at a;have C:=ah v;have s:=ah b;have G:=a.c0;have H:=a.c1;clear v b;have p:=ah (aF.more a.below.size _ (aF.below n a.below));go_enter Tryz.func111,Tryz.ntmps111;go_wp2_with fail;rw[← C.o,← s.o];refine (kK (.mk t.es []) Ae none ne 0 ce 0 D l p (mH q) u (by rw[wJ];exact r.1) m r.2.1 r.2.2).mono ?_;rintro e w2 ⟨B,d,rfl,k,f⟩;have A:=ah (a.below.trans (f.mono a.below.size))
 have c:=ah k;clear k f G H;go_wp2_with fail;go_ret;exact⟨B,d,rfl,c,A⟩
end Cs
namespace Cs
open Tr Cx Sp Rw Classical
set_option maxRecDepth 100000 in
set_option maxHeartbeats 4000000 in
theorem lJ (t:T) (Ae Ak:Option Addr) (ne nk ce ck:Nat) (a n:Int) (w:World) (z:Bool) (d:aY t a n=z) (j:LenT reachBytes t) (l:nodes t≤1000) (m:aF w w.heap.size t ⟨Ae,ne,ce⟩ ⟨Ak,nk,ck⟩) :
  Calls Tryz.prog 47 #[.agg #[.slice Ae ne ce,.slice Ak nk ck],.agg #[.int .i64 a,.int .i64 n]] w fun e w'=>e = .returned (.int .i64 (if z=true then 0 else 1))∧av w w':=by
 obtain⟨W,p,q,u,r,s,b⟩:=FT w Ae Ak ne nk ce ck a n;have i:=ah (zB t Ae Ak ne nk ce ck a n W j l (aF.more b.below.size _ (aF.below m b.below)));have B:=ah d;clear j l m d;obtain⟨c0,c1,c2,c3,-⟩:=b.cj
 obtain⟨x,g⟩:∃ x:Int,(if z=true then 0 else 1)=x:=⟨_,rfl⟩
 rw[g];have y:=ah g;clear g;go_enter Tryz.func47,Tryz.ntmps47;go_wp2_with fail;rw[← r.o,← u.o]
 try rw[← s.o]
 refine i.mono ?_;rintro e v1 ⟨v,D,k,c,A,rfl,C,d,f⟩;have b:=ah (b.later f)
 obtain rfl:D=x:=by
  rw[← y.o,← B.o]
  cases h:aY t a n with
  | false=>rw[(d.o.2 h).1];rfl
  | true=>rw[(d.o.1 h).1];rfl
 clear f C d i c0 c1 c2 c3;go_wp2_with fail;go_ret;exact⟨rfl,b.below⟩
end Cs
namespace Cs
open Tr Cx Sp Rw Classical
theorem vB.b_ {w:World} {d:Nat} {k:K} {Ae Ak b:Option Addr} {ne ce nk ck c a:Nat} (h:eH w d k Ae ne ce Ak nk ck b c a):vB w ⟨k,⟨Ae,ne,ce⟩,⟨Ak,nk,ck⟩,⟨b,c,a⟩⟩:=⟨h.M_,h.len,h.ctx.rd⟩
theorem vB.zero (w:World):vB w ⟨bH,⟨none,0,0⟩,⟨none,0,0⟩,⟨none,0,0⟩⟩:=⟨aF.none _ _ _ _,rfl,Rd.nil _⟩
end Cs
namespace Cs
open Tr Cx Sp Rw Classical
theorem vB.Nl {w:World} {p:CP} {e:E} (h:vB w p) (b:p.k.1=cu e):p.e.n=1:=by
 have a:=h.tree;rw[b]at a;exact (bn (Ae:=p.e.A) (ne:=p.e.n) (ce:=p.e.c) (Ak:=p.d.A) (nk:=p.d.n) (ck:=p.d.c) a).1.symm
theorem Mr {a n:Int} (h:Dt.ak a n=true):dR ⟨a,n,⟨#[]⟩,0⟩:=⟨h,by show ByteArray.size ⟨#[]⟩≤30;decide,by show (-1099511627776:Int)≤0;decide,by show (0:Int)≤1099511627776;decide⟩
theorem of_nil:pG [] []:=⟨qj,fun d n _=>by
 constructor
 ·intro h;cases h
 ·intro h;cases h⟩
theorem Es:aY none_ 1 1=true:=dD.2 ⟨au.none (d:=4),by decide,by unfold dl;rw[ji];simp⟩
end Cs
end
section
open ChangeShapes WideShapes ChangeAt RowKit
namespace Cs
open Tr Cx Sp Rw Classical
noncomputable def xD (t:T) (s:ByteArray) (a n:Int):Bool:=aY t a n&&lg s
theorem sS {t:T} {s:ByteArray} {a n:Int} : xD t s a n=true↔aY t a n=true∧iV s:=by
 unfold xD;rw[Bool.and_eq_true,fI]
theorem uE {t:T} {s:ByteArray} {a n:Int} (h:aY t a n=true):aY (aR t.ks s) a n=true:=by
 obtain⟨b,c,d⟩:=dD.1 h;exact dD.2 ⟨nN b s,c,fun e=>d (Lb b e)⟩
theorem bY (t:T) (s:ByteArray):nodes (aR t.ks s)≤nodes t:=by
 cases t
 exact CR _ _ _
theorem xY (t:T) (Ae Ak:Option Addr) (ne nk ce ck:Nat) (s:ByteArray) (a n:Int) (w:World) (z:Bool) (C:xD t s a n=z) (x:LenT reachBytes t) (A:nodes t≤1000) (B:aF w w.heap.size t ⟨Ae,ne,ce⟩ ⟨Ak,nk,ck⟩) :
  Calls Tryz.prog 140 #[.agg #[.slice Ae ne ce,.slice Ak nk ck],.string s,.agg #[.int .i64 a,.int .i64 n]] w fun e w'=>e = .returned (.int .i64 (if z=true then 0 else 1))∧av w w':=by
 obtain⟨W,p,q,k,i,j,b⟩:=FT w Ae Ak ne nk ce ck a n;obtain⟨y,l⟩:∃ y,aY t a n=y:=⟨_,rfl⟩;have d:=ah (lJ t Ae Ak ne nk ce ck a n W y l x A (aF.more b.below.size _ (aF.below B b.below)))
 have r:ai ((y&&lg s)=z):=ah (by rw[← l];exact C)
 clear x A B C l;obtain⟨c0,c1,c2,c3,-⟩:=b.cj
 cases y with
 | false=>
  obtain rfl:z=false:=by rw[← r.o];rfl
  go_enter Tryz.func140,Tryz.ntmps140;go_wp2_with fail;rw[← i.o,← k.o]
  try rw[← j.o]
  refine d.mono ?_;rintro e m ⟨rfl,c⟩;have b:=ah (b.later c);clear c d c0 c1 c2 c3;go_wp2_with fail;go_ret;exact⟨rfl,b.below⟩
 | true=>
  have g:lg s=z:=by rw[← r.o];rfl
  have f:=ah g;clear g
  by_cases u:1≤s.size
  ·have D:decide ((s.size:Int)<1)=false:=by simp;omega
   by_cases v:s.size≤30
   ·have F:decide ((30:Int)<(s.size:Int))=false:=by simp;omega
    obtain rfl:z=true:=by rw[← f.o];exact fI.2 ⟨u,v⟩
    go_enter Tryz.func140,Tryz.ntmps140;go_wp2_with fail;rw[← i.o,← k.o]
    try rw[← j.o]
    refine d.mono ?_;rintro e m ⟨rfl,c⟩;have b:=ah (b.later c);clear c d c0 c1 c2 c3;go_wp2_with fail;go_ret;exact⟨rfl,b.below⟩
   ·have F:decide ((30:Int)<(s.size:Int))=true:=by simp;omega
    obtain rfl:z=false:=by
     rw[← f.o]
     cases h:lg s with
     | false=>rfl
     | true=>exact absurd (fI.1 h).2 v
    go_enter Tryz.func140,Tryz.ntmps140;go_wp2_with fail;rw[← i.o,← k.o]
    try rw[← j.o]
    refine d.mono ?_;rintro e m ⟨rfl,c⟩;have b:=ah (b.later c);clear c d c0 c1 c2 c3;go_wp2_with fail;go_ret;exact⟨rfl,b.below⟩
  ·have D:decide ((s.size:Int)<1)=true:=by simp;omega
   obtain rfl:z=false:=by
    rw[← f.o]
    cases h:lg s with
    | false=>rfl
    | true=>exact absurd (fI.1 h).1 u
   go_enter Tryz.func140,Tryz.ntmps140;go_wp2_with fail;rw[← i.o,← k.o]
   try rw[← j.o]
   refine d.mono ?_;rintro e m ⟨rfl,c⟩;have b:=ah (b.later c);clear c d c0 c1 c2 c3;go_wp2_with fail;go_ret;exact⟨rfl,b.below⟩
theorem Ki (t:T) (Ae Ak:Option Addr) (ne nk ce ck:Nat) (s:ByteArray) (a n:Int) (w:World) (hl:LenT reachBytes t) (hn:nodes t≤1000) (hr:aF w w.heap.size t ⟨Ae,ne,ce⟩ ⟨Ak,nk,ck⟩) :
  Calls Tryz.prog 96 #[.agg #[.slice Ae ne ce,.slice Ak nk ck],.string s,.agg #[.int .i64 a,.int .i64 n]] w (oo w.heap.size (xD t s a n) 1 none_ (dl (aR t.ks s)) a n (4*nodes t+4) w):=by
 obtain⟨W,p,q,r,HW,HP,HQ,y,b,f,c⟩:=pM w Ae Ak ne nk ce ck a n
 have x:w.heap.size≤r:=by have:=HP.o;have:=y.o;omega
 have hpr:p<r:=by have:=HP.o;have:=y.o;omega
 have hqr:q<r:=by have:=HQ.o;have:=y.o;omega
 obtain⟨z,hz⟩:∃ z,xD t s a n=z:=⟨_,rfl⟩;have l:=ah (aF.more b.below.size _ (aF.below hr b.below));have HD:=ah (xY t Ae Ak ne nk ce ck s a n W z hz hl hn l);have HN:=ah (And.intro hl hn);have C:=ah hz;clear hl hn hr hz;obtain⟨c0,c1,c2,c3,-⟩:=b.cj;go_enter Tryz.func96,Tryz.ntmps96;go_wp2_with fail;rw[← HP.o,← HW.o]
 try rw[← y.o]
 try rw[← HQ.o]
 refine HD.mono ?_;rintro e v1 ⟨rfl,d⟩;obtain⟨b,f,c,l⟩:=iR d b f c l;clear d HD c0 c1 c2 c3
 cases z with
 | false=>
  obtain⟨X,Y,Z,-⟩:=f.cj;have m0:=c.2 0;have m1:=c.2 1;have m2:=c.2 2;obtain⟨W9,i⟩:∃ W,W=((v1.setCell ⟨r,0,none⟩ (.slice none 0 0)).setCell ⟨r,1,none⟩ (.slice none 0 0)).setCell ⟨r,2,none⟩ (.slice none 0 0):=⟨_,rfl⟩;have B:=jF i b.below x;obtain⟨l0,l1,l2⟩:=kH i X Y Z;have D:=ah i;clear i;go_wp2_with fail;rw[← D.o];refine bodyPost_ret (v:=.tuple #[.agg #[.slice none 0 0,.slice none 0 0,.slice none 0 0],.int .i64 1]) (by simp[results,Tryz.results96,go_sem,l0,l1,l2]) rfl ⟨bH,1,none,0,0,none,0,0,none,0,0,rfl,eH.no _ _,ah (And.intro (fun h=>by rw[C.o]at h;cases h) (fun _=>⟨rfl,rfl⟩)),B⟩
 | true=>
  have O:ai (aY t a n=true):=(sS.1 C).1;have HT:ai (Tr.ak 5 t=true):=Tr.aO.2 (dD.1 O).1;obtain⟨c0,c1,c2,c3,-⟩:=b.cj;go_wp2_with fail;clear c0 c1 c2 c3;refine Rg (S:=eB _) b.drew.cj (fun hHeld=>?_);obtain⟨w1,U,d⟩:=mW v1;obtain⟨b,f,c,l⟩:=iR d b f c l;rw[← U]at hHeld ⊢;clear U d;refine T3 0 17 1 18 4 21 ?_;refine Tc 2 (fun K m=>?_);go_simp;clear hHeld;refine Th m ?_ (fun hHeld=>?_)
  ·exact (b.alloc _).cj
  clear m K;obtain⟨g,w2,hg,F,d,-⟩:=Er w1 (.string s) 9
  have HS:ai (Rd w2 w2.heap.size 1 (some ⟨g,0,none⟩) 1 1 (strs [s])):=ah (by rw[F,hg];exact ku _ _)
  obtain⟨b,f,c,l⟩:=iR d b f c l;rw[← F]at hHeld ⊢;rw[← hg];clear hg F d;refine Tc 3 (fun K m=>?_);go_simp;(go_at_call 49;refine (j6 t Ae Ak ne nk ce ck w2 [s] (some ⟨g,0,none⟩) 1 1 rfl (by omega) HS HN.1 (by have:=HN.2;omega) l).mono ?_);rintro e w3 ⟨Ge,gn,gc,Gk,gm,gd,rfl,ho,d⟩
  have HG:ai (aF w3 w3.heap.size (aR t.ks s) ⟨Ge,gn,gc⟩ ⟨Gk,gm,gd⟩):=by
   have h:=ho.rd;rw[if_pos HT.o]at h;exact h
  obtain⟨b,f,c,l⟩:=iR d b f c l;clear ho d;clear hHeld;refine Th m ?_ (fun hHeld=>?_)
  ·exact b.cj
  clear m K;refine Tc 5 (fun K m=>?_);go_simp;(go_at_call 94;refine (pU (aR t.ks s) Ge Gk gn gm gc gd a n w3 (LenT.few (by have:=bY t s;have:=HN.2;omega)) (by have:=bY t s;have:=HN.2;omega) HG).mono ?_);rintro e w4 ⟨k,z9,J,rn,L,Rk,N,rd,H,G,M,rfl,R,V,d⟩;obtain⟨rfl,Q,N7,hu⟩:=V.1 (uE O);have A:r<w3.heap.size:=c.1;have Nz:=ah ((R.gT A (.slice J rn L) (.slice Rk N rd) (.slice H G M)).mono (by have:=b.below.size;exact this:w.heap.size≤w3.heap.size));have HU:ai (k.1=none_∧G≤4*nodes t+4∧∃ u,pG (dl (aR t.ks s)) u∧iW l6 u (eZ a n) k.2):=⟨Q,by have:=bY t s;omega,hu⟩;obtain⟨b,f,c,l⟩:=iR d b f c l;clear R V d Q N7 hu A;obtain⟨X,Y,Z,-⟩:=f.cj
  have m0:=c.2 0;have m1:=c.2 1;have m2:=c.2 2;clear hHeld;refine Th m ?_ (fun hHeld=>?_)
  ·exact b.cj
  clear m K;refine T2 6 23 7 24 ?_;refine Tc 8 (fun K m=>?_);go_simp;refine Th m ?_ (fun j=>?_)
  ·have h9:=(((b.o).set (a:=⟨r,0,none⟩) x (by simp;omega) (.slice J rn L)).set (a:=⟨r,1,none⟩) x (by simp;omega) (.slice Rk N rd)).set (a:=⟨r,2,none⟩) x (by simp;omega) (.slice H G M)
   exact h9.cj
  clear m K hHeld;have hHeld:=j;clear j;refine Tk 9 7 ?_;refine Td ?_;clear hHeld X Y Z m0 m1 m2;obtain⟨X,Y,Z,-⟩:=f.cj;have m0:=c.2 0;have m1:=c.2 1;have m2:=c.2 2;obtain⟨W9,i⟩:∃ W,W=((w4.setCell ⟨r,0,none⟩ (.slice J rn L)).setCell ⟨r,1,none⟩ (.slice Rk N rd)).setCell ⟨r,2,none⟩ (.slice H G M):=⟨_,rfl⟩;have B:=jF i b.below x
  have Ny:ai (eH W9 w.heap.size k J rn L Rk N rd H G M):=ah (by rw[i];exact Nz.o)
  obtain⟨l0,l1,l2⟩:=kH i X Y Z;have D:=ah i;clear i;rw[← D.o];go_wp2_with fail;refine bodyPost_ret (v:=.tuple #[.agg #[.slice J rn L,.slice Rk N rd,.slice H G M],.int .i64 0]) (by simp[results,Tryz.results96,go_sem,l0,l1,l2]) rfl ⟨k,0,J,rn,L,Rk,N,rd,H,G,M,rfl,Ny,ah (And.intro (fun _=>⟨rfl,HU.1,HU.2.1,HU.2.2⟩) (fun h=>by rw[C.o]at h;cases h)),B⟩
end Cs
namespace Cs
open Tr Cx Sp Rw Classical
def gW (ks:List Kd):List ByteArray:=(ks.filter fun k=>decide (0<k.2.es.length)).map fun k=>k.1
theorem Ey {ks:List Kd} {k:Nat} (h:k<ks.length) (a:0<(ks[k]).2.es.length):gW (ks.take (k+1))=gW (ks.take k)++[(ks[k]).1]:=by
 unfold gW;rw[dZ h,List.filter_append,mD]
 congr 1
 rw[List.filter_cons,if_pos (aJ a)];rfl
theorem GX {ks:List Kd} {k:Nat} (h:k<ks.length) (a:¬0<(ks[k]).2.es.length):gW (ks.take (k+1))=gW (ks.take k):=by
 unfold gW;rw[dZ h,List.filter_append,mD];rw[List.filter_cons,if_neg (by rw[eG];exact a)];simp
theorem Ew {ks:List Kd} {k:Nat} (h:ks.length=k):gW (ks.take k)=gW ks:=by rw[eO (by omega)]
set_option maxRecDepth 100000 in
set_option maxHeartbeats 4000000 in
theorem Fx (t:T) (Ae Ak:Option Addr) (ne nk ce ck:Nat) (w:World) (l:List ByteArray) (Z:(if Tr.ak 5 t=true then jd t else [])=l) (hl:LenT reachBytes t) (hn:nodes t≤1000) (hr:aF w w.heap.size t ⟨Ae,ne,ce⟩ ⟨Ak,nk,ck⟩) :
  Calls Tryz.prog 114 #[.agg #[.slice Ae ne ce,.slice Ak nk ck]] w (fun e w'=>∃ (A:Option Addr) (m c:Nat),e = .returned (.slice A m c)∧ai (Own w' w.heap.size 9 1 A m c (strs l))∧av w w'):=by
 have S:∀ W,av w W→ai (Calls Tryz.prog 46 #[.agg #[.slice Ae ne ce,.slice Ak nk ck]] W fun e w'=>e = .returned (.bool (Tr.ak 5 t))∧av W w'):=fun W hW=>bS t Ae Ak ne nk ce ck W hl (aF.more hW.size _ (aF.below hr hW));obtain⟨z,hz⟩:∃ z,Tr.ak 5 t=z:=⟨_,rfl⟩;rw[hz]at Z S;have HZ:=ah hz;have N8:=ah Z;clear hz Z
 cases t with
 | mk es ks=>
  obtain⟨NP,NF⟩:=bn hr;have HR:=ah hr;have HL:=ah hl;have N9:=ah NF
  have hnk:nk≤1000:=by have:=bE es ks;omega
  have NE:∀ k∈ks,nodes k.2≤1000:=fun k hk=>by have:=dM (es:=es) hk;omega
  have NG:=ah NE;clear NP NF hr hl hn NE;obtain⟨g,hg⟩:∃ g,g=w.heap.size:=⟨_,rfl⟩;have HK:=ah (bQ w Ae Ak ne nk ce ck);rw[← hg]at HK;obtain⟨W0,Y⟩:∃ W,W=w.alloc (.cells #[.slice Ae ne ce,.slice Ak nk ck] 35):=⟨_,rfl⟩;rw[← Y]at HK;have HG:=ah hg;have NN:=ah Y;have k0:=HK.c0;have k1:=HK.c1;clear hg Y;go_enter Tryz.func114,Tryz.ntmps114;go_wp2_with fail;rw[← HG.o,← NN.o];refine (S W0 HK.below).o.mono ?_;rintro e w1 ⟨rfl,NC⟩;have j:=ah (HK.later NC);clear NC k0 k1 S;have k0:=j.c0;have k1:=j.c1
  cases z with
  | false=>
   obtain rfl:[]=l:=by rw[← N8.o];rfl
   go_wp2_with fail;go_ret;exact⟨none,0,0,rfl,⟨iy _ _ _ _,by simp[Tr.strs]⟩,j.below⟩
  | true=>
   have NM:ai (au 5 (.mk es ks)):=Tr.aO.1 HZ
   obtain rfl:gW ks=l:=by rw[← N8.o];rfl
   go_wp2_with fail
   go_loopw [3,12] (fun v i wr=>∃ (k m:Nat) (R:Option Addr) (X:Nat),k≤nk∧m≤k∧i = .int .i64 k∧v = .slice R m X∧ai (Own wr w1.heap.size 9 1 R m X (strs (gW (ks.take k))))∧ai (av w1 wr)) (fun _ i _=>nk-(intOf i).toNat)
   case atStart=>exact⟨0,0,none,0,by omega,by omega,rfl,rfl,⟨iy _ _ _ _,by simp[Tr.strs,gW]⟩,bN⟩
   case round=>
    obtain⟨k,m,R,X,hk,hmk,rfl,rfl,HO,d⟩:=hrel
    by_cases NQ:k<nk
    ·have r:=j.below.trans (d.mono j.below.size)
     have J:k<ks.length:=by rw[N9.o];exact NQ
     obtain⟨b,o,rfl,hb,hc⟩:=iJ HR (by omega);obtain⟨⟨O,F,U⟩,⟨Q,Nz,V⟩,c0,c1,c2,x⟩:=hc k J;dsimp only at c0 c1 c2;have c0:=(r.cell (p:=⟨b,o+k*3,none⟩) hb).trans c0;have c1:=(r.cell (p:=⟨b,o+k*3+1,none⟩) hb).trans c1;have c2:=(r.cell (p:=⟨b,o+k*3+2,none⟩) hb).trans c2;obtain⟨D,u⟩:∃ D,D=(ks[k]).1:=⟨_,rfl⟩;rw[← u]at c0
     have B:(ks[k]).2.es.length=F:=by
      have h:=x;rw[← T.eta (ks[k]).2]at h;exact (bn h).1
     obtain⟨W1,H⟩:∃ W,W=wr.alloc (.cells #[.string D,.slice O F U,.slice Q Nz V] 134):=⟨_,rfl⟩;obtain⟨q,hq⟩:∃ q,q=wr.heap.size:=⟨_,rfl⟩
     have C:av wr W1:=by rw[H];exact Dt.ay _ _ _
     have q0:W1.cell? ⟨q,0,none⟩=some (.string D):=by rw[H,hq];go_simp
     have NH:=ah ((Kept.a_ C).af q0);have s:=r.trans (C.mono r.size);have f:Tr.ak 5 (ks[k]).2=true:=Tr.aO.2 ((NM.2.2.2 _ (bT J)).2.2.more);have L:(ks[k])∈ks:=bT J;have Ny:∀ y,decide (0<F)=y→Calls Tryz.prog 113 #[.agg #[.slice O F U,.slice Q Nz V]] W1 fun e w'=>e = .returned (.bool y)∧av W1 w':=fun y hy=>JN (ks[k]).2 O Q F Nz U V W1 y (by rw[f,hy];rfl) (LenT.few (by have:=NG.o _ L;omega)) (aF.more s.size _ (aF.below x s));have N:=ah Ny;have M:=ah (aG HO C);have a:=ah (d.trans (C.mono d.size));have HQ:=ah hq;have N_:=ah H
     by_cases hy:0<F
     ·have G:ai (gW (ks.take (k+1))=gW (ks.take k)++[D]):=by unfold ai;rw[u];exact Ey J (by rw[B];exact hy)
      have HC:=ah (N.o true (aJ hy));clear hc x u B hq H C q0 s f L Ny N r;go_wp2_with fail;rw[← HQ.o,← N_.o];refine HC.mono ?_;rintro e w2 ⟨rfl,n⟩;have HO:=ah (aG M n);have d:=ah (a.trans (n.mono a.size));have q0:=(NH.later n).c0;clear n HC M a c0 c1 c2;obtain⟨A6,c6,w6,r1,r2,r3⟩:=kJ w2 w1.heap.size w2.heap.size rfl HO d.size D (by omega)
      have NJ:ai (Own w6 w1.heap.size 9 1 A6 (m+1) c6 (strs (gW (ks.take (k+1))))):=ah (by rw[G.o];exact r2)
      have N7:=ah (d.trans r3);have NA:=ah r1;clear r1 r2 r3;go_wp2_with (at_builtin;refine Lib.wpList_append_run _ rfl _ _ _ _ rfl _ _ rfl rfl _ _ NA ?_);go_roundw
      case rel=>exact⟨k+1,m+1,A6,c6,by omega,by omega,by go_num,rfl,NJ,N7⟩
      case measure=>simp[intOf];omega
     ·have G:ai (gW (ks.take (k+1))=gW (ks.take k)):=by unfold ai;exact GX J (by rw[B];exact hy)
      have HC:=ah (N.o false (aM hy));clear hc x u B hq H C q0 s f L Ny N r;go_wp2_with fail;rw[← HQ.o,← N_.o];refine HC.mono ?_;rintro e w2 ⟨rfl,n⟩
      have NI:ai (Own w2 w1.heap.size 9 1 R m X (strs (gW (ks.take (k+1))))):=ah (by rw[G.o];exact aG M n)
      have d:=ah (a.trans (n.mono a.size));clear n HC M a c0 c1 c2;go_wp2_with fail;go_roundw
      case rel=>exact⟨k+1,m,R,X,by omega,by omega,by go_num,rfl,NI,d⟩
      case measure=>simp[intOf];omega
    ·obtain rfl:k=nk:=by omega
     have NK:ai (Own wr w.heap.size 9 1 R m X (strs (gW ks))):=by
      have h1:=HO.o;rw[Ew N9.o]at h1;exact h1.mono j.below.size
     have HB:=ah (j.below.trans (d.mono j.below.size));go_wp2_with fail;go_ret;exact⟨R,m,X,rfl,NK,HB⟩
end Cs
namespace Cs
open Tr Cx Sp Rw Classical
set_option maxRecDepth 100000 in
set_option maxHeartbeats 4000000 in
theorem xN (t:T) (Ae Ak:Option Addr) (ne nk ce ck:Nat) (s:ByteArray) (w:World) (z:Bool) (V:decide (s∈keysOf t.ks)=z) (U:LenT reachBytes t) (hn:nodes t≤1000) (M:aF w w.heap.size t ⟨Ae,ne,ce⟩ ⟨Ak,nk,ck⟩) :
  Calls Tryz.prog 108 #[.agg #[.slice Ae ne ce,.slice Ak nk ck],.string s] w fun e w'=>e = .returned (.bool z)∧av w w':=by
 have R:=ah V;clear V
 cases t with
 | mk es ks=>
  obtain⟨J,A⟩:=bn M;have HR:=ah M;have HL:=ah U;have u:=ah A
  have hnk:nk≤1000:=by have:=bE es ks;omega
  have y:∀ k∈ks,nodes k.2≤1000:=fun k S=>by have:=dM (es:=es) S;omega
  have HKN:=ah y;clear J A M U hn y;obtain⟨g,H⟩:∃ g,g=w.heap.size:=⟨_,rfl⟩;have r:=ah (bQ w Ae Ak ne nk ce ck);rw[← H]at r;obtain⟨W0,q⟩:∃ W,W=w.alloc (.cells #[.slice Ae ne ce,.slice Ak nk ck] 35):=⟨_,rfl⟩;rw[← q]at r;have Z:=ah H;have D:=ah q;have X:=r.c0;have Y:=r.c1;clear H q;go_enter Tryz.func108,Tryz.ntmps108;go_wp2_with fail;rw[← Z.o,← D.o];go_wp2_with fail
  go_loopw [9] (fun i wr=>∃ (k:Nat),k≤nk∧i = .int .i64 k∧ai (∀ (j:Nat) (h:j<ks.length),j<k→¬(ks[j]).1=s)∧ai (Kept [(⟨g,0,none⟩,.slice Ae ne ce),(⟨g,1,none⟩,.slice Ak nk ck)] w wr)) (fun i _=>nk-(intOf i).toNat)
  case atStart=>exact⟨0,by omega,rfl,fun j _ h=>absurd h (by omega),r⟩
  case round=>
   obtain⟨k,S,rfl,Q,c⟩:=hrel;clear X Y;have X:=c.c0;have Y:=c.c1
   by_cases L:k<nk
   ·have d:=c.below
    have v:k<ks.length:=by rw[u.o];exact L
    obtain⟨b,o,rfl,F,G⟩:=iJ HR (by omega);obtain⟨⟨Ae',O,ce'⟩,⟨Ak',nk',ck'⟩,c0,c1,c2,f⟩:=G k v;dsimp only at c0 c1 c2;have c0:=(d.cell (p:=⟨b,o+k*3,none⟩) F).trans c0;have c1:=(d.cell (p:=⟨b,o+k*3+1,none⟩) F).trans c1;have c2:=(d.cell (p:=⟨b,o+k*3+2,none⟩) F).trans c2;obtain⟨m,a⟩:∃ m,m=(ks[k]).1:=⟨_,rfl⟩;rw[← a]at c0
    have n:(ks[k]).2.es.length=O:=by
     have h:=f;rw[← T.eta (ks[k]).2]at h;exact (bn h).1
    by_cases l:m=s
    ·obtain rfl:z=true:=by
      rw[← R.o];refine aJ (dH.2 ⟨ks[k],bT v,?_⟩);rw[← a];exact l
     subst l;clear G f n a d;go_wp2_with fail;go_ret;exact⟨rfl,c.below⟩
    ·have fk:(m.toList==s.toList)=false:=dJ l
     have C:ai (∀ (j:Nat) (h:j<ks.length),j<k+1→¬(ks[j]).1=s):=fun j B hjk=>by
      by_cases e:j=k
      ·subst e;rw[← a];exact l
      ·exact Q.o j B (by omega)
     clear G f n a d l;go_wp2_with fail;go_roundw
     case rel=>exact⟨k+1,by omega,by go_num,C,c⟩
     case measure=>simp[intOf];omega
   ·obtain rfl:k=nk:=by omega
    obtain rfl:z=false:=by
     rw[← R.o];refine aM fun h=>?_;obtain⟨x,hx,N⟩:=dH.1 h;obtain⟨j,B,rfl⟩:=qz hx;exact Q.o j B (by rw[← u.o];exact B) N
    go_wp2_with fail;go_ret;exact⟨rfl,c.below⟩
end Cs
namespace Cs
open Tr Cx Sp Rw Classical
theorem fP (t:T):∀ p:List ByteArray,nodes (aI t p)≤nodes t
 | []=>bG
 | k::p=>aN (fP (aR t.ks k) p) (bY t k)
def LY (v:World) (g:Nat) (x:T) (a b:SV) (w:World):Prop:=v.heap.size≤g∧aA g w∧aX w (fun k=>v.heap.size≤k∧k≠g) x a b∧Kept [(⟨g,0,none⟩,.slice a.A a.n a.c),(⟨g,1,none⟩,.slice b.A b.n b.c)] v w
theorem ML (w:World) (Ae Ak:Option Addr) (ne nk ce ck:Nat) (a:Option Addr) (d c:Nat) (b:Int) (xs:ByteArray) (e:Int):∃ (W:World) (p q:Nat),ai (W=((w.alloc (.cells #[.slice Ae ne ce,.slice Ak nk ck] 35)).alloc (.cells #[.slice a d c,.int .i64 b,.string xs,.int .i64 e] 27)))∧ai (p=w.heap.size)∧ai (q=p+1)∧ai (Kept [(⟨p,0,none⟩,.slice Ae ne ce),(⟨p,1,none⟩,.slice Ak nk ck),(⟨q,0,none⟩,.slice a d c),(⟨q,1,none⟩,.int .i64 b),(⟨q,2,none⟩,.string xs),(⟨q,3,none⟩,.int .i64 e)] w W):=by
 refine⟨_,_,_,rfl,rfl,rfl,?_⟩;have f:=Kept.a_ (show av w (((w.alloc (.cells #[.slice Ae ne ce,.slice Ak nk ck] 35)).alloc (.cells #[.slice a d c,.int .i64 b,.string xs,.int .i64 e] 27))) from ((bN).alloc (bG) _).alloc (by simp) _)
 refine ((((((f).af ?_).af ?_).af ?_).af ?_).af ?_).af ?_ <;> go_simp
set_option maxRecDepth 100000 in
set_option maxHeartbeats 4000000 in
theorem qi (t:T) (Ae Ak:Option Addr) (ne nk ce ck:Nat) (n:List ByteArray) (O:Int) (xs:ByteArray) (xv:Int) (xA:Option Addr) (xn xc:Nat) (u:List S3) (m:Nat) (w:World) (ht:au 5 t) (hn:nodes t≤1000) (hr:aF w w.heap.size t ⟨Ae,ne,ce⟩ ⟨Ak,nk,ck⟩) (NG:xn≤900) (NC:Rd w w.heap.size 1 xA xn xc (strs n)) (hu:pG (fo t ⟨n,O,xs,xv⟩) u) (hm:u.length=m) (NF:m≤800000) :
  Calls Tryz.prog 56 #[.agg #[.slice Ae ne ce,.slice Ak nk ck],.agg #[.slice xA xn xc,.int .i64 O,.string xs,.int .i64 xv]] w fun e w'=>∃ B d,e = .returned (.slice B m d)∧Rd w' w'.heap.size 3 B m d (aP u)∧av w w':=by
 obtain⟨W,p,q,HW,HP,HQ,a⟩:=ML w Ae Ak ne nk ce ck xA xn xc O xs xv;have R:=ah (aF.later hr a.below);have RX:=ah (NC.later a.below);have NI:=ah (bM NC);have HT:=ah ht;have N:=ah (And.intro hn NG);have U:=ah (And.intro hm NF);have HU:=ah hu;have D:=ah (cB ht n);have C:ai (nodes (aI t n)≤1000):=aN (fP t n) hn;clear hr NC ht hn NG hm NF hu;obtain⟨c0,c1,c2,c3,c4,c5,-⟩:=a.cj;go_enter Tryz.func56,Tryz.ntmps56;go_wp2_with fail;rw[← HW.o,← HP.o]
 try rw[← HQ.o]
 refine (jU 4 t Ae Ak ne nk ce ck W n xA xn xc NI (by have:=N.o;omega) RX HT (by have:=N.o;omega) R).mono ?_;rintro e v1 ⟨Ge,gn,gc,Gk,gm,gd,rfl,ho,c⟩;have A:ai (aF v1 v1.heap.size (aI t n) ⟨Ge,gn,gc⟩ ⟨Gk,gm,gd⟩):=ho.rd;clear ho;obtain⟨a,R,RX⟩:=kX c a R RX;clear c;clear c0 c1 c2 c3 c4 c5;have NE:ai (w.heap.size≤v1.heap.size):=a.below.size;obtain⟨b,F,hb,NH,c,b0,b1⟩:=A_ v1 (.slice Ge gn gc) (.slice Gk gm gd) 35;obtain⟨a,R,RX,A⟩:=iR c a R RX A;clear c;have a:=ah ((a.af b1).af b0);have y:=ah hb;have i:=ah NH;clear hb NH b0 b1
 by_cases h3:O=3
 ·subst h3
  have N7:ai (pG (dl (aR (aI t n).ks xs)) u):=by
   have h:=HU.o;unfold fo at h;rw[if_pos (by simp),sD]at h;exact h
  have G:b<F.heap.size:=aL _ _ a.c0;have f:ai (aA b F):=⟨G,fun j=>by rw[i.o,y.o];go_simp⟩
  have N9:ai (w.heap.size≤b):=ah (by rw[y.o];exact NE.o)
  clear G;obtain⟨c0,c1,c2,c3,c4,c5,c6,c7,-⟩:=a.cj;rw[i.o]at c0 c1 c2 c3 c4 c5 c6 c7;rw[y.o]at c0 c1
  have J:F.heap.size=b+1:=by rw[i.o,y.o];simp
  obtain⟨gs,z⟩:∃ g,g=b+1:=⟨_,rfl⟩;obtain⟨M,v⟩:∃ W,W=F.alloc (.cells #[.string xs] 9):=⟨_,rfl⟩
  have c:av F M:=by rw[v];exact Dt.ay _ _ _
  obtain⟨a,R,RX,A,f⟩:=jo c a R RX A f;clear c
  have RS:ai (Rd M M.heap.size 1 (some ⟨gs,0,none⟩) 1 1 (strs [xs])):=ah (by rw[v,z,← J];exact ku _ _)
  have N_:=ah z;have NA:=ah v;clear z v J;go_wp2_with fail;rw[← y.o,← i.o];rw[← N_.o,← NA.o];refine (jU 4 (aI t n) Ge Gk gn gm gc gd M [xs] (some ⟨gs,0,none⟩) 1 1 rfl (by omega) RS D (by have:=C.o;omega) A).mono ?_;rintro e v4 ⟨Q,dn,X,S,Z,Y,rfl,ho,c⟩;have H:b<M.heap.size:=f.1;have Nz:ai (aX v4 (fun k=>b<k) (aR (aI t n).ks xs) ⟨Q,dn,X⟩ ⟨S,Z,Y⟩):=aX.mono (fun k hk _=>cO H hk) _ ho;clear ho H;obtain⟨a,R,RX,A,f,RS⟩:=pR c a R RX A f RS;clear c;clear c0 c1 c2 c3 c4 c5 c6 c7;obtain⟨c0,c1,c2,c3,c4,c5,c6,c7,-⟩:=a.cj;have m0:=f.2 0;have m1:=f.2 1;have L:=N9.o;obtain⟨V,s⟩:∃ W,W=(v4.setCell ⟨b,0,none⟩ (.slice Q dn X)).setCell ⟨b,1,none⟩ (.slice S Z Y):=⟨_,rfl⟩
  have r:ai (av w V):=by
   unfold ai;rw[s];exact (a.below.setCell (p:=⟨b,0,none⟩) L _).setCell (p:=⟨b,1,none⟩) L _
  have Ny:ai (aF V V.heap.size (aR (aI t n).ks xs) ⟨Q,dn,X⟩ ⟨S,Z,Y⟩):=by
   unfold ai;rw[s];refine aX.rd _ (aX.keep (by simp[World.setCell]) (fun k hk _=>?_) _ Nz);exact (cZ _ ⟨b,1,none⟩ _ k (fun e=>by have h:k=b:=e;omega)).trans (cZ _ ⟨b,0,none⟩ _ k (fun e=>by have h:k=b:=e;omega))
  have N8:=ah s;clear s;go_wp2_with fail;rw[← N8.o];refine (kK (aR (aI t n).ks xs) Q S dn Z X Y V (by have:=bY (aI t n) xs;have:=C.o;omega) Ny (mH (nN D xs)) u N7 m U.1 U.2).mono ?_;rintro e v9 ⟨B,d,rfl,l,c⟩;have x:=ah l;have r:=ah (r.trans (c.mono r.size));clear l c;go_wp2_with fail;go_ret;exact⟨B,d,rfl,x,r⟩
 have f3:(O==3)=false:=by simpa using h3
 by_cases h4:O=4
 ·subst h4
  have N7:ai (pG (dl (aR (aI t n).ks xs)) u):=by
   have h:=HU.o;unfold fo at h;rw[if_pos (by simp),sD]at h;exact h
  have G:b<F.heap.size:=aL _ _ a.c0;have f:ai (aA b F):=⟨G,fun j=>by rw[i.o,y.o];go_simp⟩
  have N9:ai (w.heap.size≤b):=ah (by rw[y.o];exact NE.o)
  clear G;obtain⟨c0,c1,c2,c3,c4,c5,c6,c7,-⟩:=a.cj;rw[i.o]at c0 c1 c2 c3 c4 c5 c6 c7;rw[y.o]at c0 c1
  have J:F.heap.size=b+1:=by rw[i.o,y.o];simp
  obtain⟨gs,z⟩:∃ g,g=b+1:=⟨_,rfl⟩;obtain⟨M,v⟩:∃ W,W=F.alloc (.cells #[.string xs] 9):=⟨_,rfl⟩
  have c:av F M:=by rw[v];exact Dt.ay _ _ _
  obtain⟨a,R,RX,A,f⟩:=jo c a R RX A f;clear c
  have RS:ai (Rd M M.heap.size 1 (some ⟨gs,0,none⟩) 1 1 (strs [xs])):=ah (by rw[v,z,← J];exact ku _ _)
  have N_:=ah z;have NA:=ah v;clear z v J;go_wp2_with fail;rw[← y.o,← i.o];rw[← N_.o,← NA.o];refine (jU 4 (aI t n) Ge Gk gn gm gc gd M [xs] (some ⟨gs,0,none⟩) 1 1 rfl (by omega) RS D (by have:=C.o;omega) A).mono ?_;rintro e v4 ⟨Q,dn,X,S,Z,Y,rfl,ho,c⟩;have H:b<M.heap.size:=f.1;have Nz:ai (aX v4 (fun k=>b<k) (aR (aI t n).ks xs) ⟨Q,dn,X⟩ ⟨S,Z,Y⟩):=aX.mono (fun k hk _=>cO H hk) _ ho;clear ho H;obtain⟨a,R,RX,A,f,RS⟩:=pR c a R RX A f RS;clear c;clear c0 c1 c2 c3 c4 c5 c6 c7;obtain⟨c0,c1,c2,c3,c4,c5,c6,c7,-⟩:=a.cj;have m0:=f.2 0;have m1:=f.2 1;have L:=N9.o;obtain⟨V,s⟩:∃ W,W=(v4.setCell ⟨b,0,none⟩ (.slice Q dn X)).setCell ⟨b,1,none⟩ (.slice S Z Y):=⟨_,rfl⟩
  have r:ai (av w V):=by
   unfold ai;rw[s];exact (a.below.setCell (p:=⟨b,0,none⟩) L _).setCell (p:=⟨b,1,none⟩) L _
  have Ny:ai (aF V V.heap.size (aR (aI t n).ks xs) ⟨Q,dn,X⟩ ⟨S,Z,Y⟩):=by
   unfold ai;rw[s];refine aX.rd _ (aX.keep (by simp[World.setCell]) (fun k hk _=>?_) _ Nz);exact (cZ _ ⟨b,1,none⟩ _ k (fun e=>by have h:k=b:=e;omega)).trans (cZ _ ⟨b,0,none⟩ _ k (fun e=>by have h:k=b:=e;omega))
  have N8:=ah s;clear s;go_wp2_with fail;rw[← N8.o];refine (kK (aR (aI t n).ks xs) Q S dn Z X Y V (by have:=bY (aI t n) xs;have:=C.o;omega) Ny (mH (nN D xs)) u N7 m U.1 U.2).mono ?_;rintro e v9 ⟨B,d,rfl,l,c⟩;have x:=ah l;have r:=ah (r.trans (c.mono r.size));clear l c;go_wp2_with fail;go_ret;exact⟨B,d,rfl,x,r⟩
 have f4:(O==4)=false:=by simpa using h4
 by_cases h5:O=5
 ·subst h5
  have NM:pG [] u:=by
   have h:=HU.o;unfold fo at h;rw[if_neg (by simp),if_pos rfl]at h;exact h
  obtain rfl:u=[]:=NM.eq of_nil;obtain rfl:m=0:=U.1.symm;obtain⟨c0,c1,c2,c3,c4,c5,c6,c7,-⟩:=a.cj;rw[i.o]at c0 c1 c2 c3 c4 c5 c6 c7;rw[y.o]at c0 c1;go_wp2_with fail;go_ret;exact⟨none,0,rfl,Rd.nil _,by have h:=a.below;first | exact h | (rw[i.o]at h;exact h)⟩
 have f5:(O==5)=false:=by simpa using h5
 by_cases h6:O=6
 ·subst h6
  have NJ:ai (pG (yP (aI t n)) u):=by
   have h:=HU.o;unfold fo at h;rw[if_neg (by simp),if_neg (by simp),if_pos rfl]at h;exact h
  obtain⟨c0,c1,c2,c3,c4,c5,c6,c7,-⟩:=a.cj;rw[i.o]at c0 c1 c2 c3 c4 c5 c6 c7;rw[y.o]at c0 c1;go_wp2_with fail;rw[← y.o,← i.o];refine (Fj (aI t n) Ge Gk gn gm gc gd u m F D C A NJ U.1 U.2).mono ?_;rintro e v9 ⟨B,d,rfl,l,c⟩;have x:=ah l;have a:=ah (a.later c);clear l c;go_wp2_with fail;go_ret;exact⟨B,d,rfl,x,a.below⟩
 have f6:(O==6)=false:=by simpa using h6
 have NK:ai (pG (dl (aI t n)) u):=by
  have h:=HU.o;unfold fo at h;rw[if_neg (fun h=>h.elim h3 h4),if_neg h5,if_neg h6]at h;exact h
 obtain⟨c0,c1,c2,c3,c4,c5,c6,c7,-⟩:=a.cj;rw[i.o]at c0 c1 c2 c3 c4 c5 c6 c7;rw[y.o]at c0 c1;go_wp2_with fail;rw[← y.o,← i.o];refine (kK (aI t n) Ge Gk gn gm gc gd F C A (mH D) u NK m U.1 U.2).mono ?_;rintro e v9 ⟨B,d,rfl,l,c⟩;have x:=ah l;have a:=ah (a.later c);clear l c;go_wp2_with fail;go_ret;exact⟨B,d,rfl,x,a.below⟩
end Cs
namespace Cs
open Tr Cx Sp Rw Classical
theorem MI (w:World) (a n:Int):∃ (W:World) (p r:Nat),ai (W=(w.alloc (.cells #[.int .i64 a,.int .i64 n] 37)).alloc (.cells #[.slice none 0 0,.slice none 0 0,.slice none 0 0] 42))∧ai (p=w.heap.size)∧ai (r=p+1)∧ai (Kept [(⟨p,0,none⟩,.int .i64 a),(⟨p,1,none⟩,.int .i64 n)] w W)∧ai (Kept [(⟨r,0,none⟩,.slice none 0 0),(⟨r,1,none⟩,.slice none 0 0),(⟨r,2,none⟩,.slice none 0 0)] w W)∧ai (aA r W):=by
 have c:av w ((w.alloc (.cells #[.int .i64 a,.int .i64 n] 37)).alloc (.cells #[.slice none 0 0,.slice none 0 0,.slice none 0 0] 42)):=((bN).alloc (bG) _).alloc (by simp) _;refine⟨_,_,_,rfl,rfl,rfl,?_,?_,⟨by simp,fun j=>by go_simp⟩⟩
 ·have b:=Kept.a_ c
  refine (b.af ?_).af ?_ <;> go_simp
 ·have b:=Kept.a_ c
  refine ((b.af ?_).af ?_).af ?_ <;> go_simp
set_option maxRecDepth 100000 in
set_option maxHeartbeats 4000000 in
theorem Dm (a n:Int) (u v:List S3) (B:Option Addr) (k d q:Nat) (w:World) (z:u.length=k) (U:k≤1000) (y:Rd w w.heap.size 3 B k d (aP u)) (A:aH u) (S:Dt.ak a n=true) (V:iW l6 u (eZ a n) v) (C:v.length=q) (x:q≤800000) :
  Calls Tryz.prog 55 #[.agg #[.int .i64 a,.int .i64 n],.slice B k d] w (wM (none_,v) w):=by
 obtain⟨W,p,r,HW,R,l,c,g,f⟩:=MI w a n
 have D:w.heap.size≤r:=by have:=R.o;have:=l.o;omega
 have hpr:p<r:=by have:=l.o;omega
 have m:=ah ((y.below c.below).more c.below.size);have N:=ah (And.intro z (And.intro U A));have G:=ah (And.intro V (And.intro C x));have Y:=ah S;clear y z U A V C x S;have c0:=c.c0;have c1:=c.c1;go_enter Tryz.func55,Tryz.ntmps55;go_wp2_with fail;rw[← R.o,← HW.o]
 try rw[← l.o]
 refine (rO a n W).mono ?_;rintro e Q ⟨h,rfl,t,j⟩;have Z:ai (Rd Q Q.heap.size 3 (some ⟨h,0,none⟩) 1 1 (aP (eZ a n))):=t.rd;obtain⟨c,g,f,m⟩:=iR j c g f m;clear t j c0 c1;go_wp2_with fail;refine (qZ u (eZ a n) v k 1 q B (some ⟨h,0,none⟩) d 1 Q N.1 rfl G.2.1 N.2.1 (by omega) m Z N.2.2 (iL Y) G.1 G.2.2).mono ?_;rintro e X ⟨s,F,rfl,t,j⟩;have M:ai (RO X (fun b=>r<b) 3 s q F (aP v)):=(RO.b_ t).mono fun b H _=>cO f.1 H.1;obtain⟨c,g,f⟩:=kX j c g f;clear t j;obtain⟨z0,z1,z2,-⟩:=g.cj;have m0:=f.2 0;have m1:=f.2 1;have m2:=f.2 2;obtain⟨W9,i⟩:∃ W,W=((X.setCell ⟨r,0,none⟩ (.slice none 0 0)).setCell ⟨r,1,none⟩ (.slice none 0 0)).setCell ⟨r,2,none⟩ (.slice s q F):=⟨_,rfl⟩
 have J:=jF i c.below D
 have L:ai (eH W9 w.heap.size (none_,v) none 0 0 none 0 0 s q F):=by
  unfold ai;rw[i];exact⟨aX.none _ _ _ _ _ _,G.2.1,(M.keep (by rw[cells3];exact bG) (fun b H _=>bR b (by omega))).mono fun b H _=>aN D (oZ H)⟩
 obtain⟨l0,l1,l2⟩:=kH i z0 z1 z2;have O:=ah i;clear i;go_wp2_with fail;rw[← O.o];refine bodyPost_ret (v:=.agg #[.slice none 0 0,.slice none 0 0,.slice s q F]) (by simp[results,Tryz.results55,go_sem,l0,l1,l2]) rfl ⟨none,0,0,none,0,0,s,q,F,rfl,L,J⟩
end Cs
namespace Cs
open Tr Cx Sp Rw Classical
theorem nI {l:List S3} (h:aH l) (a v:Int):fH l a v=aD l a v:=by
 unfold fH;rw[fK h,Bool.true_and];show (Dt.ak a v&&aD l a v)=aD l a v
 cases e:aD l a v with
 | false=>exact Bool.and_false _
 | true=>rw[Ho h e];rfl
end Cs
namespace Cs
open Tr Cx Sp Rw Classical
end Cs
namespace Cs
open Tr Cx Sp Rw Classical
theorem o8 (p:CP):(AO p).length=3:=rfl
theorem AP (p:CP):∀ u∈AO p,u.oneCell'=true:=by
 intro u hu;simp[AO]at hu
 rcases hu with rfl | rfl | rfl <;> rfl
structure nA (w:World) (A:Option Addr) (n c:Nat) (ps:List CP):Prop where
 row:Rd w w.heap.size 3 A n c (ps.flatMap AO)
 len:ps.length=n
 each:∀ p∈ps,vB w p
theorem nA.later {w w':World} {A:Option Addr} {n c:Nat} {b:List CP} (h:nA w A n c b) (a:av w w'):nA w' A n c b:=⟨h.row.later a,h.len,fun p d=>(h.each p d).later a⟩
instance {A:Option Addr} {n c:Nat} {ps:List CP} {v v':World} : fE v v' (nA v A n c ps) (nA v' A n c ps):=⟨fun h hb=>h.later hb⟩
theorem nA.at_ {w:World} {A:Option Addr} {n c:Nat} {a:List CP} (h:nA w A n c a) (j:0<n):∃ b o,A=some ⟨b,o,none⟩∧b<w.heap.size∧∀ (k:Nat) (f:k<a.length),w.cell? ⟨b,o+k*3,none⟩=some (.slice a[k].e.A a[k].e.n a[k].e.c)∧w.cell? ⟨b,o+k*3+1,none⟩=some (.slice a[k].d.A a[k].d.n a[k].d.c)∧w.cell? ⟨b,o+k*3+2,none⟩=some (.slice a[k].c.A a[k].c.n a[k].c.c):=by
 obtain⟨b,o,e,i,g⟩:=fJ o8 h.row (m:=0) j;exact⟨b,o,e,i,fun k f=>⟨g k f 0 _ rfl,g k f 1 _ rfl,g k f 2 _ rfl⟩⟩
theorem He (a:List CP) (j:Nat):(a.flatMap AO).take (j*3)=(a.take j).flatMap AO:=by
 induction a generalizing j with
 | nil=>simp
 | cons p a b=>
  cases j with
  | zero=>simp
  | succ j=>
   rw[List.take_succ_cons,tX,tX,← b j,List.take_append,o8,show (j+1)*3-3=j*3 by omega,eO (by rw[o8];omega)]
theorem GZ (a:List CP) (j:Nat):(a.flatMap AO).drop (j*3)=(a.drop j).flatMap AO:=by
 induction a generalizing j with
 | nil=>simp
 | cons p a b=>
  cases j with
  | zero=>simp
  | succ j=>
   rw[List.drop_succ_cons,tX,← b j,List.drop_append,o8,show (j+1)*3-3=j*3 by omega,List.drop_of_length_le (by rw[o8];omega),List.nil_append]
theorem nA.to {w:World} {A:Option Addr} {n c:Nat} {a:List CP} (h:nA w A n c a) {j:Nat} (b:j≤n):nA w A j c (a.take j):=⟨by rw[← He];exact h.row.Nw b,by rw[l7,h.len];omega,fun p d=>h.each p (List.mem_of_mem_take d)⟩
theorem nA.from {w:World} {A:Option Addr} {n c:Nat} {a:List CP} (h:nA w A n c a) {j:Nat} (b:j≤n):nA w (if c=j then A else A.map (·.add (j*3))) (n-j) (c-j) (a.drop j):=⟨by rw[← GZ];exact h.row.from_ b,by rw[List.length_drop,h.len],fun p d=>h.each p (List.mem_of_mem_drop d)⟩
theorem J6:(Tryz.prog.info? 42).map (fun i=>(i.zero,i.size,i.bytes))=some (some (.agg #[.slice none 0 0,.slice none 0 0,.slice none 0 0]),3,72):=by kernel_rfl
def qQ (ps:List CP):Nat:=(ps.map fun p=>nodes p.k.1).sum
def qP (ps:List CP):Nat:=(ps.map fun p=>p.c.n).sum
theorem yx (a:List CP) (j:Nat):qQ (a.take j)+qQ (a.drop j)=qQ a:=by unfold qQ;rw[← List.sum_append,← mD,List.take_append_drop]
theorem yu (a:List CP) (j:Nat):qP (a.take j)+qP (a.drop j)=qP a:=by unfold qP;rw[← List.sum_append,← mD,List.take_append_drop]
structure pJ (ps:List CP):Prop where
 right:∀ p∈ps,RK p.k
 few:qQ ps≤1000∧qP ps≤1000
theorem pJ.take {a:List CP} (h:pJ a) (j:Nat):pJ (a.take j):=⟨fun p d=>h.right p (List.mem_of_mem_take d),by have b:=yx a j;have c:=h.few;omega,by have b:=yu a j;have c:=h.few;omega⟩
theorem pJ.drop {a:List CP} (h:pJ a) (j:Nat):pJ (a.drop j):=⟨fun p d=>h.right p (List.mem_of_mem_drop d),by have b:=yx a j;have c:=h.few;omega,by have b:=yu a j;have c:=h.few;omega⟩
end Cs
namespace Cs
open Tr Cx Sp Rw Classical
def En (w:World) (lo:Nat) (A:Option Addr) (n:Nat):Prop:=0<n→∃ b o,A=some ⟨b,o,none⟩∧lo≤b∧b<w.heap.size∧(∀ j,w.frozen? ⟨b,j,none⟩=false)∧∀ i,i<n→∃ x0 x1 x2:Int,w.cell? ⟨b,o+i*3,none⟩=some (.int .i64 x0)∧w.cell? ⟨b,o+i*3+1,none⟩=some (.int .i64 x1)∧w.cell? ⟨b,o+i*3+2,none⟩=some (.int .i64 x2)
theorem En.Nb {w:World} {ok:Nat→Prop} {l:Nat} (g:∀ b,ok b→b<w.heap.size→l≤b) {A:Option Addr} {n c:Nat} {a:List S3} (hl:a.length=n) (h:RO w ok 3 A n c (aP a)):En w l A n:=fun q=>by
 obtain⟨b,o,e,r,m,s,k⟩:=h.at_ q;refine⟨b,o,e,g b r m,m,s,fun i hi=>?_⟩
 have d:i<a.length:=by omega
 have f:=fun j p=>mG wL a i j d p;refine⟨(a[i]).1,(a[i]).2.1,(a[i]).2.2,k _ _ (f 0 (by omega)),?_,?_⟩
 ·rw[Nat.add_assoc];exact k _ _ (f 1 (by omega))
 ·rw[Nat.add_assoc];exact k _ _ (f 2 (by omega))
theorem En.fr {w w':World} {f d:Nat} (a:Fr d w w') {A:Option Addr} {n:Nat} (h:En w f A n):En w' f A n:=fun r=>by
 obtain⟨b,o,e,s,c,t,u⟩:=h r;refine⟨b,o,e,s,cO c a.size,fun j=>(a.froz b j c).trans (t j),fun i hi=>?_⟩;obtain⟨x0,x1,x2,c0,c1,c2⟩:=u i hi;obtain⟨_,m,g⟩:=a.cell _ _ _ c c0;obtain⟨_,p,k⟩:=a.cell _ _ _ c c1;obtain⟨_,q,l⟩:=a.cell _ _ _ c c2;obtain⟨v,rfl⟩:=g.int;obtain⟨x,rfl⟩:=k.int;obtain⟨y,rfl⟩:=l.int;exact⟨v,x,y,m,p,q⟩
structure IL (w:World) (lo:Nat) (p:CP):Prop where
 tree:vU w lo p.k.1 p.e p.d
 few:LenT reachBytes p.k.1
 ctx:En w lo p.c.A p.c.n
 len:p.c.n≤1000
theorem IL.fr {w w':World} {c a:Nat} (b:Fr a w w') {p:CP} (h:IL w c p):IL w' c p:=⟨vU.fr b _ h.tree,h.few,h.ctx.fr b,h.len⟩
theorem IL.b_ {w:World} {j c:Nat} {k:K} {Ae Ak g:Option Addr} {ne ce nk ck f a:Nat} (h:eH w c k Ae ne ce Ak nk ck g f a) (i:j≤c) (hn:nodes k.1≤1000) (e:f≤1000):IL w j ⟨k,⟨Ae,ne,ce⟩,⟨Ak,nk,ck⟩,⟨g,f,a⟩⟩:=
 ⟨vU.xI (fun b d _=>aN i d) _ h.tree,LenT.few (by show nodes k.1≤_;omega),En.Nb (fun b d _=>aN i d) h.len h.ctx,e⟩
structure dQ (w:World) (ok:Nat→Prop) (p:CP):Prop where
 tree:aX w ok p.k.1 p.e p.d
 len:p.k.2.length=p.c.n
 ctx:RO w ok 3 p.c.A p.c.n p.c.c (aP p.k.2)
theorem dQ.b_ {w:World} {e:Nat} {ok:Nat→Prop} {k:K} {Ae Ak c:Option Addr} {ne ce nk ck f a:Nat} (h:eH w e k Ae ne ce Ak nk ck c f a) (d:∀ b,e≤b→b<w.heap.size→ok b):dQ w ok ⟨k,⟨Ae,ne,ce⟩,⟨Ak,nk,ck⟩,⟨c,f,a⟩⟩:=⟨aX.mono d _ h.tree,h.len,h.ctx.mono d⟩
theorem dQ.mono {w:World} {ok ok':Nat→Prop} {p:CP} (h:dQ w ok p) (a:∀ b,ok b→b<w.heap.size→ok' b):dQ w ok' p:=⟨aX.mono a _ h.tree,h.len,h.ctx.mono a⟩
theorem dQ.keep {w w':World} {ok:Nat→Prop} {p:CP} (h:dQ w ok p) (c:w.heap.size≤w'.heap.size) (a:∀ b,ok b→b<w.heap.size→w'.heap[b]?=w.heap[b]?):dQ w' ok p:=⟨aX.keep c a _ h.tree,h.len,h.ctx.keep c a⟩
theorem dQ.later {w w':World} {ok:Nat→Prop} {p:CP} (h:dQ w ok p) (c:av w w'):dQ w' ok p:=h.keep c.size fun b _ a=>c.block b a
instance {ok:Nat→Prop} {p:CP} {v v':World} : fE v v' (dQ v ok p) (dQ v' ok p):=⟨fun h hb=>h.later hb⟩
theorem dQ.rd {w:World} {ok:Nat→Prop} {p:CP} (h:dQ w ok p):vB w p:=⟨aX.rd _ h.tree,h.len,h.ctx.rd⟩
end Cs
namespace Cs
open Tr Cx Sp Rw Classical
def oq (G:Nat→Prop) (w:World) (p:CP):Prop:=∀ w':World,w.heap.size≤w'.heap.size→(∀ b,b<w.heap.size→¬G b→w'.heap[b]?=w.heap[b]?)→vB w' p
section
variable {G:Nat→Prop} {w w':World} {p:CP}
theorem oq.rd (h:oq G w p):vB w p:=h w (bG) fun _ _ _=>rfl
theorem oq.keep (h:oq G w p) (d:w.heap.size≤w'.heap.size) (g:∀ b,b<w.heap.size→¬G b→w'.heap[b]?=w.heap[b]?):oq G w' p:=fun i e f=>h i (aN d e) fun b a c=>(f b (cO a d) c).trans (g b a c)
theorem oq.later (h:oq G w p) (c:av w w'):oq G w' p:=h.keep c.size fun b a _=>c.block b a
instance {G:Nat→Prop} {p:CP} {v v':World} : fE v v' (oq G v p) (oq G v' p):=⟨fun h hb=>h.later hb⟩
end
theorem oq.gT {G:Nat→Prop} {w:World} {p:CP} {r:Nat} (h:oq G w p) (c:G r) (v0 v1 v2:Value):oq G (((w.setCell ⟨r,0,none⟩ v0).setCell ⟨r,1,none⟩ v1).setCell ⟨r,2,none⟩ v2) p:=
 h.keep (by rw[cells3];exact bG) fun b _ a=>bR b fun e=>a (by rw[e];exact c)
end Cs
namespace Cs
open Tr Cx Sp Rw Classical
theorem M6 (w:World) (p:CP):Rd (w.alloc (.cells #[.slice p.e.A p.e.n p.e.c,.slice p.d.A p.d.n p.d.c,.slice p.c.A p.c.n p.c.c] 42)) (w.heap.size+1) 3 (some ⟨w.heap.size,0,none⟩) 1 1 ([p].flatMap AO):=
 ⟨rfl,bG,fun u hu=>AP p u (by simpa using hu),fun _=>⟨_,_,rfl,by omega,fun j u hu=>by
  rw[Nat.zero_add,cell_of_row _ _ j _ _ (0,0) (heap_alloc_new _ _)]
  simpa [AO] using hu⟩⟩
set_option maxRecDepth 100000 in
theorem JU {w:World} {base n c:Nat} {A:Option Addr} {l:List CP} (h:Own w base 42 3 A n c (l.flatMap AO)) (D:base≤w.heap.size) (p:CP) (hn:n≤1000) :
  ∃ A' c' w',(Builtin.append_ #[118,118] 118 #[.slice A n c,.slice (some ⟨w.heap.size,0,none⟩) 1 1]).run Tryz.prog (w.alloc (.cells #[.slice p.e.A p.e.n p.e.c,.slice p.d.A p.d.n p.d.c,.slice p.c.A p.c.n p.c.c] 42)) = .ok (.slice A' (n+1) c') w'∧Own w' base 42 3 A' (n+1) c' ((l++[p]).flatMap AO)∧Below base w w'∧w.heap.size≤w'.heap.size∧∀ b,b<w.heap.size→(Value.slice A n c).ownBlock≠some b→w'.heap[b]?=w.heap[b]?∧(Value.slice A' (n+1) c').ownBlock≠some b:=by
 obtain⟨H,m,r,s,t⟩:=dO J6;obtain⟨W,j⟩:∃ W,W=w.alloc (.cells #[.slice p.e.A p.e.n p.e.c,.slice p.d.A p.d.n p.d.c,.slice p.c.A p.c.n p.c.c] 42):=⟨_,rfl⟩
 have f:av w W:=by rw[j];exact (bN).alloc (bG) _
 have hsz:W.heap.size=w.heap.size+1:=by rw[j];simp
 have a:=M6 w p;rw[← j]at a ⊢;obtain⟨v',w',J,B,v,i⟩:=iq (P:=Tryz.prog) W base 118 118 42 H _ 3 72 Tryz.underlying118 m r s t rfl (by omega) (aG h f).row a (by omega) (by omega) (by omega)
 have C:(l++[p]).flatMap AO=l.flatMap AO++[p].flatMap AO:=by simp
 rw[← C]at B
 obtain⟨A',c',rfl,G⟩:=Own.gX B (fun u hu=>by
  obtain⟨x,_,hu⟩:=ol.1 hu
  exact AP x u hu)
 refine⟨A',c',w',J,G,(f.mono D).trans ((Below.refl base W).grown v (by omega) (fun k F=>(h.row.lt k F).1)),aN (by omega) v.size,fun b q g=>⟨?_,fun z=>?_⟩⟩
 ·rw[v.block b (by omega) (fun e=>g e.symm)]
  exact f.block b q
 ·rcases i with i | i
  ·exact g (i.symm.trans z)
  ·have y:some b=some W.heap.size:=z.symm.trans i
   injection y with y;omega
end Cs
namespace Cs
open Tr Cx Sp Rw Classical
def GH (v:World) (g:Nat) (p:CP) (w:World):Prop:=v.heap.size≤g∧dQ w (fun b=>v.heap.size≤b∧b≠g) p∧Kept [(⟨g,0,none⟩,.slice p.e.A p.e.n p.e.c),(⟨g,1,none⟩,.slice p.d.A p.d.n p.d.c),(⟨g,2,none⟩,.slice p.c.A p.c.n p.c.c)] v w
theorem K9 {v0 v:World} {g:Nat} {p:CP} {q r s:Value} (h:av v0 v) (f:v0.heap.size≤g) (j:dQ v (fun b=>v0.heap.size≤b∧b≠g) p) (t:v.cell? ⟨g,0,none⟩=some q) (u:v.cell? ⟨g,1,none⟩=some r) (w:v.cell? ⟨g,2,none⟩=some s) :
  ai (GH v0 g p (((v.setCell ⟨g,0,none⟩ (.slice p.e.A p.e.n p.e.c)).setCell ⟨g,1,none⟩ (.slice p.d.A p.d.n p.d.c)).setCell ⟨g,2,none⟩ (.slice p.c.A p.c.n p.c.c))):=by
 obtain⟨W9,a⟩:∃ W,W=((v.setCell ⟨g,0,none⟩ (.slice p.e.A p.e.n p.e.c)).setCell ⟨g,1,none⟩ (.slice p.d.A p.d.n p.d.c)).setCell ⟨g,2,none⟩ (.slice p.c.A p.c.n p.c.c):=⟨_,rfl⟩;rw[← a];obtain⟨k,l,m⟩:=kH a t u w;refine⟨f,j.keep (by rw[a,cells3];exact bG) (fun b i _=>by rw[a];exact bR b i.2),?_⟩;exact (((Kept.a_ (jF a h f).o).af m).af l).af k
def G2 (ga gb:Nat) (b:Nat):Prop:=b=ga∨b=gb
structure yI (vb:World) (c:K) (li:List Int) (k:Nat) (Ab:Option Addr) (cb:Nat) (ps:List CP) (w:World):Prop where
 below:av vb w
 len:ps.length=k
 made:Made c li (ps.map CP.k)
 row:Own w vb.heap.size 42 3 Ab k cb (ps.flatMap AO)
 each:∀ p∈ps,dQ w (fun b=>vb.heap.size≤b∧(Value.slice Ab k cb).ownBlock≠some b) p∧p.c.n≤4
theorem yI.zero (a:World) (c:K) (b:List Int):yI a c b 0 none 0 [] a:=⟨bN,rfl,Made.nil _ _,⟨iy _ _ _ _,by simp⟩,by simp⟩
theorem yI.later {i w w':World} {c:K} {f:List Int} {k d:Nat} {b:Option Addr} {g:List CP} (h:yI i c f k b d g w) (a:av w w'):yI i c f k b d g w':=
 ⟨h.below.trans (a.mono h.below.size),h.len,h.made,aG h.row a,fun p e=>⟨(h.each p e).1.later a,(h.each p e).2⟩⟩
theorem yI.push {s w v0:World} {c:K} {m:List Int} {k j g:Nat} {i:Option Addr} {y:List CP} (h:yI s c m k i j y w) (L:k<m.length) (u:k≤1000) {p:CP} (Q:∀ b,(Value.slice i k j).ownBlock=some b→b<v0.heap.size) (x:s.heap.size≤v0.heap.size) (N:dQ w (fun b=>v0.heap.size≤b∧b≠g) p)
  (O:p.k=CW ⟨cA k,cN k,⟨#[]⟩,m[k]⟩) (t:p.c.n≤4) (J:dR ⟨cA k,cN k,⟨#[]⟩,m[k]⟩) (v:aD c.2 (cA k) (cN k)=false) :
  ∃ A' c' w',(Builtin.append_ #[118,118] 118 #[.slice i k j,.slice (some ⟨w.heap.size,0,none⟩) 1 1]).run Tryz.prog (w.alloc (.cells #[.slice p.e.A p.e.n p.e.c,.slice p.d.A p.d.n p.d.c,.slice p.c.A p.c.n p.c.c] 42)) = .ok (.slice A' (k+1) c') w'∧yI s c m (k+1) A' c' (y++[p]) w':=by
 obtain⟨A',c',w',F,G,H,z,r⟩:=JU h.row h.below.size p u;refine⟨A',c',w',F,h.below.trans H,by rw[bP,h.len];rfl,?_,G,fun q l=>?_⟩
 ·rw[mD]
  have M:(y.map CP.k).length=k:=by rw[eP,h.len]
  subst M;exact h.made.snoc L O J v
 ·rcases fO.1 l with l | l
  ·obtain⟨C,D⟩:=h.each q l
   exact⟨((C.mono (ok':=fun b=>(s.heap.size≤b∧(Value.slice i k j).ownBlock≠some b)∧(Value.slice A' (k+1) c').ownBlock≠some b) (fun b a f=>⟨a,(r b f a.2).2⟩)).keep z (fun b a f=>(r b f a.1.2).1)).mono (fun b a _=>⟨a.1.1,a.2⟩),D⟩
  ·obtain rfl:=eX.1 l
   have B:∀ b,v0.heap.size≤b→(Value.slice i k j).ownBlock≠some b:=fun b a e=>by have:=Q b e;omega
   exact⟨((N.mono (ok':=fun b=>v0.heap.size≤b∧(Value.slice A' (k+1) c').ownBlock≠some b) (fun b a f=>⟨a.1,(r b f (B b a.1)).2⟩)).keep z (fun b a f=>(r b f (B b a.1)).1)).mono (fun b a _=>⟨aN x a.1,a.2⟩),t⟩
theorem yI.cells {r w:World} {c:K} {t:List Int} {k s:Nat} {p:Option Addr} {a:List CP} (h:yI r c t k p s a w) (f:0<k):∃ b o,p=some ⟨b,o,none⟩∧r.heap.size≤b∧b<w.heap.size∧∀ (j:Nat) (hj:j<a.length),w.cell? ⟨b,o+j*3,none⟩=some (.slice a[j].e.A a[j].e.n a[j].e.c)∧w.cell? ⟨b,o+j*3+1,none⟩=some (.slice a[j].d.A a[j].d.n a[j].d.c)∧w.cell? ⟨b,o+j*3+2,none⟩=some (.slice a[j].c.A a[j].c.n a[j].c.c):=by
 obtain⟨b,o,e,hb,i⟩:=fJ o8 h.row.rd (m:=0) f;obtain⟨b2,o2,q,g,l,_⟩:=(RO.b_ h.row).at_ f;rw[e]at q;injection q with e3;injection e3 with e4;subst e4;exact⟨b,o,e,g.1,l,fun k f=>⟨i k f 0 _ rfl,i k f 1 _ rfl,i k f 2 _ rfl⟩⟩
structure LW (vc w0:World) (ga gb:Nat) (c:K) (li:List Int) (xs:List K) (k N M:Nat) (pa pb:CP) (w:World):Prop where
 below:av w0 w
 size:vc.heap.size≤w.heap.size
 same:∀ b,b<vc.heap.size→¬G2 ga gb b→w.heap[b]?=vc.heap[b]?
 fa:aA ga w
 fb:aA gb w
 cells:Kept [(⟨ga,0,none⟩,.slice pa.e.A pa.e.n pa.e.c),(⟨ga,1,none⟩,.slice pa.d.A pa.d.n pa.d.c),(⟨ga,2,none⟩,.slice pa.c.A pa.c.n pa.c.c),(⟨gb,0,none⟩,.slice pb.e.A pb.e.n pb.e.c),(⟨gb,1,none⟩,.slice pb.d.A pb.d.n pb.d.c),(⟨gb,2,none⟩,.slice pb.c.A pb.c.n pb.c.c)] w0 w
 ra:oq (G2 ga gb) w pa
 rb:oq (G2 ga gb) w pb
 fore:Ej c li xs k pa.k
 back:AllJ (xs.drop (xs.length-k)++[c]) pb.k
 na:nodes pa.k.1≤N+k∧pa.c.n≤M+4*k
 nb:nodes pb.k.1≤N+k∧pb.c.n≤M+4*k
theorem zI {a b x:K} (h:l8 a b x):nodes x.1≤nodes a.1+nodes b.1:=by
 rw[h.tree];exact mI _ _ _ _ _
theorem LW.step {vc x w s:World} {g gb:Nat} {c:K} {D:List Int} {xs:List K} {k N M:Nat} {R S a f:CP} (h:LW vc x g gb c D xs k N M R S w) (J:g≠gb) (t:x.heap.size≤g) (u:x.heap.size≤gb) (y:av w s)
  (hq:oq (G2 g gb) s a) (hr:oq (G2 g gb) s f) (Z:Made c D xs) (X:k<xs.length) (Y:xs.length≤D.length) (jq:l8 R.k xs[k] a.k) (jr:l8 (xs[xs.length-1-k]'(by omega)) S.k f.k) (U:nodes (xs[k]).1≤1) (V:nodes (xs[xs.length-1-k]'(by omega)).1≤1) (hqn:a.c.n≤R.c.n+4) (hrn:f.c.n≤S.c.n+4) :
  LW vc x g gb c D xs (k+1) N M a f ((((((s.setCell ⟨g,0,none⟩ (.slice a.e.A a.e.n a.e.c)).setCell ⟨g,1,none⟩ (.slice a.d.A a.d.n a.d.c)).setCell ⟨g,2,none⟩ (.slice a.c.A a.c.n a.c.c)).setCell ⟨gb,0,none⟩ (.slice f.e.A f.e.n f.e.c)).setCell ⟨gb,1,none⟩ (.slice f.d.A f.d.n f.d.c)).setCell ⟨gb,2,none⟩ (.slice f.c.A f.c.n f.c.c)):=by
 have hc:=h.cells.later y;obtain⟨z0,z1,z2,z3,z4,z5,-⟩:=hc.cj;have m:=h.fa.later y;have q:=h.fb.later y;have m0:=m.2 0;have m1:=m.2 1;have m2:=m.2 2;have m3:=q.2 0;have m4:=q.2 1;have m5:=q.2 2;have F:av x s:=h.below.trans (y.mono h.below.size);have hgn:=J.symm;obtain⟨w5,i⟩:∃ W,W=((s.setCell ⟨g,0,none⟩ (.slice a.e.A a.e.n a.e.c)).setCell ⟨g,1,none⟩ (.slice a.d.A a.d.n a.d.c)).setCell ⟨g,2,none⟩ (.slice a.c.A a.c.n a.c.c):=⟨_,rfl⟩;obtain⟨z,l⟩:∃ W,W=((w5.setCell ⟨gb,0,none⟩ (.slice f.e.A f.e.n f.e.c)).setCell ⟨gb,1,none⟩ (.slice f.d.A f.d.n f.d.c)).setCell ⟨gb,2,none⟩ (.slice f.c.A f.c.n f.c.c):=⟨_,rfl⟩;rw[← i,← l]
 have Q:w5.heap.size=s.heap.size:=by rw[i,cells3]
 have C:z.heap.size=s.heap.size:=by rw[l,cells3,Q]
 have L:oq (G2 g gb) z a:=by
  rw[l,i];exact (hq.gT (.inl rfl) _ _ _).gT (.inr rfl) _ _ _
 have O:oq (G2 g gb) z f:=by
  rw[l,i];exact (hr.gT (.inl rfl) _ _ _).gT (.inr rfl) _ _ _
 have B:av x z:=by
  rw[l,i];exact (((((F.setCell (p:=⟨g,0,none⟩) t _).setCell (p:=⟨g,1,none⟩) t _).setCell (p:=⟨g,2,none⟩) t _).setCell (p:=⟨gb,0,none⟩) u _).setCell (p:=⟨gb,1,none⟩) u _).setCell (p:=⟨gb,2,none⟩) u _
 have v:∀ b,b≠g→b≠gb→z.heap[b]?=s.heap[b]?:=fun b U V=>by
  rw[l,bR b V,i,bR b U]
 have r:Kept [(⟨g,0,none⟩,.slice a.e.A a.e.n a.e.c),(⟨g,1,none⟩,.slice a.d.A a.d.n a.d.c),(⟨g,2,none⟩,.slice a.c.A a.c.n a.c.c),(⟨gb,0,none⟩,.slice f.e.A f.e.n f.e.c),(⟨gb,1,none⟩,.slice f.d.A f.d.n f.d.c),(⟨gb,2,none⟩,.slice f.c.A f.c.n f.c.c)] x z:=by
  have h0:=Kept.a_ B
  refine (((((h0.af ?_).af ?_).af ?_).af ?_).af ?_).af ?_ <;> (rw[l,i];go_simp)
 refine⟨B,by have:=h.size;have:=y.size;omega,fun b G H=>?_,?_,?_,r,L,O,Ej.step Z h.fore X Y jq,GJ h.back X (Z.right Y _ (by omega)) jr,?_,?_⟩
 ·rw[v b (fun e=>H (.inl e)) (fun e=>H (.inr e)),y.block b (by have:=h.size;omega)]
  exact h.same b G H
 ·exact⟨by rw[C];exact m.1,fun j=>by rw[l,i];simp only[yY];exact m.2 j⟩
 ·exact⟨by rw[C];exact q.1,fun j=>by rw[l,i];simp only[yY];exact q.2 j⟩
 ·have:=zI jq
  have:=h.na;omega
 ·have:=zI jr
  have:=h.nb;omega
end Cs
namespace Cs
open Tr Cx Sp Rw Classical
theorem EO (e:E):levels (cu e)=1:=by
 unfold cu;rw[qE];rfl
theorem vz {e:E} {s:ByteArray} (a:dR e) (c:iV s):jm (cu e) [s]=0:=by
 unfold jm;rw[if_neg,if_neg,if_neg,if_neg]
 ·rw[EO];simp
 ·unfold cu;simp[T.es]
 ·simp
 ·rw[Tr.aO.2 (jX (d:=4) a),show um [s]=false from rZ.2 fun k b=>by rw[eX.1 b];exact c]
  simp
theorem Am {e:E} {s:ByteArray} (a:dR e) (b:iV s):kN (cu e) [s]=bF (cu e) [s]:=by
 unfold kN;rw[if_pos ⟨vz a b,by unfold cu;simp[T.es]⟩]
noncomputable def jL (t:T) (s:ByteArray):Bool:=decide (t.ks.length<24)||decide (s∈keysOf t.ks)
theorem Cz {t:T} {s:ByteArray} (h:au 5 t):s∈keysOf t.ks↔¬((aR t.ks s).es=[]∧(aR t.ks s).ks=[]):=by
 constructor
 ·intro a
  obtain⟨x,c,rfl⟩:=dH.1 a
  cases t with
  | mk es ks=>
   rw[show aR (T.mk es ks).ks x.1=x.2 from sJ h.2.2.1 c];exact (h.2.2.2 x c).2.1
 ·intro a
  by_cases b:s∈keysOf t.ks
  ·exact b
  ·exact absurd (by rw[xg b];exact⟨rfl,rfl⟩) a
theorem xu {w:World} {B:Nat} {u:T} {e f:Option Addr} {b a g i:Nat} (h:aF w B u ⟨e,b,g⟩ ⟨f,a,i⟩):(b=0∧a=0)↔(u.es=[]∧u.ks=[]):=by
 have c:=h;rw[← T.eta u]at c;have d:=bn c;rw[← d.1,← d.2,jE,jE]
set_option maxRecDepth 100000 in
set_option maxHeartbeats 4000000 in
theorem Kh (t:T) (Ae Ak:Option Addr) (ne nk ce ck:Nat) (s:ByteArray) (a n:Int) (w:World) (hl:LenT reachBytes t) (hn:nodes t≤1000) (hr:aF w w.heap.size t ⟨Ae,ne,ce⟩ ⟨Ak,nk,ck⟩) :
  Calls Tryz.prog 95 #[.agg #[.slice Ae ne ce,.slice Ak nk ck],.string s,.agg #[.int .i64 a,.int .i64 n]] w (oo w.heap.size (xD t s a n&&jL t s) (if xD t s a n=true then 4 else 1) (bF (cu ⟨a,n,⟨#[]⟩,0⟩) [s]) (dl (aR t.ks s)) a n (4*nodes t+4) w):=by
 obtain⟨ok,NM⟩:∃ x,(xD t s a n&&jL t s)=x:=⟨_,rfl⟩
 obtain⟨er,NJ⟩:∃ x:Int,(if xD t s a n=true then 4 else 1)=x:=⟨_,rfl⟩
 rw[NM,NJ];have Z:=ah NM;have NC:=ah NJ;clear NM NJ;obtain⟨W,p,q,r,HW,HP,HQ,NA,f,l,j⟩:=pM w Ae Ak ne nk ce ck a n
 have N:w.heap.size≤r:=by have:=HP.o;have:=NA.o;omega
 have hpr:p<r:=by have:=HP.o;have:=NA.o;omega
 have hqr:q<r:=by have:=HQ.o;have:=NA.o;omega
 obtain⟨z,hz⟩:∃ z,xD t s a n=z:=⟨_,rfl⟩;have D:=ah (aF.more f.below.size _ (aF.below hr f.below));have HD:=ah (xY t Ae Ak ne nk ce ck s a n W z hz hl hn D);have HN:=ah (And.intro hl hn);have R:=ah hz;clear hl hn hr hz;obtain⟨c0,c1,c2,c3,-⟩:=f.cj;go_enter Tryz.func95,Tryz.ntmps95;go_wp2_with fail;rw[← HP.o,← HW.o]
 try rw[← NA.o]
 try rw[← HQ.o]
 refine HD.mono ?_;rintro e v1 ⟨rfl,c⟩;obtain⟨f,l,j,D⟩:=iR c f l j D;clear c HD c0 c1 c2 c3
 cases z with
 | false=>
  have S:ai (ok=false):=ah (by rw[← Z.o,R.o];rfl)
  have NE:ai ((1:Int)=er):=ah (by rw[← NC.o,R.o];rfl)
  obtain⟨z0,z1,z2,-⟩:=l.cj;have m0:=j.2 0;have m1:=j.2 1;have m2:=j.2 2;obtain⟨W9,A⟩:∃ W,W=((v1.setCell ⟨r,0,none⟩ (.slice none 0 0)).setCell ⟨r,1,none⟩ (.slice none 0 0)).setCell ⟨r,2,none⟩ (.slice none 0 0):=⟨_,rfl⟩;have Q:=jF A f.below N;obtain⟨l0,l1,l2⟩:=kH A z0 z1 z2;have V:=ah A;clear A;go_wp2_with fail;rw[← V.o];refine bodyPost_ret (v:=.tuple #[.agg #[.slice none 0 0,.slice none 0 0,.slice none 0 0],.int .i64 1]) (by simp[results,Tryz.results95,go_sem,l0,l1,l2]) rfl ⟨bH,1,none,0,0,none,0,0,none,0,0,rfl,eH.no _ _,ah (And.intro (fun h=>by rw[S.o]at h;cases h) (fun _=>⟨NE,rfl⟩)),Q⟩
 | true=>
  have N9:ai (aY t a n=true):=(sS.1 R).1;have N_:ai (iV s):=(sS.1 R).2;have NS:ai (au 5 t):=(dD.1 N9).1;have HT:ai (Tr.ak 5 t=true):=Tr.aO.2 NS.o;have HE:ai (dR ⟨a,n,⟨#[]⟩,0⟩):=Mr (dD.1 N9).2.1
  have NE:ai ((4:Int)=er):=ah (by rw[← NC.o,R.o];rfl)
  obtain⟨c0,c1,c2,c3,-⟩:=f.cj;obtain⟨g,v2,hg,NN,c,-⟩:=Er v1 (.string s) 9
  have HS:ai (Rd v2 v2.heap.size 1 (some ⟨g,0,none⟩) 1 1 (strs [s])):=ah (by rw[NN,hg];exact ku _ _)
  obtain⟨f,l,j,D⟩:=iR c f l j D;have Hg:=ah hg;have NW:=ah NN;clear c hg NN;go_wp2_with fail;rw[← Hg.o,← NW.o];clear c0 c1 c2 c3;refine (j6 t Ae Ak ne nk ce ck v2 [s] (some ⟨g,0,none⟩) 1 1 rfl (by omega) HS HN.1 (by have:=HN.2;omega) D).mono ?_;rintro e v3 ⟨Ge,gn,gc,Gk,gm,gd,rfl,ho,c⟩
  have HG:ai (aF v3 v3.heap.size (aR t.ks s) ⟨Ge,gn,gc⟩ ⟨Gk,gm,gd⟩):=by
   have h:=ho.rd;rw[if_pos HT.o]at h;exact h
  obtain⟨f,l,j,D⟩:=iR c f l j D;clear ho c HS
  have NQ:ai ((gn=0∧gm=0)↔¬s∈keysOf t.ks):=ah (by rw[xu HG.o,Cz NS.o];exact not_not.symm)
  have NR:ai (t.ks.length=nk):=by
   have h:=D.o;rw[← T.eta t]at h;exact (bn h).2
  obtain⟨h,v4,hh,NU,c,b0,b1⟩:=A_ v3 (.slice Ge gn gc) (.slice Gk gm gd) 35;obtain⟨f,l,j,D,HG⟩:=jo c f l j D HG;have f:=ah ((f.af b1).af b0);have Hh:=ah hh;have NT:=ah NU;clear c hh NU b0 b1;obtain⟨c0,c1,c2,c3,c4,c5,-⟩:=f.cj;rw[NT.o]at c0 c1 c2 c3 c4 c5;rw[Hh.o]at c0 c1;go_wp2_with fail;rw[← Hh.o,← NT.o];clear c0 c1 c2 c3 c4 c5;obtain⟨y,hy⟩:∃ y,decide (gn=0∧gm=0)=y:=⟨_,rfl⟩;refine (iO Ge Gk gn gm gc gd v4).mono ?_;rw[hy];rintro e v5 ⟨rfl,c⟩;obtain⟨f,l,j,D,HG⟩:=jo c f l j D HG;have HY:=ah hy;clear c hy
  cases y with
  | false=>
   have S:ai (ok=true):=by
    have h:=yF HY.o;unfold ai;rw[← Z.o];unfold jL;rw[R.o,aJ (p:=s∈keysOf t.ks) (yX fun h2=>h (NQ.o.2 h2)),Bool.or_true];rfl
   obtain⟨c0,c1,c2,c3,c4,c5,-⟩:=f.cj;go_wp2_with fail;clear c0 c1 c2 c3 c4 c5;refine (oD (aR t.ks s) Ge Gk gn gm gc gd a n v5 (LenT.few (by have:=bY t s;have:=HN.2;omega)) (by have:=bY t s;have:=HN.2;omega) HG).mono ?_;rintro e v6 ⟨k,z9,De,dn,dc,Dk,dm,dd,Rc,O,re,rfl,J,N8,c⟩;obtain⟨rfl,Ny,NK,hu⟩:=N8.1 (uE N9);have C:r<v5.heap.size:=j.1;have m:ai (k.2.length=O∧RO v6 (fun b=>r<b) 3 Rc O re (aP k.2)):=⟨J.len,J.ctx.mono fun b H _=>cO C H⟩;have B:=ah J.M_;have HU:ai (k.1=cu ⟨a,n,⟨#[]⟩,0⟩∧O≤4*nodes t+4∧∃ u,pG (dl (aR t.ks s)) u∧iW l6 u (eZ a n) k.2):=⟨Ny,by have:=bY t s;omega,hu⟩;obtain⟨f,l,j,D⟩:=iR c f l j D;clear J N8 c Ny NK hu C
   obtain⟨d,v7,hd,N7,c,b0,b1,b2⟩:=rW v6 (.slice De dn dc) (.slice Dk dm dd) (.slice Rc O re) 42;obtain⟨f,l,j,D,B⟩:=jo c f l j D B;have m:=ah (And.intro m.1 (m.2.keep c.size fun b _ F=>c.block b F));have f:=ah (((f.af b2).af b1).af b0);have Hd:=ah hd;have X:=ah N7;clear c hd N7 b0 b1 b2;obtain⟨c0,c1,c2,c3,c4,c5,c6,c7,c8,-⟩:=f.cj;rw[X.o]at c0 c1 c2 c3 c4 c5 c6 c7 c8;rw[Hd.o]at c0 c1 c2
   have Nz:v7.heap.size=d+1:=by rw[X.o,Hd.o];simp
   obtain⟨g2,Y⟩:∃ z,z=d+1:=⟨_,rfl⟩;obtain⟨v8,L⟩:∃ W,W=v7.alloc (.cells #[.string s] 9):=⟨_,rfl⟩
   have c:av v7 v8:=by rw[L];exact Dt.ay _ _ _
   have HS:ai (Rd v8 v8.heap.size 1 (some ⟨g2,0,none⟩) 1 1 (strs [s])):=ah (by rw[L,Y,← Nz];exact ku _ _)
   obtain⟨f,l,j,D,B⟩:=jo c f l j D B;have m:=ah (And.intro m.1 (m.2.keep c.size fun b _ F=>c.block b F));have NG:=ah Y;have NH:=ah L;clear Nz c Y L;go_wp2_with fail;rw[← Hd.o,← X.o,← NG.o,← NH.o];clear c0 c1 c2 c3 c4 c5 c6 c7 c8;refine (yD k.1 De Dk dn dm dc dd [s] (some ⟨g2,0,none⟩) 1 1 v8 rfl (by omega) HS (LenT.few (by rw[HU.o.1,iQ];omega)) (by rw[HU.o.1,iQ];omega) B).mono ?_;rw[HU.o.1,vz HE.o N_.o,Am HE.o N_.o];rintro e v9 ⟨Re,rn,rc,Rk,rm,rd,rfl,ho,c⟩;have C:r<v8.heap.size:=j.1;have U:ai (aX v9 (fun b=>r<b) (bF (cu ⟨a,n,⟨#[]⟩,0⟩) [s]) ⟨Re,rn,rc⟩ ⟨Rk,rm,rd⟩):=aX.mono (fun b H _=>cO C H) _ ho;obtain⟨f,l,j,D,B⟩:=jo c f l j D B
   have m:=ah (And.intro m.1 (m.2.keep c.size fun b _ F=>c.block b F));clear ho c C HS;obtain⟨i,NP,hi,M,c,b0,b1⟩:=A_ v9 (.slice Re rn rc) (.slice Rk rm rd) 35;obtain⟨f,l,j,D,B⟩:=jo c f l j D B;have m:=ah (And.intro m.1 (m.2.keep c.size fun b _ F=>c.block b F));have U:=ah (aX.later U c);have f:=ah ((f.af b1).af b0);have Hi:=ah hi;have G:=ah M;clear c hi M b0 b1;obtain⟨c0,c1,c2,c3,c4,c5,c6,c7,c8,c9,NI,-⟩:=f.cj;rw[G.o]at c0 c1 c2 c3 c4 c5 c6 c7 c8 c9 NI;rw[Hi.o]at c0 c1;obtain⟨z0,z1,z2,-⟩:=l.cj;have m0:=j.2 0;have m1:=j.2 1;have m2:=j.2 2;obtain⟨W9,A⟩:∃ W,W=((NP.setCell ⟨r,0,none⟩ (.slice Re rn rc)).setCell ⟨r,1,none⟩ (.slice Rk rm rd)).setCell ⟨r,2,none⟩ (.slice Rc O re):=⟨_,rfl⟩
   have Q:=jF A f.below N
   have NF:ai (eH W9 w.heap.size (bF (cu ⟨a,n,⟨#[]⟩,0⟩) [s],k.2) Re rn rc Rk rm rd Rc O re):=by
    unfold ai;rw[A];exact⟨aX.mono (fun b H _=>aN N (oZ H)) _ (aX.keep (by rw[cells3];exact bG) (fun b H _=>bR b (by omega)) _ U),m.1,(m.2.keep (by rw[cells3];exact bG) (fun b H _=>bR b (by omega))).mono fun b H _=>aN N (oZ H)⟩
   obtain⟨l0,l1,l2⟩:=kH A z0 z1 z2;have V:=ah A;clear A;rw[G.o]at z0 z1 z2 m0 m1 m2;go_wp2_with fail;rw[← Hi.o,← G.o,← V.o];refine bodyPost_ret (v:=.tuple #[.agg #[.slice Re rn rc,.slice Rk rm rd,.slice Rc O re],.int .i64 0]) (by simp[results,Tryz.results95,go_sem,l0,l1,l2]) rfl ⟨(bF (cu ⟨a,n,⟨#[]⟩,0⟩) [s],k.2),0,Re,rn,rc,Rk,rm,rd,Rc,O,re,rfl,NF,ah (And.intro (fun _=>⟨rfl,rfl,HU.2.1,HU.2.2⟩) (fun h=>by rw[S.o]at h;cases h)),Q⟩
  | true=>
   have NV:ai (¬s∈keysOf t.ks):=NQ.1 (jH HY)
   by_cases h24:24≤nk
   ·have NY:decide ((24:Int)≤(nk:Int))=true:=by simp;omega
    have S:ai (ok=false):=by
     unfold ai;rw[← Z.o];unfold jL;rw[aM NV.o,aM (by rw[NR.o];omega)];simp
    obtain⟨c0,c1,c2,c3,c4,c5,-⟩:=f.cj;obtain⟨z0,z1,z2,-⟩:=l.cj;have m0:=j.2 0;have m1:=j.2 1;have m2:=j.2 2;obtain⟨W9,A⟩:∃ W,W=((v5.setCell ⟨r,0,none⟩ (.slice none 0 0)).setCell ⟨r,1,none⟩ (.slice none 0 0)).setCell ⟨r,2,none⟩ (.slice none 0 0):=⟨_,rfl⟩;have Q:=jF A f.below N;obtain⟨l0,l1,l2⟩:=kH A z0 z1 z2;have V:=ah A;clear A;go_wp2_with fail;rw[← V.o];refine bodyPost_ret (v:=.tuple #[.agg #[.slice none 0 0,.slice none 0 0,.slice none 0 0],.int .i64 4]) (by simp[results,Tryz.results95,go_sem,l0,l1,l2]) rfl ⟨bH,4,none,0,0,none,0,0,none,0,0,rfl,eH.no _ _,ah (And.intro (fun h=>by rw[S.o]at h;cases h) (fun _=>⟨NE,rfl⟩)),Q⟩
   ·have NY:decide ((24:Int)≤(nk:Int))=false:=by simp;omega
    have S:ai (ok=true):=by
     unfold ai;rw[← Z.o];unfold jL;rw[R.o,aJ (p:=t.ks.length<24) (by rw[NR.o];omega)];rfl
    obtain⟨c0,c1,c2,c3,c4,c5,-⟩:=f.cj;go_wp2_with fail;clear c0 c1 c2 c3 c4 c5;refine (oD (aR t.ks s) Ge Gk gn gm gc gd a n v5 (LenT.few (by have:=bY t s;have:=HN.2;omega)) (by have:=bY t s;have:=HN.2;omega) HG).mono ?_;rintro e v6 ⟨k,z9,De,dn,dc,Dk,dm,dd,Rc,O,re,rfl,J,N8,c⟩;obtain⟨rfl,Ny,NK,hu⟩:=N8.1 (uE N9);have C:r<v5.heap.size:=j.1;have m:ai (k.2.length=O∧RO v6 (fun b=>r<b) 3 Rc O re (aP k.2)):=⟨J.len,J.ctx.mono fun b H _=>cO C H⟩;have B:=ah J.M_;have HU:ai (k.1=cu ⟨a,n,⟨#[]⟩,0⟩∧O≤4*nodes t+4∧∃ u,pG (dl (aR t.ks s)) u∧iW l6 u (eZ a n) k.2):=⟨Ny,by have:=bY t s;omega,hu⟩;obtain⟨f,l,j,D⟩:=iR c f l j D;clear J N8 c Ny NK hu C
    obtain⟨d,v7,hd,N7,c,b0,b1,b2⟩:=rW v6 (.slice De dn dc) (.slice Dk dm dd) (.slice Rc O re) 42;obtain⟨f,l,j,D,B⟩:=jo c f l j D B;have m:=ah (And.intro m.1 (m.2.keep c.size fun b _ F=>c.block b F));have f:=ah (((f.af b2).af b1).af b0);have Hd:=ah hd;have X:=ah N7;clear c hd N7 b0 b1 b2;obtain⟨c0,c1,c2,c3,c4,c5,c6,c7,c8,-⟩:=f.cj;rw[X.o]at c0 c1 c2 c3 c4 c5 c6 c7 c8;rw[Hd.o]at c0 c1 c2
    have Nz:v7.heap.size=d+1:=by rw[X.o,Hd.o];simp
    obtain⟨g2,Y⟩:∃ z,z=d+1:=⟨_,rfl⟩;obtain⟨v8,L⟩:∃ W,W=v7.alloc (.cells #[.string s] 9):=⟨_,rfl⟩
    have c:av v7 v8:=by rw[L];exact Dt.ay _ _ _
    have HS:ai (Rd v8 v8.heap.size 1 (some ⟨g2,0,none⟩) 1 1 (strs [s])):=ah (by rw[L,Y,← Nz];exact ku _ _)
    obtain⟨f,l,j,D,B⟩:=jo c f l j D B;have m:=ah (And.intro m.1 (m.2.keep c.size fun b _ F=>c.block b F));have NG:=ah Y;have NH:=ah L;clear Nz c Y L;go_wp2_with fail;rw[← Hd.o,← X.o,← NG.o,← NH.o];clear c0 c1 c2 c3 c4 c5 c6 c7 c8;refine (yD k.1 De Dk dn dm dc dd [s] (some ⟨g2,0,none⟩) 1 1 v8 rfl (by omega) HS (LenT.few (by rw[HU.o.1,iQ];omega)) (by rw[HU.o.1,iQ];omega) B).mono ?_;rw[HU.o.1,vz HE.o N_.o,Am HE.o N_.o];rintro e v9 ⟨Re,rn,rc,Rk,rm,rd,rfl,ho,c⟩;have C:r<v8.heap.size:=j.1;have U:ai (aX v9 (fun b=>r<b) (bF (cu ⟨a,n,⟨#[]⟩,0⟩) [s]) ⟨Re,rn,rc⟩ ⟨Rk,rm,rd⟩):=aX.mono (fun b H _=>cO C H) _ ho;obtain⟨f,l,j,D,B⟩:=jo c f l j D B
    have m:=ah (And.intro m.1 (m.2.keep c.size fun b _ F=>c.block b F));clear ho c C HS;obtain⟨i,NP,hi,M,c,b0,b1⟩:=A_ v9 (.slice Re rn rc) (.slice Rk rm rd) 35;obtain⟨f,l,j,D,B⟩:=jo c f l j D B;have m:=ah (And.intro m.1 (m.2.keep c.size fun b _ F=>c.block b F));have U:=ah (aX.later U c);have f:=ah ((f.af b1).af b0);have Hi:=ah hi;have G:=ah M;clear c hi M b0 b1;obtain⟨c0,c1,c2,c3,c4,c5,c6,c7,c8,c9,NI,-⟩:=f.cj;rw[G.o]at c0 c1 c2 c3 c4 c5 c6 c7 c8 c9 NI;rw[Hi.o]at c0 c1;obtain⟨z0,z1,z2,-⟩:=l.cj;have m0:=j.2 0;have m1:=j.2 1;have m2:=j.2 2;obtain⟨W9,A⟩:∃ W,W=((NP.setCell ⟨r,0,none⟩ (.slice Re rn rc)).setCell ⟨r,1,none⟩ (.slice Rk rm rd)).setCell ⟨r,2,none⟩ (.slice Rc O re):=⟨_,rfl⟩
    have Q:=jF A f.below N
    have NF:ai (eH W9 w.heap.size (bF (cu ⟨a,n,⟨#[]⟩,0⟩) [s],k.2) Re rn rc Rk rm rd Rc O re):=by
     unfold ai;rw[A];exact⟨aX.mono (fun b H _=>aN N (oZ H)) _ (aX.keep (by rw[cells3];exact bG) (fun b H _=>bR b (by omega)) _ U),m.1,(m.2.keep (by rw[cells3];exact bG) (fun b H _=>bR b (by omega))).mono fun b H _=>aN N (oZ H)⟩
    obtain⟨l0,l1,l2⟩:=kH A z0 z1 z2;have V:=ah A;clear A;rw[G.o]at z0 z1 z2 m0 m1 m2;go_wp2_with fail;rw[← Hi.o,← G.o,← V.o];refine bodyPost_ret (v:=.tuple #[.agg #[.slice Re rn rc,.slice Rk rm rd,.slice Rc O re],.int .i64 0]) (by simp[results,Tryz.results95,go_sem,l0,l1,l2]) rfl ⟨(bF (cu ⟨a,n,⟨#[]⟩,0⟩) [s],k.2),0,Re,rn,rc,Rk,rm,rd,Rc,O,re,rfl,NF,ah (And.intro (fun _=>⟨rfl,rfl,HU.2.1,HU.2.2⟩) (fun h=>by rw[S.o]at h;cases h)),Q⟩
end Cs
namespace Cs
open Tr Cx Sp Rw Classical
theorem DX (t:T) (p:List ByteArray):jm t p=0∨jm t p=1∨jm t p=10:=by
 unfold jm
 split
 ·exact .inr (.inl rfl)
 ·split
  ·exact .inr (.inr rfl)
  ·split
   ·exact .inl rfl
   ·split
    ·exact .inr (.inr rfl)
    ·exact .inl rfl
noncomputable def kP (t:T) (key:ByteArray) (x:T):Bool:=decide (x.es=[]∧x.ks=[])||jL t key
noncomputable def rR (t:T) (key:ByteArray) (kd:K):Int:=if (Tr.ak 5 t&&bB kd)=true then (if jm kd.1 [key]=1 then 1 else if kP t key kd.1=true then jm kd.1 [key]else 4)else 1
noncomputable def vw (t:T) (key:ByteArray) (kd:K):K:=if rR t key kd=0 then (kN kd.1 [key],kd.2)else bH
theorem tQ {t:T} {key:ByteArray} {kd:K} {x:Int} (a:Tr.ak 5 t=true) (b:bB kd=true) (h:jm kd.1 [key]=x) (c:¬x=1):rR t key kd=if kP t key kd.1=true then x else 4:=by
 unfold rR;rw[a,b,if_pos (by rfl),h,if_neg c]
theorem y_ {t:T} {key:ByteArray} {kd:K} (h:Tr.ak 5 t=false∨bB kd=false∨jm kd.1 [key]=1):rR t key kd=1:=by
 unfold rR
 rcases h with h | h | h
 ·rw[h];rfl
 ·rw[h,Bool.and_false];rfl
 ·rw[h,if_pos rfl,ite_self]
theorem FD {t:T} {key:ByteArray} {kd:K} (h:rR t key kd=0):Tr.ak 5 t=true∧bB kd=true∧jm kd.1 [key]=0∧vw t key kd=(kN kd.1 [key],kd.2):=by
 have d:vw t key kd=(kN kd.1 [key],kd.2):=by unfold vw;rw[if_pos h]
 unfold rR at h
 by_cases a:(Tr.ak 5 t&&bB kd)=true
 ·rw[if_pos a]at h
  rw[Bool.and_eq_true]at a
  by_cases b:jm kd.1 [key]=1
  ·rw[if_pos b]at h;cases h
  ·rw[if_neg b]at h
   by_cases c:kP t key kd.1=true
   ·rw[if_pos c]at h
    exact⟨a.1,a.2,h,d⟩
   ·rw[if_neg c]at h;cases h
 ·rw[if_neg a]at h;cases h
theorem oV {t:T} {key:ByteArray} {kd:K} (h:¬rR t key kd=0):vw t key kd=bH:=by unfold vw;rw[if_neg h]
end Cs
namespace Cs
open Tr Cx Sp Rw Classical
noncomputable def AZ (t:T) (v a n:Int):Bool:=aY t a n&&decide (-1099511627776≤v∧v≤1099511627776)&&decide (t.es.length<24)
noncomputable def EB (t:T) (v a n:Int):Int:=if aY t a n=true∧(-1099511627776≤v∧v≤1099511627776)then 4 else 1
theorem Gf {t:T} {v a n:Int} (b:aY t a n=true) (c : -1099511627776≤v∧v≤1099511627776) (d:t.es.length<24):AZ t v a n=true:=by
 unfold AZ;rw[b,aJ c,aJ d];rfl
theorem KY {t:T} {v a n:Int} (h:aY t a n=false):AZ t v a n=false:=by
 unfold AZ;rw[h,Bool.false_and,Bool.false_and]
theorem Gc {t:T} {v a n:Int} (h:¬(-1099511627776≤v∧v≤1099511627776)):AZ t v a n=false:=by
 unfold AZ;rw[aM h,Bool.and_false,Bool.false_and]
theorem Gd {t:T} {v a n:Int} (h:¬t.es.length<24):AZ t v a n=false:=by
 unfold AZ;rw[aM h,Bool.and_false]
theorem Ms {t:T} {v a n:Int} (h:aY t a n=false):EB t v a n=1:=by
 unfold EB;rw[if_neg];rintro⟨b,_⟩;rw[h]at b
 cases b
theorem J4 {t:T} {v a n:Int} (h:¬(-1099511627776≤v∧v≤1099511627776)):EB t v a n=1:=by
 unfold EB;rw[if_neg];rintro⟨_,b⟩;exact h b
theorem J5 {t:T} {v a n:Int} (b:aY t a n=true) (c : -1099511627776≤v∧v≤1099511627776):EB t v a n=4:=by
 unfold EB;rw[if_pos ⟨b,c⟩]
def MC (lo:Nat) (ok:Bool) (er:Int) (x:E) (w:World) (e:Ending) (w':World):Prop:=∃ (k:K) (z:Int) (Ae:Option Addr) (ne ce:Nat) (Ak:Option Addr) (nk ck:Nat) (Ca:Option Addr) (na ca9:Nat),e = .returned (.tuple #[.agg #[.slice Ae ne ce,.slice Ak nk ck,.slice Ca na ca9],.int .i64 z])∧ai (eH w' lo k Ae ne ce Ak nk ck Ca na ca9)∧ai ((ok=true→z=0∧k=CW x∧na≤4)∧(ok=false→z=er∧k=bH))∧av w w'
set_option maxRecDepth 100000 in
set_option maxHeartbeats 4000000 in
theorem KX (t:T) (Ae Ak:Option Addr) (ne nk ce ck:Nat) (v a n:Int) (w:World) (hl:LenT reachBytes t) (hn:nodes t≤1000) (hr:aF w w.heap.size t ⟨Ae,ne,ce⟩ ⟨Ak,nk,ck⟩) :
  Calls Tryz.prog 97 #[.agg #[.slice Ae ne ce,.slice Ak nk ck],.int .i64 v,.agg #[.int .i64 a,.int .i64 n]] w (MC w.heap.size (AZ t v a n) (EB t v a n) ⟨a,n,⟨#[]⟩,v⟩ w):=by
 obtain⟨W,p,q,r,HW,HP,HQ,D,f,k,d⟩:=pM w Ae Ak ne nk ce ck a n
 have B:w.heap.size≤r:=by have:=HP.o;have:=D.o;omega
 have hpr:p<r:=by have:=HP.o;have:=D.o;omega
 have hqr:q<r:=by have:=HQ.o;have:=D.o;omega
 obtain⟨z,hz⟩:∃ z,aY t a n=z:=⟨_,rfl⟩;have Z:=ah (aF.more f.below.size _ (aF.below hr f.below));have HD:=ah (lJ t Ae Ak ne nk ce ck a n W z hz hl hn Z)
 have N8:ai (t.es.length=ne):=by
  have h:=hr;rw[← T.eta t]at h;exact (bn h).1
 have C:=ah hz;clear hl hn hr hz;obtain⟨c0,c1,c2,c3,-⟩:=f.cj;go_enter Tryz.func97,Tryz.ntmps97;go_wp2_with fail;rw[← HP.o,← HW.o]
 try rw[← D.o]
 try rw[← HQ.o]
 refine HD.mono ?_;rintro e v1 ⟨rfl,A⟩;obtain⟨f,k,d,Z⟩:=iR A f k d Z;clear A HD c0 c1 c2 c3
 cases z with
 | false=>
  obtain⟨U,V,X,-⟩:=k.cj;have m0:=d.2 0;have m1:=d.2 1;have m2:=d.2 2;obtain⟨S,c⟩:∃ W,W=((v1.setCell ⟨r,0,none⟩ (.slice none 0 0)).setCell ⟨r,1,none⟩ (.slice none 0 0)).setCell ⟨r,2,none⟩ (.slice none 0 0):=⟨_,rfl⟩;have m:=jF c f.below B;obtain⟨M,N,O⟩:=kH c U V X;have s:=ah c;clear c;go_wp2_with fail;rw[← s.o];refine bodyPost_ret (v:=.tuple #[.agg #[.slice none 0 0,.slice none 0 0,.slice none 0 0],.int .i64 1]) (by simp[results,Tryz.results97,go_sem,M,N,O]) rfl ⟨bH,1,none,0,0,none,0,0,none,0,0,rfl,eH.no _ _,ah (And.intro (fun h=>by rw[KY C.o]at h;cases h) (fun _=>⟨(Ms C).symm,rfl⟩)),m⟩
 | true=>
  by_cases h1:v < -1099511627776
  ·have f1:decide (v < -1099511627776)=true:=aJ h1
   have R:ai (¬(-1099511627776≤v∧v≤1099511627776)):=fun h=>by omega
   clear h1;obtain⟨U,V,X,-⟩:=k.cj;have m0:=d.2 0;have m1:=d.2 1;have m2:=d.2 2;obtain⟨S,c⟩:∃ W,W=((v1.setCell ⟨r,0,none⟩ (.slice none 0 0)).setCell ⟨r,1,none⟩ (.slice none 0 0)).setCell ⟨r,2,none⟩ (.slice none 0 0):=⟨_,rfl⟩;have m:=jF c f.below B;obtain⟨M,N,O⟩:=kH c U V X;have s:=ah c;clear c;go_wp2_with fail;rw[← s.o];refine bodyPost_ret (v:=.tuple #[.agg #[.slice none 0 0,.slice none 0 0,.slice none 0 0],.int .i64 1]) (by simp[results,Tryz.results97,go_sem,M,N,O]) rfl ⟨bH,1,none,0,0,none,0,0,none,0,0,rfl,eH.no _ _,ah (And.intro (fun h=>by rw[Gc R.o]at h;cases h) (fun _=>⟨(J4 R).symm,rfl⟩)),m⟩
  ·have f1:decide (v < -1099511627776)=false:=aM h1
   by_cases h2:1099511627776<v
   ·have f2:decide (1099511627776<v)=true:=aJ h2
    have R:ai (¬(-1099511627776≤v∧v≤1099511627776)):=fun h=>by omega
    clear h1 h2;obtain⟨U,V,X,-⟩:=k.cj;have m0:=d.2 0;have m1:=d.2 1;have m2:=d.2 2;obtain⟨S,c⟩:∃ W,W=((v1.setCell ⟨r,0,none⟩ (.slice none 0 0)).setCell ⟨r,1,none⟩ (.slice none 0 0)).setCell ⟨r,2,none⟩ (.slice none 0 0):=⟨_,rfl⟩;have m:=jF c f.below B;obtain⟨M,N,O⟩:=kH c U V X;have s:=ah c;clear c;go_wp2_with fail;rw[← s.o];refine bodyPost_ret (v:=.tuple #[.agg #[.slice none 0 0,.slice none 0 0,.slice none 0 0],.int .i64 1]) (by simp[results,Tryz.results97,go_sem,M,N,O]) rfl ⟨bH,1,none,0,0,none,0,0,none,0,0,rfl,eH.no _ _,ah (And.intro (fun h=>by rw[Gc R.o]at h;cases h) (fun _=>⟨(J4 R).symm,rfl⟩)),m⟩
   ·have f2:decide (1099511627776<v)=false:=aM h2
    have R:ai (-1099511627776≤v∧v≤1099511627776):=⟨by omega,by omega⟩;clear h1 h2;obtain⟨c0,c1,c2,c3,-⟩:=f.cj
    by_cases NA:24≤ne
    ·have NQ:decide ((24:Int)≤(ne:Int))=true:=aJ (by omega)
     have NJ:ai (¬t.es.length<24):=fun h=>by rw[N8.o]at h;omega
     clear NA;obtain⟨U,V,X,-⟩:=k.cj;have m0:=d.2 0;have m1:=d.2 1;have m2:=d.2 2;obtain⟨S,c⟩:∃ W,W=((v1.setCell ⟨r,0,none⟩ (.slice none 0 0)).setCell ⟨r,1,none⟩ (.slice none 0 0)).setCell ⟨r,2,none⟩ (.slice none 0 0):=⟨_,rfl⟩;have m:=jF c f.below B;obtain⟨M,N,O⟩:=kH c U V X;have s:=ah c;clear c;go_wp2_with fail;rw[← s.o];refine bodyPost_ret (v:=.tuple #[.agg #[.slice none 0 0,.slice none 0 0,.slice none 0 0],.int .i64 4]) (by simp[results,Tryz.results97,go_sem,M,N,O]) rfl ⟨bH,4,none,0,0,none,0,0,none,0,0,rfl,eH.no _ _,ah (And.intro (fun h=>by rw[Gd NJ.o]at h;cases h) (fun _=>⟨(J5 C R).symm,rfl⟩)),m⟩
    ·have NQ:decide ((24:Int)≤(ne:Int))=false:=aM (by omega)
     have NI:ai (t.es.length<24):=ah (by rw[N8.o];omega)
     have N7:ai (Dt.ak a n=true):=(dD.1 C).2.1;clear NA;obtain⟨g,v2,hg,L,A,-,-⟩:=A_ v1 (.int .i64 a) (.int .i64 n) 37;have Nz:=Gz v1 a n 37;rw[← L,← hg]at Nz;have N_:=ah (Gw [(a,n)] 1 (some ⟨g,0,none⟩) 1 v2 rfl (by omega) (Nz.more (by rw[L];simp;omega)));obtain⟨f,k,d,Z⟩:=iR A f k d Z;have Hg:=ah hg;have NP:=ah L;clear A Nz hg L;go_wp2_with fail;rw[← Hg.o,← NP.o];clear c0 c1 c2 c3;refine N_.mono ?_;rintro e v3 (⟨_,o,Q,Y,co,bo,rfl,NC,NE,NT,H,A⟩ | ⟨hno,rfl,hb3⟩)
     ·obtain rfl:o=eZ a n:=NE.eq (Gx N7)
      have NR:w.heap.size≤bo:=aN f.below.size H.1;have hrb:r<bo:=cO d.1 H.1;have NM:ai (RO v3 (fun b=>bo≤b) 3 Y Q co (aP (eZ a n))):=(RO.b_ H.2).mono fun b hb _=>hb.1;have N9:ai ((eZ a n).length=Q∧Q≤4):=⟨NC,by omega⟩;obtain⟨f,k,d,Z⟩:=iR A f k d Z;have c2:=f.c2;have c3:=f.c3;obtain⟨U,V,X,-⟩:=k.cj;have m0:=d.2 0;have m1:=d.2 1;have m2:=d.2 2;have NU:r<v3.heap.size:=d.1;obtain⟨h,hh⟩:∃ g,g=v3.heap.size:=⟨_,rfl⟩;obtain⟨F,y⟩:∃ W,W=((v3.setCell ⟨r,0,none⟩ (.slice (some ⟨h,0,none⟩) 1 1)).setCell ⟨r,1,none⟩ (.slice none 0 0)).setCell ⟨r,2,none⟩ (.slice Y Q co):=⟨_,rfl⟩;obtain⟨S,c⟩:∃ W,W=F.alloc (.cells #[.int .i64 a,.int .i64 n,.string ⟨#[]⟩,.int .i64 v] 97):=⟨_,rfl⟩
      have J:F.heap.size=h:=by rw[y,cells3,hh]
      have Ny:av w F:=by
       rw[y];exact ((f.below.setCell (p:=⟨r,0,none⟩) B _).setCell (p:=⟨r,1,none⟩) B _).setCell (p:=⟨r,2,none⟩) B _
      have l:av F S:=by rw[c];exact Dt.ay _ _ _
      have m:ai (av w S):=Ny.trans (l.mono Ny.size)
      have NF:F.cell? ⟨r,0,none⟩=some (.slice (some ⟨h,0,none⟩) 1 1):=by rw[y];go_simp
      have NG:F.cell? ⟨r,1,none⟩=some (.slice none 0 0):=by rw[y];go_simp
      have NH:F.cell? ⟨r,2,none⟩=some (.slice Y Q co):=by rw[y];go_simp
      have G:r<F.heap.size:=by rw[J,hh];exact NU
      have M:=(l.cell (p:=⟨r,0,none⟩) G).trans NF;have N:=(l.cell (p:=⟨r,1,none⟩) G).trans NG;have O:=(l.cell (p:=⟨r,2,none⟩) G).trans NH
      have HE:RO S (fun b=>h≤b) 4 (some ⟨h,0,none⟩) 1 1 (bV [⟨a,n,⟨#[]⟩,v⟩]):=by
       refine⟨rfl,bG,fun u hu=>?_,fun _=>⟨_,_,rfl,bG,by rw[c];simp;omega,fun j=>by rw[c,← J];go_simp,fun j u hu=>?_⟩⟩
       ·simp[bV,wT]at hu
        rcases hu with rfl | rfl | rfl | rfl <;> rfl
       ·rw[Nat.zero_add,c,← J,cell_of_row _ _ j _ _ (0,0) (heap_alloc_new _ _)]
        simpa [bV,wT] using hu
      have NV:w.heap.size≤h:=by omega
      have NK:ai (eH S w.heap.size (CW ⟨a,n,⟨#[]⟩,v⟩) (some ⟨h,0,none⟩) 1 1 none 0 0 Y Q co):=by
       have h8:RO F (fun b=>bo≤b) 3 Y Q co (aP (eZ a n)):=NM.keep (by rw[y,cells3];exact bG) fun b hb _=>by rw[y];exact bR b (by omega)
       refine⟨?_,N9.1,(h8.keep l.size fun b _ NS=>l.block b NS).mono fun b hb _=>aN NR hb⟩;show aX _ _ (.mk [_] []) _ _;rw[kQ];exact⟨rfl,HE.mono fun b hb _=>aN NV hb,rfl,[],RO.nil _ _ _ _ _,fun i hi=>by simp at hi⟩
      have Hh:=ah hh;have NN:=ah y;have s:=ah c;clear hh y c A Ny l J G NF NG NH HE NC NE NT H N_;go_wp2_with fail;rw[← Hh.o,← NN.o,← s.o];refine bodyPost_ret (v:=.tuple #[.agg #[.slice (some ⟨h,0,none⟩) 1 1,.slice none 0 0,.slice Y Q co],.int .i64 0]) (by simp[results,Tryz.results97,go_sem,M,N,O]) rfl ⟨CW ⟨a,n,⟨#[]⟩,v⟩,0,some ⟨h,0,none⟩,1,1,none,0,0,Y,Q,co,rfl,NK,ah (And.intro (fun _=>⟨rfl,rfl,N9.2⟩) (fun h=>by rw[Gf C.o R.o NI.o]at h;cases h)),m⟩
     ·exact absurd (fun x hx=>by rw[eX.1 hx];exact N7.o) hno
end Cs
namespace Cs
open Tr Cx Sp Rw Classical
noncomputable def wB (t:T) (s:ByteArray) (a n:Int):Bool:=aY t a n&&decide (s.size≤30)
theorem K4 {t:T} {s:ByteArray} {a n:Int} : wB t s a n=true↔aY t a n=true∧s.size≤30:=by
 unfold wB;rw[Bool.and_eq_true,eG]
theorem Nh {t:T} {s:ByteArray} {a n:Int} (h:aY t a n=false):wB t s a n=false:=by
 unfold wB;rw[h,Bool.false_and]
theorem L_ {t:T} {s:ByteArray} {a n:Int} (h:¬s.size≤30):wB t s a n=false:=by
 unfold wB;rw[aM h,Bool.and_false]
theorem Ic {t:T} {a n:Int} (h:aY t a n=true):aY (.mk t.es []) a n=true:=by
 obtain⟨b,d,e⟩:=dD.1 h;refine dD.2 ⟨uU b,d,fun c=>e ?_⟩;rw[wJ]at c;exact Lj b c
theorem uN (t:T):nodes (.mk t.es [])≤nodes t:=by
 rw[bJ];have h:=bE t.es t.ks;rw[T.eta]at h;simp;omega
theorem M5 {w:World} {B:Nat} {t:T} {Ae Ak:Option Addr} {ne nk ce ck:Nat} (a:aF w B t ⟨Ae,ne,ce⟩ ⟨Ak,nk,ck⟩):aF w B (.mk t.es []) ⟨Ae,ne,ce⟩ ⟨none,0,0⟩:=by
 have h:=a;rw[← T.eta t,gL]at h;rw[gL];exact⟨h.1,h.2.1,rfl,[],Rd.nil _,fun i hi=>by simp at hi⟩
set_option maxRecDepth 100000 in
set_option maxHeartbeats 4000000 in
theorem Fw (t:T) (Ae Ak:Option Addr) (ne nk ce ck:Nat) (s:ByteArray) (a n:Int) (w:World) (hl:LenT reachBytes t) (hn:nodes t≤1000) (hr:aF w w.heap.size t ⟨Ae,ne,ce⟩ ⟨Ak,nk,ck⟩) :
  Calls Tryz.prog 98 #[.agg #[.slice Ae ne ce,.slice Ak nk ck],.string s,.agg #[.int .i64 a,.int .i64 n]] w (oo w.heap.size (wB t s a n) 1 (cu ⟨a,n,s,0⟩) (yP t) a n (4*nodes t+4) w):=by
 obtain⟨W,p,q,r,HW,HP,HQ,J,c,A,l⟩:=pM w Ae Ak ne nk ce ck a n
 have B:w.heap.size≤r:=by have:=HP.o;have:=J.o;omega
 have hpr:p<r:=by have:=HP.o;have:=J.o;omega
 have hqr:q<r:=by have:=HQ.o;have:=J.o;omega
 obtain⟨ok,Z⟩:∃ ok,wB t s a n=ok:=⟨_,rfl⟩;rw[Z];have V:=ah Z;obtain⟨z,hz⟩:∃ z,aY t a n=z:=⟨_,rfl⟩;have HR:=ah (aF.more c.below.size _ (aF.below hr c.below));have HD:=ah (lJ t Ae Ak ne nk ce ck a n W z hz hl hn HR);have S:=ah hz;have HN:=ah hn;clear hl hn hr hz Z;obtain⟨c0,c1,c2,c3,-⟩:=c.cj;go_enter Tryz.func98,Tryz.ntmps98;go_wp2_with fail;rw[← HP.o,← HW.o]
 try rw[← J.o]
 try rw[← HQ.o]
 refine HD.mono ?_;rintro e v1 ⟨rfl,y⟩;obtain⟨c,A,l,HR⟩:=iR y c A l HR;clear y HD c0 c1 c2 c3
 cases z with
 | false=>
  have U:ai (ok=false):=ah (by rw[← V.o];exact Nh S)
  obtain⟨z0,z1,z2,-⟩:=A.cj;have m0:=l.2 0;have m1:=l.2 1;have m2:=l.2 2;obtain⟨X,f⟩:∃ W,W=((v1.setCell ⟨r,0,none⟩ (.slice none 0 0)).setCell ⟨r,1,none⟩ (.slice none 0 0)).setCell ⟨r,2,none⟩ (.slice none 0 0):=⟨_,rfl⟩;have C:=jF f c.below B;obtain⟨l0,l1,l2⟩:=kH f z0 z1 z2;have D:=ah f;clear f;go_wp2_with fail;rw[← D.o];refine bodyPost_ret (v:=.tuple #[.agg #[.slice none 0 0,.slice none 0 0,.slice none 0 0],.int .i64 1]) (by simp[results,Tryz.results98,go_sem,l0,l1,l2]) rfl ⟨bH,1,none,0,0,none,0,0,none,0,0,rfl,eH.no _ _,ah (And.intro (fun h=>by rw[U.o]at h;cases h) (fun _=>⟨rfl,rfl⟩)),C⟩
 | true=>
  by_cases h1:s.size≤30
  ·have f1:decide ((30:Int)<(s.size:Int))=false:=aM (by omega)
   have NK:ai (ok=true):=ah (by rw[← V.o];exact K4.2 ⟨S,h1⟩)
   clear h1;obtain⟨c0,c1,c2,c3,-⟩:=c.cj;go_wp2_with fail;clear c0 c1 c2 c3;refine (oD (.mk t.es []) Ae none ne 0 ce 0 a n v1 (LenT.few (by have:=uN t;have:=HN.o;omega)) (by have:=uN t;have:=HN.o;omega) (M5 HR)).mono ?_;rintro e v2 ⟨k,z9,De,dn,dc,Dk,dm,dd,L,G,O,rfl,Ny,NA,y⟩;obtain⟨rfl,NN,NQ,u,hu,N9⟩:=NA.1 (Ic S);rw[wJ]at hu;have R:r<v1.heap.size:=l.1;have N8:ai (k.2.length=G∧RO v2 (fun b=>r<b) 3 L G O (aP k.2)):=⟨Ny.len,Ny.ctx.mono fun b hb _=>cO R hb⟩;have HU:ai (G≤4*nodes t+4∧∃ u,pG (yP t) u∧iW l6 u (eZ a n) k.2):=⟨by have:=uN t;omega,u,hu,N9⟩;obtain⟨c,A,l,HR⟩:=iR y c A l HR;clear Ny NA y NN NQ hu N9 R;obtain⟨d,v3,hd,N7,y,b0,b1,b2⟩:=rW v2 (.slice De dn dc) (.slice Dk dm dd) (.slice L G O) 42
   have NT:v3.heap.size=d+1:=by rw[N7,hd];simp
   have NS:r<v2.heap.size:=l.1;obtain⟨z0,z1,z2,-⟩:=A.cj;have m0:=l.2 0;have m1:=l.2 1;have m2:=l.2 2;have NG:=ah c.below
   have NR:r<d:=by rw[hd];exact NS
   have c:=ah (c.later y);have c:=ah (((c.af b2).af b1).af b0);obtain⟨h,hh⟩:∃ g,g=d+1:=⟨_,rfl⟩;obtain⟨H,x⟩:∃ W,W=((v2.setCell ⟨r,0,none⟩ (.slice (some ⟨h,0,none⟩) 1 1)).setCell ⟨r,1,none⟩ (.slice none 0 0)).setCell ⟨r,2,none⟩ (.slice L G O):=⟨_,rfl⟩;obtain⟨W8,M⟩:∃ W,W=H.alloc (.cells #[.slice De dn dc,.slice Dk dm dd,.slice L G O] 42):=⟨_,rfl⟩;obtain⟨X,f⟩:∃ W,W=W8.alloc (.cells #[.int .i64 a,.int .i64 n,.string s,.int .i64 0] 97):=⟨_,rfl⟩
   have N_:H.heap.size=d:=by rw[x,cells3,hd]
   have Nz:W8.heap.size=h:=by rw[M];simp;omega
   have Y:av w H:=by
    rw[x];exact ((NG.setCell (p:=⟨r,0,none⟩) B _).setCell (p:=⟨r,1,none⟩) B _).setCell (p:=⟨r,2,none⟩) B _
   have F:av H W8:=by rw[M];exact Dt.ay _ _ _
   have Q:av W8 X:=by rw[f];exact Dt.ay _ _ _
   have m:av H X:=F.trans (Q.mono F.size);have C:ai (av w X):=Y.trans (m.mono Y.size)
   have N:r<H.heap.size:=by rw[N_];exact NR
   have NU:w.heap.size≤h:=by omega
   have Hh:=ah hh;have Hd:=ah hd;have NM:=ah N7;clear hh hd N7
   have NC:H.cell? ⟨r,0,none⟩=some (.slice (some ⟨h,0,none⟩) 1 1):=by rw[x];go_simp
   have NE:H.cell? ⟨r,1,none⟩=some (.slice none 0 0):=by rw[x];go_simp
   have NF:H.cell? ⟨r,2,none⟩=some (.slice L G O):=by rw[x];go_simp
   have l0:=(m.cell (p:=⟨r,0,none⟩) N).trans NC;have l1:=(m.cell (p:=⟨r,1,none⟩) N).trans NE;have l2:=(m.cell (p:=⟨r,2,none⟩) N).trans NF
   have HE:RO X (fun b=>h≤b) 4 (some ⟨h,0,none⟩) 1 1 (bV [⟨a,n,s,0⟩]):=by
    refine⟨rfl,bG,fun u hu=>?_,fun _=>⟨_,_,rfl,bG,by rw[f];simp;omega,fun j=>by rw[f,← Nz];go_simp,fun j u hu=>?_⟩⟩
    ·simp[bV,wT]at hu
     rcases hu with rfl | rfl | rfl | rfl <;> rfl
    ·rw[Nat.zero_add,f,← Nz,cell_of_row _ _ j _ _ (0,0) (heap_alloc_new _ _)]
     simpa [bV,wT] using hu
   have NH:ai (eH X w.heap.size (cu ⟨a,n,s,0⟩,k.2) (some ⟨h,0,none⟩) 1 1 none 0 0 L G O):=by
    have h8:RO H (fun b=>r<b) 3 L G O (aP k.2):=N8.2.keep (by rw[x,cells3];exact bG) fun b hb _=>by rw[x];exact bR b (by omega)
    refine⟨?_,N8.1,(h8.keep m.size fun b _ NP=>m.block b NP).mono fun b hb _=>aN B (oZ hb)⟩;show aX _ _ (.mk [_] []) _ _;rw[kQ];exact⟨rfl,HE.mono fun b hb _=>aN NU hb,rfl,[],RO.nil _ _ _ _ _,fun i hi=>by simp at hi⟩
   have NI:=ah x;have NJ:=ah M;have D:=ah f;clear x M f y Y F Q m N_ Nz NT N NC NE NF HE b0 b1 b2;obtain⟨c0,c1,c2,c3,c4,c5,c6,-⟩:=c.cj;rw[NM.o]at c0 c1 c2 c3 c4 c5 c6;rw[Hd.o]at c0 c1 c2;go_wp2_with fail;rw[← Hd.o,← Hh.o,← NI.o,← NJ.o,← D.o];refine bodyPost_ret (v:=.tuple #[.agg #[.slice (some ⟨h,0,none⟩) 1 1,.slice none 0 0,.slice L G O],.int .i64 0]) (by simp[results,Tryz.results98,go_sem,l0,l1,l2]) rfl ⟨(cu ⟨a,n,s,0⟩,k.2),0,some ⟨h,0,none⟩,1,1,none,0,0,L,G,O,rfl,NH,ah (And.intro (fun _=>⟨rfl,rfl,HU.1,HU.2⟩) (fun h=>by rw[NK.o]at h;cases h)),C⟩
  ·have f1:decide ((30:Int)<(s.size:Int))=true:=aJ (by omega)
   have U:ai (ok=false):=ah (by rw[← V.o];exact L_ h1)
   clear h1;obtain⟨z0,z1,z2,-⟩:=A.cj;have m0:=l.2 0;have m1:=l.2 1;have m2:=l.2 2;obtain⟨X,f⟩:∃ W,W=((v1.setCell ⟨r,0,none⟩ (.slice none 0 0)).setCell ⟨r,1,none⟩ (.slice none 0 0)).setCell ⟨r,2,none⟩ (.slice none 0 0):=⟨_,rfl⟩;have C:=jF f c.below B;obtain⟨l0,l1,l2⟩:=kH f z0 z1 z2;have D:=ah f;clear f;go_wp2_with fail;rw[← D.o];refine bodyPost_ret (v:=.tuple #[.agg #[.slice none 0 0,.slice none 0 0,.slice none 0 0],.int .i64 1]) (by simp[results,Tryz.results98,go_sem,l0,l1,l2]) rfl ⟨bH,1,none,0,0,none,0,0,none,0,0,rfl,eH.no _ _,ah (And.intro (fun h=>by rw[U.o]at h;cases h) (fun _=>⟨rfl,rfl⟩)),C⟩
end Cs
end
section
open ChangeShapes WideShapes ChangeAt RowKit
namespace Cs
open Tr Cx Sp Rw Classical
theorem MN (w:World) (Ae Ak a b:Option Addr) (ne nk ce ck e mk c d:Nat):∃ (W:World) (p q:Nat),ai (W=((w.alloc (.cells #[.slice Ae ne ce,.slice Ak nk ck] 35)).alloc (.cells #[.slice a e c,.slice b mk d] 35)))∧ai (p=w.heap.size)∧ai (q=p+1)∧ai (Kept [(⟨p,0,none⟩,.slice Ae ne ce),(⟨p,1,none⟩,.slice Ak nk ck),(⟨q,0,none⟩,.slice a e c),(⟨q,1,none⟩,.slice b mk d)] w W):=by
 refine⟨_,_,_,rfl,rfl,rfl,?_⟩;have f:=Kept.a_ (show av w (((w.alloc (.cells #[.slice Ae ne ce,.slice Ak nk ck] 35)).alloc (.cells #[.slice a e c,.slice b mk d] 35))) from ((bN).alloc (bG) _).alloc (by simp) _)
 refine ((((f).af ?_).af ?_).af ?_).af ?_ <;> go_simp
theorem zR (t:T) (Ae Ak:Option Addr) (ne nk ce ck:Nat) (x:T) (n r:Option Addr) (m mk s u:Nat) (key:ByteArray) (w:World) (z:Bool) (hz:kP t key x=z) (ht:au 5 t) (hl:LenT reachBytes t) (hn:nodes t≤1000) (H:aF w w.heap.size t ⟨Ae,ne,ce⟩ ⟨Ak,nk,ck⟩) (l:aF w w.heap.size x ⟨n,m,s⟩ ⟨r,mk,u⟩) :
  Calls Tryz.prog 106 #[.agg #[.slice Ae ne ce,.slice Ak nk ck],.string key,.agg #[.slice n m s,.slice r mk u]] w fun e w'=>e = .returned (.bool z)∧av w w':=by
 obtain⟨W,p,q,HW,HP,HQ,a⟩:=MN w Ae Ak n r ne nk ce ck m mk s u;have R:=ah (aF.later H a.below);obtain⟨y,J⟩:∃ y,decide (m=0∧mk=0)=y:=⟨_,rfl⟩;have HY:=ah J
 have V:ai ((y||jL t key)=z):=by
  unfold ai;rw[← J,← hz];unfold kP;rw[decide_eq_decide.2 (xu l)]
 have U:=ah ht;have N:=ah (And.intro hl hn)
 have g:ai (t.ks.length=nk):=by
  have h:=H;rw[← T.eta t]at h;exact (bn h).2
 clear hz ht hl hn H l J;obtain⟨c0,c1,c2,c3,-⟩:=a.cj;go_enter Tryz.func106,Tryz.ntmps106;go_wp2_with fail;rw[← HW.o,← HP.o]
 try rw[← HQ.o]
 refine (iO n r m mk s u W).mono ?_;rw[HY.o];rintro e v1 ⟨rfl,b⟩;obtain⟨a,R⟩:=gI b a R;clear b;clear c0 c1 c2 c3
 cases y with
 | true=>
  obtain rfl:z=true:=by rw[← V.o];rfl
  go_wp2_with fail;go_ret;exact⟨by first | rfl | simp,a.below⟩
 | false=>
  have i:ai (jL t key=z):=V.o
  by_cases k:nk<24
  ·have G:decide ((nk:Int)<24)=true:=aJ (by omega)
   obtain rfl:z=true:=by
    rw[← i.o];unfold jL;rw[aJ (p:=t.ks.length<24) (by rw[g.o];exact k)];rfl
   obtain⟨c0,c1,c2,c3,-⟩:=a.cj;go_wp2_with fail;go_ret;exact⟨by first | rfl | simp,a.below⟩
  ·have G:decide ((nk:Int)<24)=false:=aM (by omega)
   have C:ai (decide (key∈keysOf t.ks)=z):=by
    unfold ai;rw[← i.o];unfold jL;rw[aM (p:=t.ks.length<24) (by rw[g.o];exact k),Bool.false_or]
   obtain⟨c0,c1,c2,c3,-⟩:=a.cj;obtain⟨Z,L,c,d,b,-⟩:=Er v1 (.string key) 9;obtain⟨a,R⟩:=gI b a R;clear b
   have j:ai (Rd L L.heap.size 1 (some ⟨Z,0,none⟩) 1 1 (strs [key])):=ah (by rw[d,c];exact ku _ _)
   have D:=ah c;have F:=ah d;clear c d;go_wp2_with fail;rw[← D.o,← F.o];refine (j6 t Ae Ak ne nk ce ck L [key] (some ⟨Z,0,none⟩) 1 1 rfl (by omega) j N.1 (by have:=N.2;omega) R).mono ?_;rintro e M ⟨O,A,X,Q,v,Y,rfl,ho,b⟩
   have S:aF M M.heap.size (aR t.ks key) ⟨O,A,X⟩ ⟨Q,v,Y⟩:=by
    have h:=ho.rd;rw[if_pos (Tr.aO.2 U.o)]at h;exact h
   have f:(A=0∧v=0)↔¬key∈keysOf t.ks:=by
    rw[xu S,Cz U.o];exact not_not.symm
   have B:ai (decide (A=0∧v=0) = !z):=by
    unfold ai;rw[← C.o,← decide_not];exact decide_eq_decide.2 f
   clear ho S f;obtain⟨a,R,j⟩:=kX b a R j;clear b;clear c0 c1 c2 c3;obtain⟨c0,c1,c2,c3,-⟩:=a.cj;go_wp2_with fail;refine (iO O Q A v X Y M).mono ?_;rw[B.o];rintro e v4 ⟨rfl,b⟩;obtain⟨a,R,j⟩:=kX b a R j;clear b;clear c0 c1 c2 c3
   cases z
   ·go_wp2_with fail
    go_ret;exact⟨by first | rfl | simp,a.below⟩
   ·go_wp2_with fail
    go_ret;exact⟨by first | rfl | simp,a.below⟩
theorem ES (t:T) (Ae Ak:Option Addr) (ne nk ce ck:Nat) (a n:Int) (w:World) (Q:LenT reachBytes t) (S:nodes t≤1000) (U:aF w w.heap.size t ⟨Ae,ne,ce⟩ ⟨Ak,nk,ck⟩) :
  Calls Tryz.prog 99 #[.agg #[.slice Ae ne ce,.slice Ak nk ck],.agg #[.int .i64 a,.int .i64 n]] w (oo w.heap.size (aY t a n) 1 none_ (dl t) a n (4*nodes t+4) w):=by
 obtain⟨ok,g⟩:∃ x,aY t a n=x:=⟨_,rfl⟩;rw[g];obtain⟨W,p,q,r,Y,O,X,h,c,f,b⟩:=pM w Ae Ak ne nk ce ck a n
 have N:w.heap.size≤r:=by have:=O.o;have:=h.o;omega
 have R:=ah (aF.later U c.below);have H:=ah (pU t Ae Ak ne nk ce ck a n W Q S R);rw[g]at H;have i:ai (r<W.heap.size∧w.heap.size≤W.heap.size):=⟨b.1,c.below.size⟩;clear Q S U g;obtain⟨c0,c1,c2,c3,-⟩:=c.cj;go_enter Tryz.func99,Tryz.ntmps99;go_wp2_with fail;rw[← O.o,← Y.o]
 try rw[← h.o]
 try rw[← X.o]
 refine H.mono ?_;rintro e v1 ⟨k,z,m,C,y,s,B,A,u,F,D,rfl,l,V,j⟩;obtain⟨c,f,b⟩:=kX j c f b;have L:=ah l.o;have Z:=ah V.o;clear j l V H c0 c1 c2 c3;obtain⟨z0,z1,z2,-⟩:=f.cj;have m0:=b.2 0;have m1:=b.2 1;have m2:=b.2 2;obtain⟨W9,d⟩:∃ W,W=((v1.setCell ⟨r,0,none⟩ (.slice m C y)).setCell ⟨r,1,none⟩ (.slice s B A)).setCell ⟨r,2,none⟩ (.slice u F D):=⟨_,rfl⟩;have G:=jF d c.below N
 have J:ai (eH W9 w.heap.size k m C y s B A u F D):=by
  unfold ai;rw[d];exact (L.gT i.1 _ _ _).mono i.2
 obtain⟨l0,l1,l2⟩:=kH d z0 z1 z2;have M:=ah d;clear d;go_wp2_with fail;rw[← M.o];refine bodyPost_ret (v:=.tuple #[.agg #[.slice m C y,.slice s B A,.slice u F D],.int .i64 z]) (by simp[results,Tryz.results99,go_sem,l0,l1,l2]) rfl ⟨k,z,m,C,y,s,B,A,u,F,D,rfl,J,Z,G⟩
theorem H9 (t:T) (Ae Ak:Option Addr) (ne nk ce ck:Nat) (w:World) (y:Bool) (hy:Tr.ak 5 t=y) (hl:LenT reachBytes t) (hn:nodes t≤1000) (hr:aF w w.heap.size t ⟨Ae,ne,ce⟩ ⟨Ak,nk,ck⟩) :
  Calls Tryz.prog 117 #[.agg #[.slice Ae ne ce,.slice Ak nk ck]] w fun e w'=>∃ (A':Option Addr) (q' c':Nat),e = .returned (.slice A' q' c')∧ai (q'=if y=true then nk else 0)∧ai (Own w' w.heap.size 9 1 A' q' c' (strs (if y=true then keysOf t.ks else [])))∧av w w':=by
 cases t with
 | mk es ks=>
  obtain⟨Y,F⟩:=bn hr;have HR:=ah hr;have r:=ah F;have HL:=ah hl;have HY:=ah hy
  have hnk:nk≤1000:=by have:=bE es ks;omega
  clear Y F hr hn hl hy;obtain⟨g,X⟩:∃ g,g=w.heap.size:=⟨_,rfl⟩;have a:=ah (bQ w Ae Ak ne nk ce ck);rw[← X]at a;obtain⟨W0,l⟩:∃ W,W=w.alloc (.cells #[.slice Ae ne ce,.slice Ak nk ck] 35):=⟨_,rfl⟩;rw[← l]at a;have HG:=ah X;have R:=ah l;have J:=a.c0;have L:=a.c1;clear X l;have s:=ah (aF.more a.below.size _ (aF.below HR a.below));go_enter Tryz.func117,Tryz.ntmps117;go_wp2_with fail;rw[← HG.o,← R.o];refine (bS (.mk es ks) Ae Ak ne nk ce ck W0 HL s).mono ?_;rw[HY.o];rintro e m ⟨rfl,A⟩;have a:=ah (a.later A);clear A s J L;have J:=a.c0;have L:=a.c1
  cases y with
  | false=>
   go_wp2_with fail;go_ret;exact⟨none,0,0,rfl,rfl,⟨iy _ _ _ _,by simp[Tr.strs]⟩,a.below⟩
  | true=>
   go_wp2_with fail
   go_loopw [3,12] (fun v i wr=>∃ (k:Nat) (n:Option Addr) (z:Nat),k≤nk∧i = .int .i64 k∧v = .slice n k z∧ai (Own wr m.heap.size 9 1 n k z (strs (keysOf (ks.take k))))∧ai (av m wr)) (fun _ i _=>nk-(intOf i).toNat)
   case atStart=>exact⟨0,none,0,by omega,rfl,rfl,⟨iy _ _ _ _,by simp[Tr.strs,keysOf]⟩,bN⟩
   case round=>
    obtain⟨k,n,z,hk,rfl,rfl,H,c⟩:=hrel;clear J L;have J:=(c.cell (p:=⟨g,0,none⟩) (aL m _ a.c0)).trans a.c0;have L:=(c.cell (p:=⟨g,1,none⟩) (aL m _ a.c1)).trans a.c1
    by_cases Z:k<nk
    ·have h:=a.below.trans (c.mono a.below.size)
     have D:k<ks.length:=by rw[r.o];exact Z
     obtain⟨b,o,rfl,V,hc⟩:=iJ HR (by omega);obtain⟨⟨M,Ny,S⟩,⟨N,Nz,U⟩,c0,c1,c2,C⟩:=hc k D;dsimp only at c0 c1 c2;have c0:=(h.cell (p:=⟨b,o+k*3,none⟩) V).trans c0;have c1:=(h.cell (p:=⟨b,o+k*3+1,none⟩) V).trans c1;have c2:=(h.cell (p:=⟨b,o+k*3+2,none⟩) V).trans c2;obtain⟨f,d⟩:∃ f,f=(ks[k]).1:=⟨_,rfl⟩;rw[← d]at c0
     have u:ai (keysOf (ks.take (k+1))=keysOf (ks.take k)++[f]):=by unfold ai keysOf;rw[dZ D,mD,d];rfl
     clear hc C d h;obtain⟨wk,j⟩:∃ W,W=wr.alloc (.cells #[.string f,.slice M Ny S,.slice N Nz U] 134):=⟨_,rfl⟩
     have B:av wr wk:=by rw[j];exact Dt.ay _ _ _
     obtain⟨c,H⟩:=gI B c H
     have G:wk.heap.size=wr.heap.size+1:=by rw[j];simp
     obtain⟨A6,c6,w6,r1,r2,r3⟩:=kJ wk m.heap.size (wr.heap.size+1) G H c.size f (by omega);rw[j]at r1;clear j B G
     have O:ai (Own w6 m.heap.size 9 1 A6 (k+1) c6 (strs (keysOf (ks.take (k+1))))):=ah (by rw[u.o];exact r2)
     have q:=ah (c.trans r3);have x:=ah r1;clear r1 r2 r3;go_wp2_with (at_builtin;refine Lib.wpList_append_run _ rfl _ _ _ _ rfl _ _ rfl rfl _ _ x ?_);go_roundw
     case rel=>exact⟨k+1,A6,c6,by omega,by go_num,rfl,O,q⟩
     case measure=>simp[intOf];omega
    ·obtain rfl:k=nk:=by omega
     have Q:ai (Own wr w.heap.size 9 1 n k z (strs (keysOf ks))):=by
      have h1:=H.o;rw[eO (by rw[r.o];exact bG)]at h1;exact h1.mono a.below.size
     have HB:=ah (a.below.trans (c.mono a.below.size));go_wp2_with fail;go_ret;exact⟨n,k,z,rfl,rfl,Q,HB⟩
end Cs
end
section
open ChangeShapes WideShapes ChangeAt RowKit
namespace Cs
open Tr Cx Sp Rw Classical
theorem EJ (k:ByteArray):d_ k≤5:=by
 unfold d_
 split <;> omega
theorem D9 (s:ByteArray) (c:Int) (w:World) :
  Calls Tryz.prog 83 #[.string s,.int .u8 c] w fun e w'=>e = .returned (.int .i64 (Lib.indexByte s.data.toList c.toNat.toUInt8))∧w'=w:=by
 go_enter Tryz.func83,Tryz.ntmps83;go_wp2;rw[run_callFunc_extern Tryz.func131 (by kernel_rfl) (by kernel_rfl) (by kernel_rfl) (e:=Extern.BytealgIndexByte.indexByte) (by kernel_rfl),Lib.run_indexByteString];simp only[Result.andThen];rw[Oper.upon_value];go_wp2;go_ret;exact⟨rfl,rfl⟩
theorem BI (s:ByteArray) (c:Int) (w:World) :
  Calls Tryz.prog 40 #[.string s,.int .u8 c] w fun e w'=>e = .returned (.int .i64 (Lib.indexByte s.data.toList c.toNat.toUInt8))∧w'=w:=by
 go_enter Tryz.func40,Tryz.ntmps40;go_wp2_with (go_at_call 83;refine (D9 _ _ _).mono ?_;rintro e w' ⟨rfl,rfl⟩);go_ret;exact⟨rfl,rfl⟩
theorem Ld (c:UInt8) (l:List UInt8):1+Lib.indexByte [102,115,99,114,109] c=((d_ ⟨⟨c::l⟩⟩:Nat):Int):=by
 by_cases a:c=102
 ·subst a;rfl
 by_cases b:c=115
 ·subst b;rfl
 by_cases d:c=99
 ·subst d;rfl
 by_cases e:c=114
 ·subst e;rfl
 by_cases f:c=109
 ·subst f;rfl
 rw[Gh ⟨a,b,d,e,f⟩]
 have g:((102:UInt8)==c)=false:=by rw[gP];exact fun h=>a h.symm
 have i:((115:UInt8)==c)=false:=by rw[gP];exact fun h=>b h.symm
 have j:((99:UInt8)==c)=false:=by rw[gP];exact fun h=>d h.symm
 have k:((114:UInt8)==c)=false:=by rw[gP];exact fun h=>e h.symm
 have m:((109:UInt8)==c)=false:=by rw[gP];exact fun h=>f h.symm
 simp[Lib.indexByte,g,i,j,k,m]
theorem nT (key:ByteArray) (w:World) :
  Calls Tryz.prog 13 #[.string key] w fun e w'=>e = .returned (.int .i64 (d_ key))∧w'=w:=by
 obtain⟨⟨l⟩⟩:=key
 cases l with
 | nil=>
  go_enter Tryz.func13,Tryz.ntmps13;go_wp2_with fail;go_ret;exact⟨rfl,rfl⟩
 | cons c l=>
  obtain⟨n,j⟩:∃ n,n=d_ ⟨⟨c::l⟩⟩:=⟨_,rfl⟩;have i:=Ld c l;rw[← j]at i ⊢
  have a:n≤5:=by rw[j];exact EJ _
  have m:((ByteArray.mk ⟨c::l⟩).toList==(ByteArray.mk #[]).toList)=false:=dJ (fun h=>by injection h with h;injection h with h;cases h)
  have s:((ByteArray.mk ⟨c::l⟩).toList != (ByteArray.mk #[]).toList)=true:=by unfold bne;rw[m];rfl
  have k:(ByteArray.mk #[]).toList=[]:=by rw[nu]
  have f:=m;have g:=s;rw[k]at f g
  have d:0<(ByteArray.mk ⟨c::l⟩).size:=by show 0<(c::l).length;simp
  have p:(((ByteArray.mk ⟨c::l⟩)[0]'d).toNat:Int).toNat.toUInt8=c:=by
   show ((c.toNat:Nat):Int).toNat.toUInt8=c;simp
  have r:ai (1+Lib.indexByte [102,115,99,114,109] c=(n:Int)):=i;have q:=ah p;have b:=ah a;clear j i k p a;go_enter Tryz.func13,Tryz.ntmps13;go_wp2_with fail;refine (BI _ _ _).mono ?_;rintro e w' ⟨rfl,rfl⟩
  have hw:IntKind.i64.wrap (1+Lib.indexByte [102,115,99,114,109] c)=(n:Int):=by rw[r.o,iN];have:=b.o;omega
  rw[q.o];go_wp2_with fail;go_ret;exact⟨rfl,rfl⟩
end Cs
namespace Cs
open Tr Cx Sp Rw Classical
theorem Mg (w:World) (Ae Ak h i g:Option Addr) (ne nk ce ck c d e f a b:Nat):∃ (W:World) (p q r:Nat),ai (W=(((w.alloc (.cells #[.slice Ae ne ce,.slice Ak nk ck] 35)).alloc (.cells #[.slice h c d,.slice i e f,.slice g a b] 42)).alloc (.cells #[.slice none 0 0,.slice none 0 0,.slice none 0 0] 42)))∧ai (p=w.heap.size)∧ai (q=p+1)∧ai (r=p+1+1)∧ai (Kept [(⟨p,0,none⟩,.slice Ae ne ce),(⟨p,1,none⟩,.slice Ak nk ck),(⟨q,0,none⟩,.slice h c d),(⟨q,1,none⟩,.slice i e f),(⟨q,2,none⟩,.slice g a b)] w W)∧ai (Kept [(⟨r,0,none⟩,.slice none 0 0),(⟨r,1,none⟩,.slice none 0 0),(⟨r,2,none⟩,.slice none 0 0)] w W)∧ai (aA r W):=by
 refine⟨_,_,_,_,rfl,rfl,rfl,rfl,?_,?_,⟨by simp,fun j=>by go_simp⟩⟩
 ·have k:=Kept.a_ (gH w #[.slice Ae ne ce,.slice Ak nk ck] #[.slice h c d,.slice i e f,.slice g a b] #[.slice none 0 0,.slice none 0 0,.slice none 0 0] 35 42 42)
  refine ((((k.af ?_).af ?_).af ?_).af ?_).af ?_ <;> go_simp
 ·have k:=Kept.a_ (gH w #[.slice Ae ne ce,.slice Ak nk ck] #[.slice h c d,.slice i e f,.slice g a b] #[.slice none 0 0,.slice none 0 0,.slice none 0 0] 35 42 42)
  refine ((k.af ?_).af ?_).af ?_ <;> go_simp
set_option maxRecDepth 100000 in
set_option maxHeartbeats 4000000 in
theorem yC (t:T) (Ae Ak:Option Addr) (ne nk ce ck:Nat) (key:ByteArray) (kd:K) (De Dk Dc:Option Addr) (C D F G Ny Nz:Nat) (w:World) (hl:LenT reachBytes t) (hn:nodes t≤1000) (hr:aF w w.heap.size t ⟨Ae,ne,ce⟩ ⟨Ak,nk,ck⟩) (NI:LenT reachBytes kd.1) (NJ:nodes kd.1≤1000) (NG:Ny≤1000) (NK:vB w ⟨kd,⟨De,C,D⟩,⟨Dk,F,G⟩,⟨Dc,Ny,Nz⟩⟩) :
  Calls Tryz.prog 51 #[.agg #[.slice Ae ne ce,.slice Ak nk ck],.string key,.agg #[.slice De C D,.slice Dk F G,.slice Dc Ny Nz]] w (Av (vw t key kd) (rR t key kd) w):=by
 obtain⟨z,hz⟩:∃ z,rR t key kd=z:=⟨_,rfl⟩;obtain⟨k9,NC⟩:∃ k,vw t key kd=k:=⟨_,rfl⟩;rw[hz,NC];obtain⟨W,p,q,r,HW,HP,HQ,N8,c,f,a⟩:=Mg w Ae Ak De Dk Dc ne nk ce ck C D F G Ny Nz
 have u:w.heap.size≤r:=by have:=HP.o;have:=N8.o;omega
 have hpr:p<r:=by have:=HP.o;have:=N8.o;omega
 have hqr:q<r:=by have:=HQ.o;have:=N8.o;omega
 have R:=ah (aF.later hr c.below);have l:=ah (vB.later NK c.below);have N:=ah (And.intro hl hn);have ND:=ah (And.intro NI (And.intro NJ NG));have Y:=ah hz;have Q:=ah NC;obtain⟨y1,NQ⟩:∃ y,Tr.ak 5 t=y:=⟨_,rfl⟩;obtain⟨y2,NR⟩:∃ y,bB kd=y:=⟨_,rfl⟩;have B:=ah NQ;have U:=ah NR;clear hl hn hr NI NJ NG NK hz NC NQ NR;obtain⟨c0,c1,c2,c3,c4,-⟩:=c.cj;go_enter Tryz.func51,Tryz.ntmps51;go_wp2_with fail;rw[← HW.o,← HP.o]
 try rw[← N8.o]
 try rw[← HQ.o]
 refine (bS t Ae Ak ne nk ce ck W N.1 R).mono ?_;rw[B.o];rintro e v1 ⟨rfl,h⟩;obtain⟨c,R,l,f,a⟩:=jo h c R l f a;clear h;clear c0 c1 c2 c3 c4
 cases y1 with
 | false=>
  have n:z=1:=by rw[← Y.o];exact y_ (.inl B)
  obtain rfl:=n
  obtain rfl:k9=bH:=by rw[← Q.o];exact oV (by rw[Y.o];omega)
  obtain⟨J,L,M,-⟩:=f.cj;have m0:=a.2 0;have m1:=a.2 1;have m2:=a.2 2;obtain⟨W9,d⟩:∃ W,W=((v1.setCell ⟨r,0,none⟩ (.slice none 0 0)).setCell ⟨r,1,none⟩ (.slice none 0 0)).setCell ⟨r,2,none⟩ (.slice none 0 0):=⟨_,rfl⟩;have i:=jF d c.below u;obtain⟨l0,l1,l2⟩:=kH d J L M;have j:=ah d;clear d;go_wp2_with fail;rw[← j.o];refine bodyPost_ret (v:=.tuple #[.agg #[.slice none 0 0,.slice none 0 0,.slice none 0 0],.int .i64 1]) (by simp[results,Tryz.results51,go_sem,l0,l1,l2]) rfl ⟨none,0,0,none,0,0,none,0,0,rfl,eH.no _ _,i⟩
 | true=>
  obtain⟨c0,c1,c2,c3,c4,-⟩:=c.cj;go_wp2_with fail;refine (jg kd.1 kd.2 De Dk Dc C F D G Ny Nz v1 ND.2.1 l.len ND.2.2 l.tree l.ctx).mono ?_;rw[show bB (kd.1,kd.2)=y2 from U.o];rintro e v2 ⟨rfl,h⟩;obtain⟨c,R,l,f,a⟩:=jo h c R l f a;clear h;clear c0 c1 c2 c3 c4
  cases y2 with
  | false=>
   have n:z=1:=by rw[← Y.o];exact y_ (.inr (.inl U))
   obtain rfl:=n
   obtain rfl:k9=bH:=by rw[← Q.o];exact oV (by rw[Y.o];omega)
   obtain⟨J,L,M,-⟩:=f.cj;have m0:=a.2 0;have m1:=a.2 1;have m2:=a.2 2;obtain⟨W9,d⟩:∃ W,W=((v2.setCell ⟨r,0,none⟩ (.slice none 0 0)).setCell ⟨r,1,none⟩ (.slice none 0 0)).setCell ⟨r,2,none⟩ (.slice none 0 0):=⟨_,rfl⟩;have i:=jF d c.below u;obtain⟨l0,l1,l2⟩:=kH d J L M;have j:=ah d;clear d;go_wp2_with fail;rw[← j.o];refine bodyPost_ret (v:=.tuple #[.agg #[.slice none 0 0,.slice none 0 0,.slice none 0 0],.int .i64 1]) (by simp[results,Tryz.results51,go_sem,l0,l1,l2]) rfl ⟨none,0,0,none,0,0,none,0,0,rfl,eH.no _ _,i⟩
  | true=>
   obtain⟨e1,NH⟩:∃ x,jm kd.1 [key]=x:=⟨_,rfl⟩;have O:=ah NH;clear NH;obtain⟨c0,c1,c2,c3,c4,-⟩:=c.cj;obtain⟨gs,v3,NA,NE,h,-⟩:=Er v2 (.string key) 9;obtain⟨c,R,l,f,a⟩:=jo h c R l f a;clear h
   have RS:ai (Rd v3 v3.heap.size 1 (some ⟨gs,0,none⟩) 1 1 (strs [key])):=ah (by rw[NE,NA];exact ku _ _)
   have NU:=ah NA;have NV:=ah NE;clear NA NE;go_wp2_with fail;rw[← NU.o,← NV.o];refine (yD kd.1 De Dk C F D G [key] (some ⟨gs,0,none⟩) 1 1 v3 rfl (by omega) RS ND.1 (by have:=ND.2.1;omega) l.tree).mono ?_;rw[O.o];rintro e v4 ⟨We,wn,wc,Wk,wm,wd,rfl,ho,h⟩;have s:ai (aX v4 (fun b=>r<b) (kN kd.1 [key]) ⟨We,wn,wc⟩ ⟨Wk,wm,wd⟩):=aX.mono (fun b hb _=>cO a.1 hb) _ ho;clear ho;obtain⟨c,R,l,f,a,RS⟩:=pR h c R l f a RS;clear h;clear c0 c1 c2 c3 c4;clear RS;have NM:=a.1;obtain⟨b,v5,hb,NN,h,b0,b1⟩:=A_ v4 (.slice We wn wc) (.slice Wk wm wd) 35;obtain⟨c,R,l,f,a,s⟩:=pR h c R l f a s;clear h;have c:=ah ((c.af b1).af b0);have Hb:=ah hb;have X:=ah NN
   clear hb NN b0 b1
   have NT:ai (r<b):=ah (by rw[Hb.o];exact NM)
   clear NM;have N_:=ah (DX kd.1 [key]);rw[O.o]at N_;have NW:=N_.o;clear N_
   rcases NW with rfl | rfl | rfl
   ·obtain⟨y3,N7⟩:∃ y,kP t key kd.1=y:=⟨_,rfl⟩
    have V:=ah N7;clear N7;obtain⟨c0,c1,c2,c3,c4,c5,c6,-⟩:=c.cj;rw[X.o]at c0 c1 c2 c3 c4 c5 c6;rw[Hb.o]at c0 c1;go_wp2_with fail;rw[← Hb.o,← X.o];refine (zR t Ae Ak ne nk ce ck kd.1 De Dk C F D G key v5 y3 V (Tr.aO.1 B) N.1 N.2 R l.tree).mono ?_;rintro e v6 ⟨rfl,h⟩;obtain⟨c,R,l,f,a,s⟩:=pR h c R l f a s;clear h;clear c0 c1 c2 c3 c4 c5 c6
    cases y3 with
    | false=>
     have n:z=4:=by rw[← Y.o];rw[tQ B.o U.o O.o (by omega),V.o];rfl
     obtain rfl:=n
     obtain rfl:k9=bH:=by rw[← Q.o];exact oV (by rw[Y.o];omega)
     obtain⟨J,L,M,-⟩:=f.cj;have m0:=a.2 0;have m1:=a.2 1;have m2:=a.2 2;obtain⟨W9,d⟩:∃ W,W=((v6.setCell ⟨r,0,none⟩ (.slice none 0 0)).setCell ⟨r,1,none⟩ (.slice none 0 0)).setCell ⟨r,2,none⟩ (.slice none 0 0):=⟨_,rfl⟩;have i:=jF d c.below u;obtain⟨l0,l1,l2⟩:=kH d J L M;have j:=ah d;clear d;go_wp2_with fail;rw[← j.o];refine bodyPost_ret (v:=.tuple #[.agg #[.slice none 0 0,.slice none 0 0,.slice none 0 0],.int .i64 4]) (by simp[results,Tryz.results51,go_sem,l0,l1,l2]) rfl ⟨none,0,0,none,0,0,none,0,0,rfl,eH.no _ _,i⟩
    | true=>
     have n:z=0:=by rw[← Y.o,tQ B.o U.o O.o (by omega),V.o];rfl
     obtain rfl:=n
     obtain rfl:k9=(kN kd.1 [key],kd.2):=by rw[← Q.o];exact (FD Y).2.2.2
     have hrb:r<b:=NT.o;obtain⟨c0,c1,c2,c3,c4,c5,c6,-⟩:=c.cj;go_wp2_with fail;clear c0 c1 c2 c3 c4 c5 c6;refine Rg (S:=eB _) c.drew.cj (fun m=>?_);obtain⟨v7,NP,h⟩:=mW v6;obtain⟨c,R,l,f,a,s⟩:=pR h c R l f a s;clear h;rw[← NP]at m ⊢;clear NP;refine T2 0 41 1 42 ?_;refine Tc 2 (fun K hK=>?_);go_simp;(go_at_call 107;refine (Et kd.1 kd.2 De Dk Dc C F D G Ny Nz v7 ND.2.1 l.len ND.2.2 l.tree l.ctx).mono ?_);rintro e v8 ⟨Xe,NY,NZ,Xk,Oa,Ob,Xc,A,H,rfl,N9,h⟩;rw[show bB (kd.1,kd.2)=true from U.o,if_pos rfl]at N9;have NF:ai (kd.2.length=A∧RO v8 (fun b=>r<b) 3 Xc A H (aP kd.2)):=⟨N9.len,N9.ctx.mono fun b hb _=>cO a.1 hb⟩
     clear N9;obtain⟨c,R,l,f,a,s⟩:=pR h c R l f a s;clear h
     have hfd:∀ w:World,(Instr.field 42 (.agg #[.slice Xe NY NZ,.slice Xk Oa Ob,.slice Xc A H]) 1).run Tryz.prog w = .ok (.slice Xc A H) w:=fun _=>by kernel_rfl
     obtain⟨J,L,M,-⟩:=f.cj;have m0:=a.2 0;have m1:=a.2 1;have m2:=a.2 2;clear m;refine Th hK ?_ (fun m=>?_)
     ·exact c.cj
     clear hK K;refine T2 3 44 4 45 ?_;refine Tc 5 (fun K hK=>?_);go_simp;refine Th hK ?_ (fun Z=>?_)
     ·(try dsimp only)
      have h9:=c.tZ (g:=r) u (by simp;omega) (.slice We wn wc) (.slice Wk wm wd) (.slice Xc A H);exact h9.cj
     clear hK K m;have m:=Z;clear Z;refine Tk 6 7 ?_;refine Td ?_;clear m;obtain⟨J,L,M,-⟩:=f.cj;have m0:=a.2 0;have m1:=a.2 1;have m2:=a.2 2;obtain⟨W9,d⟩:∃ W,W=((v8.setCell ⟨r,0,none⟩ (.slice We wn wc)).setCell ⟨r,1,none⟩ (.slice Wk wm wd)).setCell ⟨r,2,none⟩ (.slice Xc A H):=⟨_,rfl⟩;have i:=jF d c.below u
     have NS:ai (eH W9 w.heap.size (kN kd.1 [key],kd.2) We wn wc Wk wm wd Xc A H):=by
      unfold ai;rw[d];exact⟨aX.mono (fun b hb _=>aN u (oZ hb)) _ (aX.keep (by rw[cells3];exact bG) (fun b hb _=>bR b (by omega)) _ s),NF.1,(NF.2.keep (by rw[cells3];exact bG) (fun b hb _=>bR b (by omega))).mono fun b hb _=>aN u (oZ hb)⟩
     obtain⟨l0,l1,l2⟩:=kH d J L M;have j:=ah d;clear d J L M m0 m1 m2;rw[← j.o];go_wp2_with fail;refine bodyPost_ret (v:=.tuple #[.agg #[.slice We wn wc,.slice Wk wm wd,.slice Xc A H],.int .i64 0]) (by simp[results,Tryz.results51,go_sem,l0,l1,l2]) rfl ⟨We,wn,wc,Wk,wm,wd,Xc,A,H,rfl,NS,i⟩
   ·have c0:=c.c0
    have c1:=c.c1;have c2:=c.c2;have c3:=c.c3;have c4:=c.c4;have c5:=c.c5;have c6:=c.c6;rw[X.o]at c0 c1 c2 c3 c4 c5 c6;rw[Hb.o]at c0 c1
    have n:z=1:=by rw[← Y.o];exact y_ (.inr (.inr O))
    obtain rfl:=n
    obtain rfl:k9=bH:=by rw[← Q.o];exact oV (by rw[Y.o];omega)
    obtain⟨J,L,M,-⟩:=f.cj;have m0:=a.2 0;have m1:=a.2 1;have m2:=a.2 2;obtain⟨W9,d⟩:∃ W,W=((v5.setCell ⟨r,0,none⟩ (.slice none 0 0)).setCell ⟨r,1,none⟩ (.slice none 0 0)).setCell ⟨r,2,none⟩ (.slice none 0 0):=⟨_,rfl⟩;have i:=jF d c.below u;obtain⟨l0,l1,l2⟩:=kH d J L M;have j:=ah d;clear d;rw[X.o]at J L M m0 m1 m2;go_wp2_with fail;rw[← Hb.o,← X.o];rw[← j.o];refine bodyPost_ret (v:=.tuple #[.agg #[.slice none 0 0,.slice none 0 0,.slice none 0 0],.int .i64 1]) (by simp[results,Tryz.results51,go_sem,l0,l1,l2]) rfl ⟨none,0,0,none,0,0,none,0,0,rfl,eH.no _ _,i⟩
   ·obtain⟨y3,N7⟩:∃ y,kP t key kd.1=y:=⟨_,rfl⟩
    have V:=ah N7;clear N7;obtain⟨c0,c1,c2,c3,c4,c5,c6,-⟩:=c.cj;rw[X.o]at c0 c1 c2 c3 c4 c5 c6;rw[Hb.o]at c0 c1;go_wp2_with fail;rw[← Hb.o,← X.o];refine (zR t Ae Ak ne nk ce ck kd.1 De Dk C F D G key v5 y3 V (Tr.aO.1 B) N.1 N.2 R l.tree).mono ?_;rintro e v6 ⟨rfl,h⟩;obtain⟨c,R,l,f,a,s⟩:=pR h c R l f a s;clear h;clear c0 c1 c2 c3 c4 c5 c6
    cases y3 with
    | false=>
     have n:z=4:=by rw[← Y.o];rw[tQ B.o U.o O.o (by omega),V.o];rfl
     obtain rfl:=n
     obtain rfl:k9=bH:=by rw[← Q.o];exact oV (by rw[Y.o];omega)
     obtain⟨J,L,M,-⟩:=f.cj;have m0:=a.2 0;have m1:=a.2 1;have m2:=a.2 2;obtain⟨W9,d⟩:∃ W,W=((v6.setCell ⟨r,0,none⟩ (.slice none 0 0)).setCell ⟨r,1,none⟩ (.slice none 0 0)).setCell ⟨r,2,none⟩ (.slice none 0 0):=⟨_,rfl⟩;have i:=jF d c.below u;obtain⟨l0,l1,l2⟩:=kH d J L M;have j:=ah d;clear d;go_wp2_with fail;rw[← j.o];refine bodyPost_ret (v:=.tuple #[.agg #[.slice none 0 0,.slice none 0 0,.slice none 0 0],.int .i64 4]) (by simp[results,Tryz.results51,go_sem,l0,l1,l2]) rfl ⟨none,0,0,none,0,0,none,0,0,rfl,eH.no _ _,i⟩
    | true=>
     have n:z=10:=by rw[← Y.o];rw[tQ B.o U.o O.o (by omega),V.o];rfl
     obtain rfl:=n
     obtain rfl:k9=bH:=by rw[← Q.o];exact oV (by rw[Y.o];omega)
     obtain⟨J,L,M,-⟩:=f.cj;have m0:=a.2 0;have m1:=a.2 1;have m2:=a.2 2;obtain⟨W9,d⟩:∃ W,W=((v6.setCell ⟨r,0,none⟩ (.slice none 0 0)).setCell ⟨r,1,none⟩ (.slice none 0 0)).setCell ⟨r,2,none⟩ (.slice none 0 0):=⟨_,rfl⟩;have i:=jF d c.below u;obtain⟨l0,l1,l2⟩:=kH d J L M;have j:=ah d;clear d;go_wp2_with fail;rw[← j.o];refine bodyPost_ret (v:=.tuple #[.agg #[.slice none 0 0,.slice none 0 0,.slice none 0 0],.int .i64 10]) (by simp[results,Tryz.results51,go_sem,l0,l1,l2]) rfl ⟨none,0,0,none,0,0,none,0,0,rfl,eH.no _ _,i⟩
end Cs
namespace Cs
open Tr Cx Sp Rw Classical
end Cs
namespace Cs
open Tr Cx Sp Rw Classical
end Cs
namespace Cs
open Tr Cx Sp Rw Classical
end Cs
end
end Go.Proofs.YtgeafpaognhokaaGreat
