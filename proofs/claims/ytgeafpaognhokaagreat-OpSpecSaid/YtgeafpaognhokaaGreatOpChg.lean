/- Changes: what stands at a path, changed: the program's. -/
import Derived.Test.YtgeafpaognhokaaGreatG00
import Derived.Test.YtgeafpaognhokaaGreatG80
import Derived.Test.YtgeafpaognhokaaGreatG60
import Derived.Test.YtgeafpaognhokaaGreatG50
namespace Go.Proofs.YtgeafpaognhokaaGreat
open ChangeShapes WideShapes ChangeAt RowKit
namespace Cs
open Tr Cx Sp Rw Classical
theorem GU {t:T} {p:List ByteArray} {a n:Int} (h:aY t a n=true):aY (aI t p) a n=true:=by
 obtain⟨b,d,f⟩:=dD.1 h;refine dD.2 ⟨cB b p,d,fun g=>f ?_⟩;obtain⟨q,e,c⟩:=(Eu (cB b p)).1 g;rw[gU]at c;exact (Eu b).2 ⟨_,e,c⟩
theorem jN {o:jK} (h:¬o.act=3):bL o=o.path∧(bL o).drop o.path.length=[]:=by
 unfold bL;rw[if_neg h];exact⟨rfl,List.drop_length⟩
theorem Ch {o:jK} (h:o.act=3):bL o=o.path++[o.s]∧(bL o).drop o.path.length=[o.s]:=by
 unfold bL;rw[if_pos h];exact⟨rfl,by rw[List.drop_left]⟩
theorem sw {t:T} {o:jK} (h:¬o.act=3) (b:¬o.act=5):¬jb t o o.path.length:=by
 rintro⟨_,⟨k,c,a,_⟩ | ⟨a,_⟩⟩
 ·rw[(jN h).1]at c;omega
 ·exact b a
theorem Jp {t:T} {o:jK} (c:o.act=5):jb t o o.path.length↔24≤(aI t o.path).es.length:=by
 have b:¬o.act=3:=by omega
 constructor
 ·rintro⟨_,⟨k,d,a,_⟩ | ⟨_,a⟩⟩
  ·rw[(jN b).1]at d;omega
  ·rw[(jN b).1]at a;exact a
 ·intro h
  exact⟨.inr (.inr (.inl c)),.inr ⟨c,by rw[(jN b).1];exact h⟩⟩
theorem Jo {t:T} {o:jK} (g:o.act=3):jb t o o.path.length↔jL (aI t o.path) o.s=false:=by
 unfold jL;rw[Bool.or_eq_false_iff,Ea,Ea];have e:=(Ch g).1
 have hlen:(bL o).length=o.path.length+1:=by rw[e,bP];rfl
 have a:(bL o).take o.path.length=o.path:=by rw[e,List.take_left]
 have c:∀ h:o.path.length<(bL o).length,(bL o)[o.path.length]=o.s:=fun h=>by
  have b:(bL o)[o.path.length]?=some o.s:=by rw[e,List.getElem?_append_right (bG),Nat.sub_self];rfl
  rw[v_ h]at b;injection b
 constructor
 ·rintro⟨_,⟨k,i,f,b,d⟩ | ⟨f,_⟩⟩
  ·obtain rfl:k=o.path.length:=by omega
   rw[a]at b d;rw[c i]at d;exact⟨by omega,d⟩
  ·omega
 ·rintro⟨f,b⟩
  refine⟨.inr (.inl g),.inl ⟨o.path.length,by omega,bG,?_,?_⟩⟩
  ·rw[a];omega
  ·rw[a,c (by omega)];exact b
theorem gG.rT {t:T} {o:jK} {d:Int×Int} {j:Nat} {k:K} (b:¬jb t o j) (e:k.1=if brings o.act then bF (cu (eT ⟨d,o,[]⟩)) ((bL o).drop j)else none_) (a:∃ u,pG (fo t o) u∧iW l6 u (eZ d.1 d.2) k.2) (c:k.2.length≤4*Tr.nodes t+4):gG t o d j k 0:=
 ⟨(if_neg b).symm,fun _=>⟨⟨e,a⟩,c⟩,fun h=>absurd rfl h⟩
theorem gG.LJ {t:T} {o:jK} {d:Int×Int} {j:Nat} {k:K} (a:jb t o j) (b:k=bH):gG t o d j k 4:=⟨(if_pos a).symm,fun h=>absurd h (by decide),fun _=>b⟩
def MB (t:T) (o:jK) (a n:Int) (w:World) (e:Ending) (w':World):Prop:=∃ (k:K) (z:Int) (Xe:Option Addr) (xe1 xe2:Nat) (Xk:Option Addr) (xk1 xk2:Nat) (Xc:Option Addr) (xc1 xc2:Nat),e = .returned (.tuple #[.agg #[.slice Xe xe1 xe2,.slice Xk xk1 xk2,.slice Xc xc1 xc2],.int .i64 z])∧ai (eH w' w.heap.size k Xe xe1 xe2 Xk xk1 xk2 Xc xc1 xc2)∧ai (gG t o (a,n) o.path.length k z)∧av w w'
set_option maxRecDepth 100000 in
set_option maxHeartbeats 4000000 in
theorem dX (t:T) (z:List ByteArray) (xa:Int) (xs:ByteArray) (O:Int) (xA:Option Addr) (xn xc:Nat) (a n:Int) (Ge Gk:Option Addr) (gn gm gc gd:Nat) (w:World) (ht:au 5 t) (ho:jM ⟨z,xa,xs,O⟩) (hc:aY t a n=true) (hn:nodes t≤240) (hr:aF w w.heap.size (aI t z) ⟨Ge,gn,gc⟩ ⟨Gk,gm,gd⟩) :
  Calls Tryz.prog 48 #[.agg #[.slice Ge gn gc,.slice Gk gm gd],.agg #[.slice xA xn xc,.int .i64 xa,.string xs,.int .i64 O],.agg #[.int .i64 a,.int .i64 n]] w (MB t ⟨z,xa,xs,O⟩ a n w):=by
 obtain⟨x,hx⟩:∃ x,x=aI t z:=⟨_,rfl⟩;rw[← hx]at hr
 have NN:nodes x≤nodes t:=by rw[hx];exact fP t z
 have NM:aY x a n=true:=by rw[hx];exact GU hc
 have HX:=ah hx;have HT:=ah ht;have N8:=ah ho;have NC:=ah NN;have HN2:=ah hn;have N7:=ah NM;have L:=ah (LenT.few (t:=x) (by omega))
 have N:ai (nodes x≤1000):=FL
 obtain⟨W,p,q,s,r,HW,HP,HQ,N_,G,b,A,l⟩:=FU w Ge Gk gn gm gc gd xA xn xc xa xs O a n
 have N9:w.heap.size≤r:=by have:=HP.o;have:=G.o;omega
 have hpr:p<r:=by have:=HP.o;have:=G.o;omega
 have hqr:q<r:=by have:=HQ.o;have:=G.o;omega
 have hsr:s<r:=by have:=N_.o;have:=G.o;omega
 have R:=ah (aF.later hr b.below);clear hr hx NN NM hc ht ho hn
 have NQ:xa=1∨xa=2∨xa=3∨xa=4∨xa=5∨xa=6∨xa=7:=by
  have h:dI xa (bD z):=N8.act;unfold dI at h;omega
 rcases NQ with rfl | rfl | rfl | rfl | rfl | rfl | rfl
 ·have c0:=b.c0
  have c1:=b.c1;have c2:=b.c2;have c3:=b.c3;have c4:=b.c4;have c5:=b.c5;have c6:=b.c6;have c7:=b.c7;go_enter Tryz.func48,Tryz.ntmps48;go_wp2_with fail;rw[← HW.o,← HP.o]
  try rw[← G.o]
  try rw[← N_.o]
  try rw[← HQ.o]
  refine (oD x Ge Gk gn gm gc gd a n W L N R).mono ?_;rintro e v1 ⟨Z,zx,D,g,i,F,j,k,C,d,f,rfl,J,hz,H⟩;have B:=ah J.o;have Ny:=ah hz.o;clear J hz;obtain⟨b,R,A,l⟩:=iR H b R A l;clear H;clear c0 c1 c2 c3 c4 c5 c6 c7
  have y:fo t ⟨z,1,xs,O⟩=dl (aI t z):=by
   unfold fo;rw[if_neg (by show ¬((1:Int)=3∨(1:Int)=4);decide),if_neg (by show ¬(1:Int)=5;decide),if_neg (by show ¬(1:Int)=6;decide)]
  have M:aI t z=x:=HX.symm;obtain⟨rfl,hk,Nz,u,hu,Y⟩:=Ny.1 (N7.o)
  have U:ai (gG t ⟨z,1,xs,O⟩ (a,n) z.length Z 0):=gG.rT (sw (by show ¬(1:Int)=3;decide) (by show ¬(1:Int)=5;decide)) (by
    have NA:eT ⟨(a,n),⟨z,1,xs,O⟩,[]⟩=⟨a,n,⟨#[]⟩,0⟩:=by unfold eT;rw[if_neg (by show ¬(1:Int)=6;decide),show (⟨z,1,xs,O⟩:jK).n=0 from N8.o.zero (by show (1:Int)≠5;decide)]
    rw[hk,if_pos (by show brings 1;unfold brings;decide),NA,(jN (o:=⟨z,1,xs,O⟩) (by show ¬(1:Int)=3;decide)).2]
    first | done | rfl) ⟨u,by rw[y,M];exact hu,Y⟩ (by have h1:=B.len;have h2:=NC.o;(try dsimp only at h1);omega)
  clear hk Nz hu Y y M
  have m:ai (r<W.heap.size):=ah (by have h:=HW.o;have h1:=G.o;have h2:=HP.o;rw[h];simp;omega)
  have X:ai (w.heap.size≤W.heap.size):=by have h:=m.o;unfold ai;omega
  obtain⟨z0,z1,z2,-⟩:=A.cj;have m0:=l.2 0;have m1:=l.2 1;have m2:=l.2 2;obtain⟨W9,c⟩:∃ W,W=((v1.setCell ⟨r,0,none⟩ (.slice D g i)).setCell ⟨r,1,none⟩ (.slice F j k)).setCell ⟨r,2,none⟩ (.slice C d f):=⟨_,rfl⟩;have Q:=jF c b.below N9
  have S:ai (eH W9 w.heap.size Z D g i F j k C d f):=by
   unfold ai;rw[c];exact (B.gT m _ _ _).mono X
  obtain⟨l0,l1,l2⟩:=kH c z0 z1 z2;have V:=ah c;clear c;go_wp2_with fail;rw[← V.o];refine bodyPost_ret (v:=.tuple #[.agg #[.slice D g i,.slice F j k,.slice C d f],.int .i64 0]) (by simp[results,Tryz.results48,go_sem,l0,l1,l2]) rfl ⟨Z,0,D,g,i,F,j,k,C,d,f,rfl,S,U,Q⟩
 ·have c0:=b.c0
  have c1:=b.c1;have c2:=b.c2;have c3:=b.c3;have c4:=b.c4;have c5:=b.c5;have c6:=b.c6;have c7:=b.c7;go_enter Tryz.func48,Tryz.ntmps48;go_wp2_with fail;rw[← HW.o,← HP.o]
  try rw[← G.o]
  try rw[← N_.o]
  try rw[← HQ.o]
  refine (pU x Ge Gk gn gm gc gd a n W L N R).mono ?_;rintro e v1 ⟨Z,zx,D,g,i,F,j,k,C,d,f,rfl,J,hz,H⟩;have B:=ah J.o;have Ny:=ah hz.o;clear J hz;obtain⟨b,R,A,l⟩:=iR H b R A l;clear H;clear c0 c1 c2 c3 c4 c5 c6 c7
  have y:fo t ⟨z,2,xs,O⟩=dl (aI t z):=by
   unfold fo;rw[if_neg (by show ¬((2:Int)=3∨(2:Int)=4);decide),if_neg (by show ¬(2:Int)=5;decide),if_neg (by show ¬(2:Int)=6;decide)]
  have M:aI t z=x:=HX.symm;obtain⟨rfl,hk,Nz,u,hu,Y⟩:=Ny.1 (N7.o);have U:ai (gG t ⟨z,2,xs,O⟩ (a,n) z.length Z 0):=gG.rT (sw (by show ¬(2:Int)=3;decide) (by show ¬(2:Int)=5;decide)) (by rw[hk,if_neg (by show ¬brings 2;unfold brings;decide)]) ⟨u,by rw[y,M];exact hu,Y⟩ (by have h1:=B.len;have h2:=NC.o;(try dsimp only at h1);omega);clear hk Nz hu Y y M
  have m:ai (r<W.heap.size):=ah (by have h:=HW.o;have h1:=G.o;have h2:=HP.o;rw[h];simp;omega)
  have X:ai (w.heap.size≤W.heap.size):=by have h:=m.o;unfold ai;omega
  obtain⟨z0,z1,z2,-⟩:=A.cj;have m0:=l.2 0;have m1:=l.2 1;have m2:=l.2 2;obtain⟨W9,c⟩:∃ W,W=((v1.setCell ⟨r,0,none⟩ (.slice D g i)).setCell ⟨r,1,none⟩ (.slice F j k)).setCell ⟨r,2,none⟩ (.slice C d f):=⟨_,rfl⟩;have Q:=jF c b.below N9
  have S:ai (eH W9 w.heap.size Z D g i F j k C d f):=by
   unfold ai;rw[c];exact (B.gT m _ _ _).mono X
  obtain⟨l0,l1,l2⟩:=kH c z0 z1 z2;have V:=ah c;clear c;go_wp2_with fail;rw[← V.o];refine bodyPost_ret (v:=.tuple #[.agg #[.slice D g i,.slice F j k,.slice C d f],.int .i64 0]) (by simp[results,Tryz.results48,go_sem,l0,l1,l2]) rfl ⟨Z,0,D,g,i,F,j,k,C,d,f,rfl,S,U,Q⟩
 ·have c0:=b.c0
  have c1:=b.c1;have c2:=b.c2;have c3:=b.c3;have c4:=b.c4;have c5:=b.c5;have c6:=b.c6;have c7:=b.c7;go_enter Tryz.func48,Tryz.ntmps48;go_wp2_with fail;rw[← HW.o,← HP.o]
  try rw[← G.o]
  try rw[← N_.o]
  try rw[← HQ.o]
  refine (Kh x Ge Gk gn gm gc gd xs a n W L N R).mono ?_;rintro e v1 ⟨Z,zx,D,g,i,F,j,k,C,d,f,rfl,J,hz,H⟩;have B:=ah J.o;have Ny:=ah hz.o;clear J hz;obtain⟨b,R,A,l⟩:=iR H b R A l;clear H;clear c0 c1 c2 c3 c4 c5 c6 c7
  have y:fo t ⟨z,3,xs,O⟩=dl (aI t (z++[xs])):=by
   unfold fo;rw[if_pos (.inl rfl)]
  have NE:aI t (z++[xs])=aR x.ks xs:=by rw[kG,← HX.o];rfl
  have NI:xD x xs a n=true:=sS.2 ⟨N7,(N8.key (.inl rfl))⟩;have NG:=Jo (t:=t) (o:=⟨z,3,xs,O⟩) rfl;have M:aI t z=x:=HX.symm;rw[show (aI t (⟨z,3,xs,O⟩:jK).path)=x from M]at NG;rw[NI,Bool.true_and,if_pos rfl]at Ny
  cases NF:jL x xs with
  | true=>
   obtain⟨rfl,hk,Nz,u,hu,Y⟩:=Ny.1 NF
   have U:ai (gG t ⟨z,3,xs,O⟩ (a,n) z.length Z 0):=gG.rT (fun h=>by have h2:jL x xs=false:=NG.1 h;rw[NF]at h2;cases h2) (by
    have NA:eT ⟨(a,n),⟨z,3,xs,O⟩,[]⟩=⟨a,n,⟨#[]⟩,0⟩:=by unfold eT;rw[if_neg (by show ¬(3:Int)=6;decide),show (⟨z,3,xs,O⟩:jK).n=0 from N8.o.zero (by show (3:Int)≠5;decide)]
    rw[hk,if_pos (by show brings 3;unfold brings;decide),NA,(Ch (o:=⟨z,3,xs,O⟩) rfl).2]
    first | done | rfl) ⟨u,by rw[y,NE];exact hu,Y⟩ (by have h1:=B.len;have h2:=NC.o;(try dsimp only at h1);omega)
   clear hk Nz hu Y y NE NI NG M NF
   have m:ai (r<W.heap.size):=ah (by have h:=HW.o;have h1:=G.o;have h2:=HP.o;rw[h];simp;omega)
   have X:ai (w.heap.size≤W.heap.size):=by have h:=m.o;unfold ai;omega
   obtain⟨z0,z1,z2,-⟩:=A.cj;have m0:=l.2 0;have m1:=l.2 1;have m2:=l.2 2;obtain⟨W9,c⟩:∃ W,W=((v1.setCell ⟨r,0,none⟩ (.slice D g i)).setCell ⟨r,1,none⟩ (.slice F j k)).setCell ⟨r,2,none⟩ (.slice C d f):=⟨_,rfl⟩;have Q:=jF c b.below N9
   have S:ai (eH W9 w.heap.size Z D g i F j k C d f):=by
    unfold ai;rw[c];exact (B.gT m _ _ _).mono X
   obtain⟨l0,l1,l2⟩:=kH c z0 z1 z2;have V:=ah c;clear c;go_wp2_with fail;rw[← V.o];refine bodyPost_ret (v:=.tuple #[.agg #[.slice D g i,.slice F j k,.slice C d f],.int .i64 0]) (by simp[results,Tryz.results48,go_sem,l0,l1,l2]) rfl ⟨Z,0,D,g,i,F,j,k,C,d,f,rfl,S,U,Q⟩
  | false=>
   obtain⟨rfl,hk⟩:=Ny.2 NF;have U:ai (gG t ⟨z,3,xs,O⟩ (a,n) z.length Z 4):=gG.LJ (NG.2 NF) hk;clear hk y NE NI NG M NF
   have m:ai (r<W.heap.size):=ah (by have h:=HW.o;have h1:=G.o;have h2:=HP.o;rw[h];simp;omega)
   have X:ai (w.heap.size≤W.heap.size):=by have h:=m.o;unfold ai;omega
   obtain⟨z0,z1,z2,-⟩:=A.cj;have m0:=l.2 0;have m1:=l.2 1;have m2:=l.2 2;obtain⟨W9,c⟩:∃ W,W=((v1.setCell ⟨r,0,none⟩ (.slice D g i)).setCell ⟨r,1,none⟩ (.slice F j k)).setCell ⟨r,2,none⟩ (.slice C d f):=⟨_,rfl⟩;have Q:=jF c b.below N9
   have S:ai (eH W9 w.heap.size Z D g i F j k C d f):=by
    unfold ai;rw[c];exact (B.gT m _ _ _).mono X
   obtain⟨l0,l1,l2⟩:=kH c z0 z1 z2;have V:=ah c;clear c;go_wp2_with fail;rw[← V.o];refine bodyPost_ret (v:=.tuple #[.agg #[.slice D g i,.slice F j k,.slice C d f],.int .i64 4]) (by simp[results,Tryz.results48,go_sem,l0,l1,l2]) rfl ⟨Z,4,D,g,i,F,j,k,C,d,f,rfl,S,U,Q⟩
 ·have c0:=b.c0
  have c1:=b.c1;have c2:=b.c2;have c3:=b.c3;have c4:=b.c4;have c5:=b.c5;have c6:=b.c6;have c7:=b.c7;go_enter Tryz.func48,Tryz.ntmps48;go_wp2_with fail;rw[← HW.o,← HP.o]
  try rw[← G.o]
  try rw[← N_.o]
  try rw[← HQ.o]
  refine (Ki x Ge Gk gn gm gc gd xs a n W L N R).mono ?_;rintro e v1 ⟨Z,zx,D,g,i,F,j,k,C,d,f,rfl,J,hz,H⟩;have B:=ah J.o;have Ny:=ah hz.o;clear J hz;obtain⟨b,R,A,l⟩:=iR H b R A l;clear H;clear c0 c1 c2 c3 c4 c5 c6 c7
  have y:fo t ⟨z,4,xs,O⟩=dl (aI t (z++[xs])):=by
   unfold fo;rw[if_pos (.inr rfl)]
  have NE:aI t (z++[xs])=aR x.ks xs:=by rw[kG,← HX.o];rfl
  obtain⟨rfl,hk,Nz,u,hu,Y⟩:=Ny.1 (sS.2 ⟨N7,(N8.key (.inr rfl))⟩);have U:ai (gG t ⟨z,4,xs,O⟩ (a,n) z.length Z 0):=gG.rT (sw (by show ¬(4:Int)=3;decide) (by show ¬(4:Int)=5;decide)) (by rw[hk,if_neg (by show ¬brings 4;unfold brings;decide)]) ⟨u,by rw[y,NE];exact hu,Y⟩ (by have h1:=B.len;have h2:=NC.o;(try dsimp only at h1);omega);clear hk Nz hu Y y NE
  have m:ai (r<W.heap.size):=ah (by have h:=HW.o;have h1:=G.o;have h2:=HP.o;rw[h];simp;omega)
  have X:ai (w.heap.size≤W.heap.size):=by have h:=m.o;unfold ai;omega
  obtain⟨z0,z1,z2,-⟩:=A.cj;have m0:=l.2 0;have m1:=l.2 1;have m2:=l.2 2;obtain⟨W9,c⟩:∃ W,W=((v1.setCell ⟨r,0,none⟩ (.slice D g i)).setCell ⟨r,1,none⟩ (.slice F j k)).setCell ⟨r,2,none⟩ (.slice C d f):=⟨_,rfl⟩;have Q:=jF c b.below N9
  have S:ai (eH W9 w.heap.size Z D g i F j k C d f):=by
   unfold ai;rw[c];exact (B.gT m _ _ _).mono X
  obtain⟨l0,l1,l2⟩:=kH c z0 z1 z2;have V:=ah c;clear c;go_wp2_with fail;rw[← V.o];refine bodyPost_ret (v:=.tuple #[.agg #[.slice D g i,.slice F j k,.slice C d f],.int .i64 0]) (by simp[results,Tryz.results48,go_sem,l0,l1,l2]) rfl ⟨Z,0,D,g,i,F,j,k,C,d,f,rfl,S,U,Q⟩
 ·have c0:=b.c0
  have c1:=b.c1;have c2:=b.c2;have c3:=b.c3;have c4:=b.c4;have c5:=b.c5;have c6:=b.c6;have c7:=b.c7;go_enter Tryz.func48,Tryz.ntmps48;go_wp2_with fail;rw[← HW.o,← HP.o]
  try rw[← G.o]
  try rw[← N_.o]
  try rw[← HQ.o]
  refine (KX x Ge Gk gn gm gc gd O a n W L N R).mono ?_;rintro e v1 ⟨Z,zx,D,g,i,F,j,k,C,d,f,rfl,J,hz,H⟩;have B:=ah J.o;have Ny:=ah hz.o;clear J hz;obtain⟨b,R,A,l⟩:=iR H b R A l;clear H;clear c0 c1 c2 c3 c4 c5 c6 c7
  have y:fo t ⟨z,5,xs,O⟩=[]:=by
   unfold fo;rw[if_neg (by show ¬((5:Int)=3∨(5:Int)=4);decide),if_pos rfl]
  have NH:=Jp (t:=t) (o:=⟨z,5,xs,O⟩) rfl;have M:aI t z=x:=HX.symm;rw[show (aI t (⟨z,5,xs,O⟩:jK).path)=x from M]at NH
  by_cases NJ:x.es.length<24
  ·obtain⟨rfl,NK,Nz⟩:=Ny.1 (Gf N7 (N8.num rfl) NJ)
   have hk:Z.1=cu ⟨a,n,⟨#[]⟩,O⟩:=by rw[NK];rfl
   have U:ai (gG t ⟨z,5,xs,O⟩ (a,n) z.length Z 0):=gG.rT (fun h=>by have h2:24≤x.es.length:=NH.1 h;omega) (by
    have NA:eT ⟨(a,n),⟨z,5,xs,O⟩,[]⟩=⟨a,n,⟨#[]⟩,O⟩:=by unfold eT;rw[if_neg (by show ¬(5:Int)=6;decide)]
    rw[hk,if_pos (by show brings 5;unfold brings;decide),NA,(jN (o:=⟨z,5,xs,O⟩) (by show ¬(5:Int)=3;decide)).2]
    first | done | rfl) ⟨[],by rw[y];exact of_nil,by rw[NK];exact Lm (dD.1 N7).2.1⟩ (by have h1:=B.len;(try dsimp only at h1);omega)
   clear hk NK Nz y M NH NJ
   have m:ai (r<W.heap.size):=ah (by have h:=HW.o;have h1:=G.o;have h2:=HP.o;rw[h];simp;omega)
   have X:ai (w.heap.size≤W.heap.size):=by have h:=m.o;unfold ai;omega
   obtain⟨z0,z1,z2,-⟩:=A.cj;have m0:=l.2 0;have m1:=l.2 1;have m2:=l.2 2;obtain⟨W9,c⟩:∃ W,W=((v1.setCell ⟨r,0,none⟩ (.slice D g i)).setCell ⟨r,1,none⟩ (.slice F j k)).setCell ⟨r,2,none⟩ (.slice C d f):=⟨_,rfl⟩;have Q:=jF c b.below N9
   have S:ai (eH W9 w.heap.size Z D g i F j k C d f):=by
    unfold ai;rw[c];exact (B.gT m _ _ _).mono X
   obtain⟨l0,l1,l2⟩:=kH c z0 z1 z2;have V:=ah c;clear c;go_wp2_with fail;rw[← V.o];refine bodyPost_ret (v:=.tuple #[.agg #[.slice D g i,.slice F j k,.slice C d f],.int .i64 0]) (by simp[results,Tryz.results48,go_sem,l0,l1,l2]) rfl ⟨Z,0,D,g,i,F,j,k,C,d,f,rfl,S,U,Q⟩
  ·obtain⟨NP,hk⟩:=Ny.2 (Gd NJ)
   obtain rfl:zx=4:=NP.trans (J5 N7 (N8.num rfl));have U:ai (gG t ⟨z,5,xs,O⟩ (a,n) z.length Z 4):=gG.LJ (NH.2 (by omega)) hk;clear hk NP y M NH NJ
   have m:ai (r<W.heap.size):=ah (by have h:=HW.o;have h1:=G.o;have h2:=HP.o;rw[h];simp;omega)
   have X:ai (w.heap.size≤W.heap.size):=by have h:=m.o;unfold ai;omega
   obtain⟨z0,z1,z2,-⟩:=A.cj;have m0:=l.2 0;have m1:=l.2 1;have m2:=l.2 2;obtain⟨W9,c⟩:∃ W,W=((v1.setCell ⟨r,0,none⟩ (.slice D g i)).setCell ⟨r,1,none⟩ (.slice F j k)).setCell ⟨r,2,none⟩ (.slice C d f):=⟨_,rfl⟩;have Q:=jF c b.below N9
   have S:ai (eH W9 w.heap.size Z D g i F j k C d f):=by
    unfold ai;rw[c];exact (B.gT m _ _ _).mono X
   obtain⟨l0,l1,l2⟩:=kH c z0 z1 z2;have V:=ah c;clear c;go_wp2_with fail;rw[← V.o];refine bodyPost_ret (v:=.tuple #[.agg #[.slice D g i,.slice F j k,.slice C d f],.int .i64 4]) (by simp[results,Tryz.results48,go_sem,l0,l1,l2]) rfl ⟨Z,4,D,g,i,F,j,k,C,d,f,rfl,S,U,Q⟩
 ·have c0:=b.c0
  have c1:=b.c1;have c2:=b.c2;have c3:=b.c3;have c4:=b.c4;have c5:=b.c5;have c6:=b.c6;have c7:=b.c7;go_enter Tryz.func48,Tryz.ntmps48;go_wp2_with fail;rw[← HW.o,← HP.o]
  try rw[← G.o]
  try rw[← N_.o]
  try rw[← HQ.o]
  refine (Fw x Ge Gk gn gm gc gd xs a n W L N R).mono ?_;rintro e v1 ⟨Z,zx,D,g,i,F,j,k,C,d,f,rfl,J,hz,H⟩;have B:=ah J.o;have Ny:=ah hz.o;clear J hz;obtain⟨b,R,A,l⟩:=iR H b R A l;clear H;clear c0 c1 c2 c3 c4 c5 c6 c7
  have y:fo t ⟨z,6,xs,O⟩=yP (aI t z):=by
   unfold fo;rw[if_neg (by show ¬((6:Int)=3∨(6:Int)=4);decide),if_neg (by show ¬(6:Int)=5;decide),if_pos rfl]
  have M:aI t z=x:=HX.symm;obtain⟨rfl,hk,Nz,u,hu,Y⟩:=Ny.1 (K4.2 ⟨N7,N8.text rfl⟩)
  have U:ai (gG t ⟨z,6,xs,O⟩ (a,n) z.length Z 0):=gG.rT (sw (by show ¬(6:Int)=3;decide) (by show ¬(6:Int)=5;decide)) (by
    have NA:eT ⟨(a,n),⟨z,6,xs,O⟩,[]⟩=⟨a,n,xs,0⟩:=by unfold eT;rw[if_pos rfl,show (⟨z,6,xs,O⟩:jK).n=0 from N8.o.zero (by show (6:Int)≠5;decide)]
    rw[hk,if_pos (by show brings 6;unfold brings;decide),NA,(jN (o:=⟨z,6,xs,O⟩) (by show ¬(6:Int)=3;decide)).2]
    first | done | rfl) ⟨u,by rw[y,M];exact hu,Y⟩ (by have h1:=B.len;have h2:=NC.o;(try dsimp only at h1);omega)
  clear hk Nz hu Y y M
  have m:ai (r<W.heap.size):=ah (by have h:=HW.o;have h1:=G.o;have h2:=HP.o;rw[h];simp;omega)
  have X:ai (w.heap.size≤W.heap.size):=by have h:=m.o;unfold ai;omega
  obtain⟨z0,z1,z2,-⟩:=A.cj;have m0:=l.2 0;have m1:=l.2 1;have m2:=l.2 2;obtain⟨W9,c⟩:∃ W,W=((v1.setCell ⟨r,0,none⟩ (.slice D g i)).setCell ⟨r,1,none⟩ (.slice F j k)).setCell ⟨r,2,none⟩ (.slice C d f):=⟨_,rfl⟩;have Q:=jF c b.below N9
  have S:ai (eH W9 w.heap.size Z D g i F j k C d f):=by
   unfold ai;rw[c];exact (B.gT m _ _ _).mono X
  obtain⟨l0,l1,l2⟩:=kH c z0 z1 z2;have V:=ah c;clear c;go_wp2_with fail;rw[← V.o];refine bodyPost_ret (v:=.tuple #[.agg #[.slice D g i,.slice F j k,.slice C d f],.int .i64 0]) (by simp[results,Tryz.results48,go_sem,l0,l1,l2]) rfl ⟨Z,0,D,g,i,F,j,k,C,d,f,rfl,S,U,Q⟩
 ·have c0:=b.c0
  have c1:=b.c1;have c2:=b.c2;have c3:=b.c3;have c4:=b.c4;have c5:=b.c5;have c6:=b.c6;have c7:=b.c7;go_enter Tryz.func48,Tryz.ntmps48;go_wp2_with fail;rw[← HW.o,← HP.o]
  try rw[← G.o]
  try rw[← N_.o]
  try rw[← HQ.o]
  refine (ES x Ge Gk gn gm gc gd a n W L N R).mono ?_;rintro e v1 ⟨Z,zx,D,g,i,F,j,k,C,d,f,rfl,J,hz,H⟩;have B:=ah J.o;have Ny:=ah hz.o;clear J hz;obtain⟨b,R,A,l⟩:=iR H b R A l;clear H;clear c0 c1 c2 c3 c4 c5 c6 c7
  have y:fo t ⟨z,7,xs,O⟩=dl (aI t z):=by
   unfold fo;rw[if_neg (by show ¬((7:Int)=3∨(7:Int)=4);decide),if_neg (by show ¬(7:Int)=5;decide),if_neg (by show ¬(7:Int)=6;decide)]
  have M:aI t z=x:=HX.symm;obtain⟨rfl,hk,Nz,u,hu,Y⟩:=Ny.1 (N7.o);have U:ai (gG t ⟨z,7,xs,O⟩ (a,n) z.length Z 0):=gG.rT (sw (by show ¬(7:Int)=3;decide) (by show ¬(7:Int)=5;decide)) (by rw[hk,if_neg (by show ¬brings 7;unfold brings;decide)]) ⟨u,by rw[y,M];exact hu,Y⟩ (by have h1:=B.len;have h2:=NC.o;(try dsimp only at h1);omega);clear hk Nz hu Y y M
  have m:ai (r<W.heap.size):=ah (by have h:=HW.o;have h1:=G.o;have h2:=HP.o;rw[h];simp;omega)
  have X:ai (w.heap.size≤W.heap.size):=by have h:=m.o;unfold ai;omega
  obtain⟨z0,z1,z2,-⟩:=A.cj;have m0:=l.2 0;have m1:=l.2 1;have m2:=l.2 2;obtain⟨W9,c⟩:∃ W,W=((v1.setCell ⟨r,0,none⟩ (.slice D g i)).setCell ⟨r,1,none⟩ (.slice F j k)).setCell ⟨r,2,none⟩ (.slice C d f):=⟨_,rfl⟩;have Q:=jF c b.below N9
  have S:ai (eH W9 w.heap.size Z D g i F j k C d f):=by
   unfold ai;rw[c];exact (B.gT m _ _ _).mono X
  obtain⟨l0,l1,l2⟩:=kH c z0 z1 z2;have V:=ah c;clear c;go_wp2_with fail;rw[← V.o];refine bodyPost_ret (v:=.tuple #[.agg #[.slice D g i,.slice F j k,.slice C d f],.int .i64 0]) (by simp[results,Tryz.results48,go_sem,l0,l1,l2]) rfl ⟨Z,0,D,g,i,F,j,k,C,d,f,rfl,S,U,Q⟩
end Cs
end Go.Proofs.YtgeafpaognhokaaGreat
