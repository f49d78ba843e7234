/- Changes: a view: the program's. -/
import Derived.Test.YtgeafpaognhokaaGreatG00
import Derived.Test.YtgeafpaognhokaaGreatOpView
import Derived.Test.YtgeafpaognhokaaGreatG60
import Derived.Test.YtgeafpaognhokaaGreatG50
namespace Go.Proofs.YtgeafpaognhokaaGreat
open ChangeShapes WideShapes ChangeAt RowKit
namespace Cs
open Tr Cx Sp Rw Classical
theorem MP (w:World) (a b:Option Addr) (f e c d:Nat):∃ (W:World) (g r:Nat),ai (W=(w.alloc (.cells #[.slice a f c,.slice b e d] 35)).alloc (.cells #[.int .i64 0,.bool false,.int .i64 0,.slice none 0 0] 51))∧ai (g=w.heap.size)∧ai (r=g+1)∧ai (Kept [(⟨g,0,none⟩,.slice a f c),(⟨g,1,none⟩,.slice b e d)] w W)∧ai (Kept [(⟨r,0,none⟩,.int .i64 0),(⟨r,1,none⟩,.bool false),(⟨r,2,none⟩,.int .i64 0),(⟨r,3,none⟩,.slice none 0 0)] w W)∧ai (aA r W):=by
 refine⟨_,_,_,rfl,rfl,rfl,?_,?_,⟨by simp,fun j=>by go_simp⟩⟩
 ·have h:=Kept.a_ (show av w ((w.alloc (.cells #[.slice a f c,.slice b e d] 35)).alloc (.cells #[.int .i64 0,.bool false,.int .i64 0,.slice none 0 0] 51)) from ((bN).alloc (bG) _).alloc (by simp) _)
  refine (h.af ?_).af ?_ <;> go_simp
 ·have h:=Kept.a_ (show av w ((w.alloc (.cells #[.slice a f c,.slice b e d] 35)).alloc (.cells #[.int .i64 0,.bool false,.int .i64 0,.slice none 0 0] 51)) from ((bN).alloc (bG) _).alloc (by simp) _)
  refine (((h.af ?_).af ?_).af ?_).af ?_ <;> go_simp
def KH (v:Vw) (w:World) (e:Ending) (w':World):Prop:=∃ (A:Option Addr) (c:Nat),e = .returned (.agg #[.int .i64 v.kd,.bool v.on,.int .i64 v.n,.slice A v.l.length c])∧ai (Own w' w.heap.size 9 1 A v.l.length c (Tr.strs v.l))∧av w w'
theorem Da (w:World) (b:Nat):Own w b 9 1 none 0 0 (Tr.strs []):=⟨iy _ _ _ _,by simp[Tr.strs]⟩
set_option maxRecDepth 100000 in
set_option maxHeartbeats 4000000 in
theorem Ib (x:T) (Ge Gk:Option Addr) (gn gm gc gd:Nat) (kd:Nat) (v:Vw) (w:World) (hk:1≤kd∧kd≤5) (hv:uh x kd v) (hx:au 5 x) (N_:nodes x≤240) (hr:aF w w.heap.size x ⟨Ge,gn,gc⟩ ⟨Gk,gm,gd⟩) :
  Calls Tryz.prog 60 #[.int .i64 kd,.agg #[.slice Ge gn gc,.slice Gk gm gd]] w (KH v w):=by
 obtain⟨W0,p9,r,HW,HP,M,b,k,c⟩:=MP w Ge Gk gn gm gc gd
 have s:w.heap.size≤r:=by have:=HP.o;have:=M.o;omega
 have hpr:p9<r:=by have:=HP.o;have:=M.o;omega
 have R:=ah (aF.later hr b.below)
 have Nz:ai (x.es.length=gn∧x.ks.length=gm):=by
  have h:=hr;rw[← T.eta x]at h;exact bn h
 have q:=ah hv;have L:=ah (LenT.few (t:=x) (by omega));have N:ai (nodes x≤240):=N_;have HY:ai (Tr.ak 5 x=true):=Tr.aO.2 hx;have HRW:ai (r<W0.heap.size):=c.1
 have NA:kd=1∨kd=2∨kd=3∨kd=4∨kd=5:=by omega
 clear hv N_ hr hx hk
 rcases NA with rfl | rfl | rfl | rfl | rfl
 ·have X:ai (v=⟨1,decide (0<gn),0,[]⟩):=by
   have h1:v.kd=1:=q.kd;have h2:=q.on;have h3:=q.n;have h4:=q.o;have h5:=Nz.o;obtain⟨a1,a2,a3,a4⟩:=v;dsimp only at h1 h2 h3;unfold ai;rw[h1,h2,h3];have h6:=h4.l0 (by omega);dsimp only at h6;rw[h6,if_neg (by decide),h5.1];simp
  have J:w.heap.size≤W0.heap.size∧r<W0.heap.size:=⟨b.below.size,c.1⟩;have o0:=b.c0;have o1:=b.c1;go_enter Tryz.func60,Tryz.ntmps60;obtain⟨f,A,H,G,i,b0,b1,b2,b3⟩:=zi W0 (.int .i64 1) (.bool false) (.int .i64 0) (.slice none 0 0) 51;obtain⟨b,R,k,c⟩:=iR i b R k c;clear i;have b:=ah ((((b.af b3).af b2).af b1).af b0);have y:=ah H;have F:=ah G;clear H G b0 b1 b2 b3;have z:f<A.heap.size:=aL _ _ b.c0;have g:ai (aA f A):=⟨z,fun j=>by rw[F.o,y.o];go_simp⟩
  have m:ai (w.heap.size≤f∧r<f):=ah (by rw[y.o];exact J)
  have D:ai (w.heap.size≤f):=m.1;have u:ai (r<A.heap.size∧f<A.heap.size):=⟨c.1,z⟩;have O:ai (w.heap.size≤A.heap.size):=b.below.size
  have C:ai (f=r+1):=ah (by rw[y.o,HW.o,M.o,HP.o];simp)
  clear z J;clear o0 o1;go_wp2_with fail;rw[← HW.o,← F.o]
  try rw[← HP.o]
  try rw[← M.o]
  try rw[← C.o]
  refine (JN x Ge Gk gn gm gc gd A (decide (0<gn)) (by rw[HY.o];rfl) L R).mono ?_;rintro e v2 ⟨rfl,i⟩;obtain⟨b,R,k,c,g⟩:=jo i b R k c g;clear i;have N9:w.heap.size≤f:=D.o;have N8:r<f:=m.2;have k1:=g.2 1;obtain⟨c0,c1,c2,c3,c4,c5,-⟩:=b.cj;obtain⟨z0,z1,z2,z3,-⟩:=k.cj;have m0:=c.2 0;have m1:=c.2 1;have m2:=c.2 2;have m3:=c.2 3;obtain⟨B,d⟩:∃ W,W=((((v2.setCell ⟨f,1,none⟩ (.bool (decide (0<gn)))).setCell ⟨r,0,none⟩ (.int .i64 1)).setCell ⟨r,1,none⟩ (.bool (decide (0<gn)))).setCell ⟨r,2,none⟩ (.int .i64 0)).setCell ⟨r,3,none⟩ (.slice none 0 0):=⟨_,rfl⟩
  have V:ai (av w B):=by
   unfold ai;rw[d];exact ((((b.below.setCell (p:=⟨f,1,none⟩) D _).setCell (p:=⟨r,0,none⟩) s _).setCell (p:=⟨r,1,none⟩) s _).setCell (p:=⟨r,2,none⟩) s _).setCell (p:=⟨r,3,none⟩) s _
  have l0:B.cell? ⟨r,0,none⟩=some (.int .i64 1):=by rw[d];go_simp
  have l1:B.cell? ⟨r,1,none⟩=some (.bool (decide (0<gn))):=by rw[d];go_simp
  have l2:B.cell? ⟨r,2,none⟩=some (.int .i64 0):=by rw[d];go_simp
  have l3:B.cell? ⟨r,3,none⟩=some (.slice none 0 0):=by rw[d];go_simp
  have Y:=ah d;clear d;go_wp2_with fail;rw[← Y.o];refine bodyPost_ret (v:=.agg #[.int .i64 1,.bool (decide (0<gn)),.int .i64 0,.slice none 0 0]) (by simp[results,Tryz.results60,go_sem,l0,l1,l2,l3]) rfl ?_;rw[X.o];exact⟨none,0,rfl,Da _ _,V⟩
 ·have X:ai (v=⟨2,false,0,jd x⟩):=by
   have h1:v.kd=2:=q.kd;have h2:=q.on;have h3:=q.n;have h4:=q.o;have h5:=Nz.o;obtain⟨a1,a2,a3,a4⟩:=v;dsimp only at h1 h2 h3;unfold ai;rw[h1,h2,h3];rw[if_neg (by decide),← h4.l2 rfl];simp
  have J:w.heap.size≤W0.heap.size∧r<W0.heap.size:=⟨b.below.size,c.1⟩;have o0:=b.c0;have o1:=b.c1;go_enter Tryz.func60,Tryz.ntmps60;obtain⟨f,A,H,G,i,b0,b1,b2,b3⟩:=zi W0 (.int .i64 2) (.bool false) (.int .i64 0) (.slice none 0 0) 51;obtain⟨b,R,k,c⟩:=iR i b R k c;clear i;have b:=ah ((((b.af b3).af b2).af b1).af b0);have y:=ah H;have F:=ah G;clear H G b0 b1 b2 b3;have z:f<A.heap.size:=aL _ _ b.c0;have g:ai (aA f A):=⟨z,fun j=>by rw[F.o,y.o];go_simp⟩
  have m:ai (w.heap.size≤f∧r<f):=ah (by rw[y.o];exact J)
  have D:ai (w.heap.size≤f):=m.1;have u:ai (r<A.heap.size∧f<A.heap.size):=⟨c.1,z⟩;have O:ai (w.heap.size≤A.heap.size):=b.below.size
  have C:ai (f=r+1):=ah (by rw[y.o,HW.o,M.o,HP.o];simp)
  clear z J;clear o0 o1;go_wp2_with fail;rw[← HW.o,← F.o]
  try rw[← HP.o]
  try rw[← M.o]
  try rw[← C.o]
  refine (Fx x Ge Gk gn gm gc gd A (jd x) (if_pos HY.o) L (by have:=N.o;omega) R).mono ?_;rintro e v2 ⟨S,lm,U,rfl,Ny,i⟩;have N7:ai (Own v2 A.heap.size 9 1 S lm U (Tr.strs (jd x))):=Ny.o;clear Ny;obtain⟨b,R,k,c,g⟩:=jo i b R k c g;clear i;have N9:w.heap.size≤f:=D.o;have N8:r<f:=m.2;have k3:=g.2 3;obtain⟨c0,c1,c2,c3,c4,c5,-⟩:=b.cj;obtain⟨z0,z1,z2,z3,-⟩:=k.cj;have m0:=c.2 0;have m1:=c.2 1;have m2:=c.2 2;have m3:=c.2 3;obtain⟨B,d⟩:∃ W,W=((((v2.setCell ⟨f,3,none⟩ (.slice S lm U)).setCell ⟨r,0,none⟩ (.int .i64 2)).setCell ⟨r,1,none⟩ (.bool false)).setCell ⟨r,2,none⟩ (.int .i64 0)).setCell ⟨r,3,none⟩ (.slice S lm U):=⟨_,rfl⟩
  have V:ai (av w B):=by
   unfold ai;rw[d];exact ((((b.below.setCell (p:=⟨f,3,none⟩) D _).setCell (p:=⟨r,0,none⟩) s _).setCell (p:=⟨r,1,none⟩) s _).setCell (p:=⟨r,2,none⟩) s _).setCell (p:=⟨r,3,none⟩) s _
  have Q:ai (Own B w.heap.size 9 1 S lm U (Tr.strs (jd x))):=by
   unfold ai;rw[d];exact (((((N7.aT (a:=⟨f,3,none⟩) u.2 _).aT (a:=⟨r,0,none⟩) u.1 _).aT (a:=⟨r,1,none⟩) u.1 _).aT (a:=⟨r,2,none⟩) u.1 _).aT (a:=⟨r,3,none⟩) u.1 _).mono O
  have Z:=ah (bM Q.rd)
  have l0:B.cell? ⟨r,0,none⟩=some (.int .i64 2):=by rw[d];go_simp
  have l1:B.cell? ⟨r,1,none⟩=some (.bool false):=by rw[d];go_simp
  have l2:B.cell? ⟨r,2,none⟩=some (.int .i64 0):=by rw[d];go_simp
  have l3:B.cell? ⟨r,3,none⟩=some (.slice S lm U):=by rw[d];go_simp
  have Y:=ah d;clear d;go_wp2_with fail;rw[← Y.o];refine bodyPost_ret (v:=.agg #[.int .i64 2,.bool false,.int .i64 0,.slice S lm U]) (by simp[results,Tryz.results60,go_sem,l0,l1,l2,l3]) rfl ?_;rw[X.o];refine⟨S,U,?_,?_,V⟩
  ·dsimp only
   first | rfl | (rw[Z.o];rfl)
  ·dsimp only
   first | exact Q.o | (rw[Z.o];exact Q.o)
 ·have X:ai (v=⟨3,false,g_ x.es,[]⟩):=by
   have h1:v.kd=3:=q.kd;have h2:=q.on;have h3:=q.n;have h4:=q.o;have h5:=Nz.o;obtain⟨a1,a2,a3,a4⟩:=v;dsimp only at h1 h2 h3;unfold ai;rw[h1,h2,h3];rw[if_pos rfl,← h4.l0 (by omega)];simp
  have J:w.heap.size≤W0.heap.size∧r<W0.heap.size:=⟨b.below.size,c.1⟩;have o0:=b.c0;have o1:=b.c1;go_enter Tryz.func60,Tryz.ntmps60;obtain⟨f,A,H,G,i,b0,b1,b2,b3⟩:=zi W0 (.int .i64 3) (.bool false) (.int .i64 0) (.slice none 0 0) 51;obtain⟨b,R,k,c⟩:=iR i b R k c;clear i;have b:=ah ((((b.af b3).af b2).af b1).af b0);have y:=ah H;have F:=ah G;clear H G b0 b1 b2 b3;have z:f<A.heap.size:=aL _ _ b.c0;have g:ai (aA f A):=⟨z,fun j=>by rw[F.o,y.o];go_simp⟩
  have m:ai (w.heap.size≤f∧r<f):=ah (by rw[y.o];exact J)
  have D:ai (w.heap.size≤f):=m.1;have u:ai (r<A.heap.size∧f<A.heap.size):=⟨c.1,z⟩;have O:ai (w.heap.size≤A.heap.size):=b.below.size
  have C:ai (f=r+1):=ah (by rw[y.o,HW.o,M.o,HP.o];simp)
  clear z J;clear o0 o1;go_wp2_with fail;rw[← HW.o,← F.o]
  try rw[← HP.o]
  try rw[← M.o]
  try rw[← C.o]
  refine (IB x Ge Gk gn gm gc gd A (g_ x.es) (if_pos HY.o) L (by have:=N.o;omega) R).mono ?_;rintro e v2 ⟨rfl,i⟩;obtain⟨b,R,k,c,g⟩:=jo i b R k c g;clear i;have N9:w.heap.size≤f:=D.o;have N8:r<f:=m.2;have k2:=g.2 2;obtain⟨c0,c1,c2,c3,c4,c5,-⟩:=b.cj;obtain⟨z0,z1,z2,z3,-⟩:=k.cj;have m0:=c.2 0;have m1:=c.2 1;have m2:=c.2 2;have m3:=c.2 3;obtain⟨B,d⟩:∃ W,W=((((v2.setCell ⟨f,2,none⟩ (.int .i64 (g_ x.es))).setCell ⟨r,0,none⟩ (.int .i64 3)).setCell ⟨r,1,none⟩ (.bool false)).setCell ⟨r,2,none⟩ (.int .i64 (g_ x.es))).setCell ⟨r,3,none⟩ (.slice none 0 0):=⟨_,rfl⟩
  have V:ai (av w B):=by
   unfold ai;rw[d];exact ((((b.below.setCell (p:=⟨f,2,none⟩) D _).setCell (p:=⟨r,0,none⟩) s _).setCell (p:=⟨r,1,none⟩) s _).setCell (p:=⟨r,2,none⟩) s _).setCell (p:=⟨r,3,none⟩) s _
  have l0:B.cell? ⟨r,0,none⟩=some (.int .i64 3):=by rw[d];go_simp
  have l1:B.cell? ⟨r,1,none⟩=some (.bool false):=by rw[d];go_simp
  have l2:B.cell? ⟨r,2,none⟩=some (.int .i64 (g_ x.es)):=by rw[d];go_simp
  have l3:B.cell? ⟨r,3,none⟩=some (.slice none 0 0):=by rw[d];go_simp
  have Y:=ah d;clear d;go_wp2_with fail;rw[← Y.o];refine bodyPost_ret (v:=.agg #[.int .i64 3,.bool false,.int .i64 (g_ x.es),.slice none 0 0]) (by simp[results,Tryz.results60,go_sem,l0,l1,l2,l3]) rfl ?_;rw[X.o];exact⟨none,0,rfl,Da _ _,V⟩
 ·have X:ai (v=⟨4,false,0,v.l⟩):=by
   have h1:v.kd=4:=q.kd;have h2:=q.on;have h3:=q.n;have h4:=q.o;have h5:=Nz.o;obtain⟨a1,a2,a3,a4⟩:=v;dsimp only at h1 h2 h3;unfold ai;rw[h1,h2,h3];rw[if_neg (by decide)];simp
  have J:w.heap.size≤W0.heap.size∧r<W0.heap.size:=⟨b.below.size,c.1⟩;have o0:=b.c0;have o1:=b.c1;go_enter Tryz.func60,Tryz.ntmps60;obtain⟨f,A,H,G,i,b0,b1,b2,b3⟩:=zi W0 (.int .i64 4) (.bool false) (.int .i64 0) (.slice none 0 0) 51;obtain⟨b,R,k,c⟩:=iR i b R k c;clear i;have b:=ah ((((b.af b3).af b2).af b1).af b0);have y:=ah H;have F:=ah G;clear H G b0 b1 b2 b3;have z:f<A.heap.size:=aL _ _ b.c0;have g:ai (aA f A):=⟨z,fun j=>by rw[F.o,y.o];go_simp⟩
  have m:ai (w.heap.size≤f∧r<f):=ah (by rw[y.o];exact J)
  have D:ai (w.heap.size≤f):=m.1;have u:ai (r<A.heap.size∧f<A.heap.size):=⟨c.1,z⟩;have O:ai (w.heap.size≤A.heap.size):=b.below.size
  have C:ai (f=r+1):=ah (by rw[y.o,HW.o,M.o,HP.o];simp)
  clear z J;clear o0 o1;go_wp2_with fail;rw[← HW.o,← F.o]
  try rw[← HP.o]
  try rw[← M.o]
  try rw[← C.o]
  refine (D5 x Ge Gk gn gm gc gd A v.l v.l.length ⟨fun _=>q.l4 rfl,fun h=>by rw[HY.o]at h;cases h⟩ rfl L (by have:=N.o;omega) R).mono ?_;rintro e v2 ⟨S,U,rfl,Ny,i⟩;have N7:ai (Own v2 A.heap.size 9 1 S v.l.length U (Tr.strs (v.l))):=Ny.o;clear Ny;obtain⟨b,R,k,c,g⟩:=jo i b R k c g;clear i;have N9:w.heap.size≤f:=D.o;have N8:r<f:=m.2;have k3:=g.2 3;obtain⟨c0,c1,c2,c3,c4,c5,-⟩:=b.cj;obtain⟨z0,z1,z2,z3,-⟩:=k.cj;have m0:=c.2 0;have m1:=c.2 1;have m2:=c.2 2;have m3:=c.2 3;obtain⟨B,d⟩:∃ W,W=((((v2.setCell ⟨f,3,none⟩ (.slice S v.l.length U)).setCell ⟨r,0,none⟩ (.int .i64 4)).setCell ⟨r,1,none⟩ (.bool false)).setCell ⟨r,2,none⟩ (.int .i64 0)).setCell ⟨r,3,none⟩ (.slice S v.l.length U):=⟨_,rfl⟩
  have V:ai (av w B):=by
   unfold ai;rw[d];exact ((((b.below.setCell (p:=⟨f,3,none⟩) D _).setCell (p:=⟨r,0,none⟩) s _).setCell (p:=⟨r,1,none⟩) s _).setCell (p:=⟨r,2,none⟩) s _).setCell (p:=⟨r,3,none⟩) s _
  have Q:ai (Own B w.heap.size 9 1 S v.l.length U (Tr.strs (v.l))):=by
   unfold ai;rw[d];exact (((((N7.aT (a:=⟨f,3,none⟩) u.2 _).aT (a:=⟨r,0,none⟩) u.1 _).aT (a:=⟨r,1,none⟩) u.1 _).aT (a:=⟨r,2,none⟩) u.1 _).aT (a:=⟨r,3,none⟩) u.1 _).mono O
  have Z:=ah (bM Q.rd)
  have l0:B.cell? ⟨r,0,none⟩=some (.int .i64 4):=by rw[d];go_simp
  have l1:B.cell? ⟨r,1,none⟩=some (.bool false):=by rw[d];go_simp
  have l2:B.cell? ⟨r,2,none⟩=some (.int .i64 0):=by rw[d];go_simp
  have l3:B.cell? ⟨r,3,none⟩=some (.slice S v.l.length U):=by rw[d];go_simp
  have Y:=ah d;clear d;go_wp2_with fail;rw[← Y.o];refine bodyPost_ret (v:=.agg #[.int .i64 4,.bool false,.int .i64 0,.slice S v.l.length U]) (by simp[results,Tryz.results60,go_sem,l0,l1,l2,l3]) rfl ?_;rw[X.o];refine⟨S,U,?_,?_,V⟩
  ·dsimp only
   first | rfl | (rw[Z.o];rfl)
  ·dsimp only
   first | exact Q.o | (rw[Z.o];exact Q.o)
 ·have X:ai (v=⟨5,false,0,keysOf x.ks⟩):=by
   have h1:v.kd=5:=q.kd;have h2:=q.on;have h3:=q.n;have h4:=q.o;have h5:=Nz.o;obtain⟨a1,a2,a3,a4⟩:=v;dsimp only at h1 h2 h3;unfold ai;rw[h1,h2,h3];rw[if_neg (by decide),← h4.l5 rfl];simp
  have J:w.heap.size≤W0.heap.size∧r<W0.heap.size:=⟨b.below.size,c.1⟩;have o0:=b.c0;have o1:=b.c1;go_enter Tryz.func60,Tryz.ntmps60;obtain⟨f,A,H,G,i,b0,b1,b2,b3⟩:=zi W0 (.int .i64 5) (.bool false) (.int .i64 0) (.slice none 0 0) 51;obtain⟨b,R,k,c⟩:=iR i b R k c;clear i;have b:=ah ((((b.af b3).af b2).af b1).af b0);have y:=ah H;have F:=ah G;clear H G b0 b1 b2 b3;have z:f<A.heap.size:=aL _ _ b.c0;have g:ai (aA f A):=⟨z,fun j=>by rw[F.o,y.o];go_simp⟩
  have m:ai (w.heap.size≤f∧r<f):=ah (by rw[y.o];exact J)
  have D:ai (w.heap.size≤f):=m.1;have u:ai (r<A.heap.size∧f<A.heap.size):=⟨c.1,z⟩;have O:ai (w.heap.size≤A.heap.size):=b.below.size
  have C:ai (f=r+1):=ah (by rw[y.o,HW.o,M.o,HP.o];simp)
  clear z J;clear o0 o1;go_wp2_with fail;rw[← HW.o,← F.o]
  try rw[← HP.o]
  try rw[← M.o]
  try rw[← C.o]
  refine (H9 x Ge Gk gn gm gc gd A true HY L (by have:=N.o;omega) R).mono ?_;rintro e v2 ⟨S,lm,U,rfl,_,Ny,i⟩;have N7:ai (Own v2 A.heap.size 9 1 S lm U (Tr.strs (keysOf x.ks))):=Ny.o;clear Ny;obtain⟨b,R,k,c,g⟩:=jo i b R k c g;clear i;have N9:w.heap.size≤f:=D.o;have N8:r<f:=m.2;have k3:=g.2 3;obtain⟨c0,c1,c2,c3,c4,c5,-⟩:=b.cj;obtain⟨z0,z1,z2,z3,-⟩:=k.cj;have m0:=c.2 0;have m1:=c.2 1;have m2:=c.2 2;have m3:=c.2 3;obtain⟨B,d⟩:∃ W,W=((((v2.setCell ⟨f,3,none⟩ (.slice S lm U)).setCell ⟨r,0,none⟩ (.int .i64 5)).setCell ⟨r,1,none⟩ (.bool false)).setCell ⟨r,2,none⟩ (.int .i64 0)).setCell ⟨r,3,none⟩ (.slice S lm U):=⟨_,rfl⟩
  have V:ai (av w B):=by
   unfold ai;rw[d];exact ((((b.below.setCell (p:=⟨f,3,none⟩) D _).setCell (p:=⟨r,0,none⟩) s _).setCell (p:=⟨r,1,none⟩) s _).setCell (p:=⟨r,2,none⟩) s _).setCell (p:=⟨r,3,none⟩) s _
  have Q:ai (Own B w.heap.size 9 1 S lm U (Tr.strs (keysOf x.ks))):=by
   unfold ai;rw[d];exact (((((N7.aT (a:=⟨f,3,none⟩) u.2 _).aT (a:=⟨r,0,none⟩) u.1 _).aT (a:=⟨r,1,none⟩) u.1 _).aT (a:=⟨r,2,none⟩) u.1 _).aT (a:=⟨r,3,none⟩) u.1 _).mono O
  have Z:=ah (bM Q.rd)
  have l0:B.cell? ⟨r,0,none⟩=some (.int .i64 5):=by rw[d];go_simp
  have l1:B.cell? ⟨r,1,none⟩=some (.bool false):=by rw[d];go_simp
  have l2:B.cell? ⟨r,2,none⟩=some (.int .i64 0):=by rw[d];go_simp
  have l3:B.cell? ⟨r,3,none⟩=some (.slice S lm U):=by rw[d];go_simp
  have Y:=ah d;clear d;go_wp2_with fail;rw[← Y.o];refine bodyPost_ret (v:=.agg #[.int .i64 5,.bool false,.int .i64 0,.slice S lm U]) (by simp[results,Tryz.results60,go_sem,l0,l1,l2,l3]) rfl ?_;rw[X.o];refine⟨S,U,?_,?_,V⟩
  ·dsimp only
   first | rfl | (rw[Z.o];rfl)
  ·dsimp only
   first | exact Q.o | (rw[Z.o];exact Q.o)
end Cs
end Go.Proofs.YtgeafpaognhokaaGreat
