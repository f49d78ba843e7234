/- Changes: a change of a tree: the program's. -/
import Derived.Test.YtgeafpaognhokaaGreatG00
import Derived.Test.YtgeafpaognhokaaGreatG80
import Derived.Test.YtgeafpaognhokaaGreatOpChg
import Derived.Test.YtgeafpaognhokaaGreatG70
import Derived.Test.YtgeafpaognhokaaGreatG60
import Derived.Test.YtgeafpaognhokaaGreatTreeRight
namespace Go.Proofs.YtgeafpaognhokaaGreat
open ChangeShapes WideShapes ChangeAt RowKit Go.Shelf
namespace Cs
open Tr Cx Sp Rw Classical
attribute [local go_sem] Oper.semAt_some
theorem Mc (w:World) (Ae Ak:Option Addr) (ne nk ce ck:Nat) (b:Option Addr) (e d:Nat) (c:Int) (xs:ByteArray) (f a n:Int):∃ (W:World) (p q s r g:Nat),ai (W=((((w.alloc (.cells #[.slice Ae ne ce,.slice Ak nk ck] 35)).alloc (.cells #[.slice b e d,.int .i64 c,.string xs,.int .i64 f] 27)).alloc (.cells #[.int .i64 a,.int .i64 n] 37)).alloc (.cells #[.slice none 0 0,.slice none 0 0,.slice none 0 0] 42)).alloc (.cells #[.int .i64 0] 43))∧ai (p=w.heap.size)∧ai (q=p+1)∧ai (s=p+1+1)∧ai (r=p+1+1+1)∧ai (g=p+1+1+1+1)∧ai (Kept [(⟨p,0,none⟩,.slice Ae ne ce),(⟨p,1,none⟩,.slice Ak nk ck),(⟨q,0,none⟩,.slice b e d),(⟨q,1,none⟩,.int .i64 c),(⟨q,2,none⟩,.string xs),(⟨q,3,none⟩,.int .i64 f),(⟨s,0,none⟩,.int .i64 a),(⟨s,1,none⟩,.int .i64 n)] w W)∧ai (Kept [(⟨r,0,none⟩,.slice none 0 0),(⟨r,1,none⟩,.slice none 0 0),(⟨r,2,none⟩,.slice none 0 0),(⟨g,0,none⟩,.int .i64 0)] w W)∧ai (aA r W)∧ai (aA g W):=by
 refine⟨_,_,_,_,_,_,rfl,rfl,rfl,rfl,rfl,rfl,?_,?_,⟨by simp,fun j=>by go_simp⟩,⟨by simp,fun j=>by go_simp⟩⟩
 ·have h:=Kept.a_ (show av w (((((w.alloc (.cells #[.slice Ae ne ce,.slice Ak nk ck] 35)).alloc (.cells #[.slice b e d,.int .i64 c,.string xs,.int .i64 f] 27)).alloc (.cells #[.int .i64 a,.int .i64 n] 37)).alloc (.cells #[.slice none 0 0,.slice none 0 0,.slice none 0 0] 42)).alloc (.cells #[.int .i64 0] 43)) from (((((bN).alloc (bG) _).alloc (by simp) _).alloc (by simp;omega) _).alloc (by simp;omega) _).alloc (by simp;omega) _)
  refine ((((((((h).af ?_).af ?_).af ?_).af ?_).af ?_).af ?_).af ?_).af ?_ <;> go_simp
 ·have h:=Kept.a_ (show av w (((((w.alloc (.cells #[.slice Ae ne ce,.slice Ak nk ck] 35)).alloc (.cells #[.slice b e d,.int .i64 c,.string xs,.int .i64 f] 27)).alloc (.cells #[.int .i64 a,.int .i64 n] 37)).alloc (.cells #[.slice none 0 0,.slice none 0 0,.slice none 0 0] 42)).alloc (.cells #[.int .i64 0] 43)) from (((((bN).alloc (bG) _).alloc (by simp) _).alloc (by simp;omega) _).alloc (by simp;omega) _).alloc (by simp;omega) _)
  refine (((h.af ?_).af ?_).af ?_).af ?_ <;> go_simp
set_option maxRecDepth 100000 in
set_option maxHeartbeats 4000000 in
theorem rC (t:T) (Ae Ak:Option Addr) (ne nk ce ck:Nat) (xp:List ByteArray) (xa:Int) (xs:ByteArray) (xv:Int) (xA:Option Addr) (xn xc:Nat) (a n:Int) (w:World) (er:Int) (Qn:qK t ⟨xp,xa,xs,xv⟩ a n=er) (hl:LenT reachBytes t) (hn:nodes t≤1000) (hr:aF w w.heap.size t ⟨Ae,ne,ce⟩ ⟨Ak,nk,ck⟩) (Qs:nodes t≤240) (Qr:xn≤900) (Pj:Rd w w.heap.size 1 xA xn xc (strs xp)) :
  Calls Tryz.prog 20 #[.agg #[.slice Ae ne ce,.slice Ak nk ck],.agg #[.slice xA xn xc,.int .i64 xa,.string xs,.int .i64 xv],.agg #[.int .i64 a,.int .i64 n]] w (FK t ⟨xp,xa,xs,xv⟩ a n er w):=by
 obtain⟨W,p,q,s,r,g,HW,HP,HQ,OO,Oy,OH,l,L,B,C⟩:=Mc w Ae Ak ne nk ce ck xA xn xc xa xs xv a n
 have NP:w.heap.size≤r:=by have:=HP.o;have:=Oy.o;omega
 have OD:w.heap.size≤g:=by have:=HP.o;have:=OH.o;omega
 have hpr:p<r:=by have:=HP.o;have:=Oy.o;omega
 have hqr:q<r:=by have:=HQ.o;have:=Oy.o;omega
 have hsr:s<r:=by have:=OO.o;have:=Oy.o;omega
 have hrg:r<g:=by have:=Oy.o;have:=OH.o;omega
 have hgr:¬g=r:=by omega
 have hrg2:¬r=g:=by omega
 have hpg:p<g:=by omega
 have hqg:q<g:=by omega
 have hsg:s<g:=by omega
 have R:=ah (aF.later hr l.below);have RX:=ah (Pj.later l.below);have O1:=ah (bM Pj);have OE:=ah Pj;have Pn:=ah hr;have N:=ah (And.intro hn (And.intro Qr hl));have OZ:=ah Qn;have N2:=ah Qs;obtain⟨y1,Qx⟩:∃ y,Tr.ak 5 t=y:=⟨_,rfl⟩;obtain⟨y2,Qy⟩:∃ y,aY t a n=y:=⟨_,rfl⟩;obtain⟨e0,Qm⟩:∃ x,Ec ⟨xp,xa,xs,xv⟩=x:=⟨_,rfl⟩;have OC:=ah Qx;have NT:=ah Qy;have O6:=ah Qm;clear hl hn hr Pj Qr Qs Qn Qx Qy Qm
 cases y1 with
 | false=>
  obtain⟨c0,c1,c2,c3,c4,c5,c6,c7,-⟩:=l.cj;go_enter Tryz.func20,Tryz.ntmps20;go_wp2_with fail;rw[← HW.o,← HP.o]
  try rw[← OH.o]
  try rw[← Oy.o]
  try rw[← OO.o]
  try rw[← HQ.o]
  refine (bS t Ae Ak ne nk ce ck W N.2.2 R).mono ?_;rw[OC.o];rintro e v1 ⟨rfl,u⟩;obtain⟨l,R,RX,L,B,C⟩:=pO u l R RX L B C;clear u;clear c0 c1 c2 c3 c4 c5 c6 c7
  have OX:er=1:=by
   rw[← OZ.o];unfold qK;rw[if_pos OC.o]
  obtain rfl:=OX;obtain⟨z0,z1,z2,z3,-⟩:=L.cj;have m0:=B.2 0;have m1:=B.2 1;have m2:=B.2 2;have m3:=C.2 0;obtain⟨W9,X⟩:∃ W,W=(((v1.setCell ⟨r,0,none⟩ (.slice none 0 0)).setCell ⟨r,1,none⟩ (.slice none 0 0)).setCell ⟨r,2,none⟩ (.slice none 0 0)).setCell ⟨g,0,none⟩ (.int .i64 1):=⟨_,rfl⟩
  have OI:ai (av w W9):=by
   unfold ai;rw[X];exact (((l.below.setCell (p:=⟨r,0,none⟩) NP _).setCell (p:=⟨r,1,none⟩) NP _).setCell (p:=⟨r,2,none⟩) NP _).setCell (p:=⟨g,0,none⟩) OD _
  have l0:W9.cell? ⟨r,0,none⟩=some (.slice none 0 0):=by rw[X];go_simp
  have l1:W9.cell? ⟨r,1,none⟩=some (.slice none 0 0):=by rw[X];go_simp
  have l2:W9.cell? ⟨r,2,none⟩=some (.slice none 0 0):=by rw[X];go_simp
  have l3:W9.cell? ⟨g,0,none⟩=some (.int .i64 1):=by rw[X];go_simp
  have OB:=ah X;clear X;go_wp2_with fail;rw[← OB.o];refine bodyPost_ret (v:=.tuple #[.agg #[.slice none 0 0,.slice none 0 0,.slice none 0 0],.int .i64 1]) (by simp[results,Tryz.results20,go_sem,l0,l1,l2,l3]) rfl ⟨bH,none,0,0,none,0,0,none,0,0,rfl,eP.no _ _,⟨fun h=>absurd h (by omega),fun _=>rfl⟩,OI⟩
 | true=>
  have Pz:ai (¬Tr.ak 5 t=false):=ah (by rw[OC.o];decide)
  have OA:ai (Tr.ak 5 t=true):=OC.o
  by_cases Pk:e0=0
  ·subst Pk
   have Om:ai (jM ⟨xp,xa,xs,xv⟩):=xH.1 O6
   cases y2 with
   | false=>
    obtain⟨c0,c1,c2,c3,c4,c5,c6,c7,-⟩:=l.cj;go_enter Tryz.func20,Tryz.ntmps20;go_wp2_with fail;rw[← HW.o,← HP.o]
    try rw[← OH.o]
    try rw[← Oy.o]
    try rw[← OO.o]
    try rw[← HQ.o]
    refine (bS t Ae Ak ne nk ce ck W N.2.2 R).mono ?_;rw[OC.o];rintro e v1 ⟨rfl,u⟩;obtain⟨l,R,RX,L,B,C⟩:=pO u l R RX L B C;clear u;clear c0 c1 c2 c3 c4 c5 c6 c7;obtain⟨c0,c1,c2,c3,c4,c5,c6,c7,-⟩:=l.cj;go_wp2_with fail;refine (rD xp xa xs xv xA xn xc v1 0 O6 (by have:=N.o;omega) RX).mono ?_;rintro e v2 ⟨rfl,u⟩;obtain⟨l,R,RX,L,B,C⟩:=pO u l R RX L B C;clear u;clear c0 c1 c2 c3 c4 c5 c6 c7;obtain⟨c0,c1,c2,c3,c4,c5,c6,c7,-⟩:=l.cj;go_wp2_with fail;refine (lJ t Ae Ak ne nk ce ck a n v2 false NT N.2.2 N.1 R).mono ?_;rintro e v3 ⟨rfl,u⟩;obtain⟨l,R,RX,L,B,C⟩:=pO u l R RX L B C;clear u;clear c0 c1 c2 c3 c4 c5 c6 c7
    have OX:er=1:=by
     rw[← OZ.o];unfold qK;rw[if_neg Pz.o,if_neg (fun h=>h O6.o),if_pos NT.o]
    obtain rfl:=OX;obtain⟨z0,z1,z2,z3,-⟩:=L.cj;have m0:=B.2 0;have m1:=B.2 1;have m2:=B.2 2;have m3:=C.2 0;obtain⟨W9,X⟩:∃ W,W=(((v3.setCell ⟨r,0,none⟩ (.slice none 0 0)).setCell ⟨r,1,none⟩ (.slice none 0 0)).setCell ⟨r,2,none⟩ (.slice none 0 0)).setCell ⟨g,0,none⟩ (.int .i64 1):=⟨_,rfl⟩
    have OI:ai (av w W9):=by
     unfold ai;rw[X];exact (((l.below.setCell (p:=⟨r,0,none⟩) NP _).setCell (p:=⟨r,1,none⟩) NP _).setCell (p:=⟨r,2,none⟩) NP _).setCell (p:=⟨g,0,none⟩) OD _
    have l0:W9.cell? ⟨r,0,none⟩=some (.slice none 0 0):=by rw[X];go_simp
    have l1:W9.cell? ⟨r,1,none⟩=some (.slice none 0 0):=by rw[X];go_simp
    have l2:W9.cell? ⟨r,2,none⟩=some (.slice none 0 0):=by rw[X];go_simp
    have l3:W9.cell? ⟨g,0,none⟩=some (.int .i64 1):=by rw[X];go_simp
    have OB:=ah X;clear X;go_wp2_with fail;rw[← OB.o];refine bodyPost_ret (v:=.tuple #[.agg #[.slice none 0 0,.slice none 0 0,.slice none 0 0],.int .i64 1]) (by simp[results,Tryz.results20,go_sem,l0,l1,l2,l3]) rfl ⟨bH,none,0,0,none,0,0,none,0,0,rfl,eP.no _ _,⟨fun h=>absurd h (by omega),fun _=>rfl⟩,OI⟩
   | true=>
    have HT:ai (au 5 t):=(dD.1 NT).1;have HD:ai (Dt.ak a n=true):=(dD.1 NT).2.1
    have Q6:ai (¬aY t a n=false):=ah (by rw[NT.o];decide)
    have Q7:ai (xn≤3∧1≤xn):=by
     have h1:=Om.path.few;have h2:=O1.o;have h3:=List.length_pos_iff.2 Om.path.some;dsimp only at h1 h3;unfold ai;omega
    have Px:ai (er=if pR t ⟨xp,xa,xs,xv⟩=true then 4 else 0):=by
     unfold ai;rw[← OZ.o];unfold qK;rw[if_neg Pz.o,if_neg (fun h=>h O6.o),if_neg Q6.o]
    obtain⟨c0,c1,c2,c3,c4,c5,c6,c7,-⟩:=l.cj;refine (callsIn_wide (n:=6)).1 ?_;refine callsIn_of_wp_marks Tryz.func20 rfl trivial ?_ rfl;simp only[Tryz.ntmps20,List.size_toArray,lY,List.length_nil,Nat.reduceAdd,Nat.reduceSub,Array.replicate_succ,Array.replicate_zero,List.push_toArray,List.append_toArray,List.nil_append,List.cons_append];refine wpIn_wide.2 ?_;refine Rnd.K3 ?_;go_wp2_with fail;rw[← HW.o,← HP.o]
    try rw[← OH.o]
    try rw[← Oy.o]
    try rw[← OO.o]
    try rw[← HQ.o]
    refine (bS t Ae Ak ne nk ce ck W N.2.2 R).mono ?_;rw[OC.o];rintro e v1 ⟨rfl,u⟩;obtain⟨l,R,RX,L,B,C⟩:=pO u l R RX L B C;clear u;clear c0 c1 c2 c3 c4 c5 c6 c7;obtain⟨c0,c1,c2,c3,c4,c5,c6,c7,-⟩:=l.cj;go_wp2_with fail;refine (rD xp xa xs xv xA xn xc v1 0 O6 (by have:=N.o;omega) RX).mono ?_;rintro e v2 ⟨rfl,u⟩;obtain⟨l,R,RX,L,B,C⟩:=pO u l R RX L B C;clear u;clear c0 c1 c2 c3 c4 c5 c6 c7;obtain⟨c0,c1,c2,c3,c4,c5,c6,c7,-⟩:=l.cj;go_wp2_with fail;refine (lJ t Ae Ak ne nk ce ck a n v2 true NT N.2.2 N.1 R).mono ?_;rintro e v3 ⟨rfl,u⟩;obtain⟨l,R,RX,L,B,C⟩:=pO u l R RX L B C;clear u;clear c0 c1 c2 c3 c4 c5 c6 c7;have Qc:=B;have Qb:=C;obtain⟨c0,c1,c2,c3,c4,c5,c6,c7,-⟩:=l.cj
    go_wp2_with fail;clear c0 c1 c2 c3 c4 c5 c6 c7
    go_cut [10,11] from 31 to 40 (fun s9 e9 wx=>∃ (M gE:Nat) (p9:CP) (z9:Int),s9 = .pointer (some ⟨M,0,none⟩)∧e9 = .pointer (some ⟨gE,0,none⟩)∧ai (MB v3 M gE p9 z9 wx)∧ai (gF t ⟨xp,xa,xs,xv⟩ (a,n) xp.length p9.k z9))
    case first=>
     refine Rg (S:=eB _) l.drew.cj (fun d=>?_);obtain⟨v4,PV,u⟩:=mW v3;obtain⟨l,R,RX,L,B,C⟩:=pO u l R RX L B C;clear u;have Pm:ai (v3.drew=v4):=PV.symm;rw[← PV]at d ⊢;clear PV
     have A:ai (av v3 v4):=ah (by rw[← Pm.o];exact (bN).drew)
     clear Pm;refine T4 0 32 1 33 2 34 4 36 ?_;refine Tk 5 37 ?_;refine wpAnyH_ready (rs:=[3,10,11]) (by kernel_rfl) (by simp) ?_;refine AllReadyH.cons (o:=⟨some 35,_,_,_,_,_⟩) rfl (fun K G=>?_) (AllReadyH.cons (o:=⟨some 10,_,_,_,_,_⟩) rfl (fun K G=>?_) (AllReadyH.cons (o:=⟨some 11,_,_,_,_,_⟩) rfl (fun K G=>?_) (AllReadyH.nil)))
     ·go_simp
      (go_at_call 49;refine (j6 t Ae Ak ne nk ce ck v4 xp xA xn xc O1 (by have:=N.o;omega) RX N.2.2 (by have:=N.o;omega) R).mono ?_);rintro e v5 ⟨Ge,gn,gc,Gk,gm,gd,rfl,NK,u⟩;rw[if_pos OA.o]at NK;have RG:ai (aF v5 v5.heap.size (aI t xp) ⟨Ge,gn,gc⟩ ⟨Gk,gm,gd⟩):=NK.rd;clear NK;obtain⟨l,R,RX,L,B,C,A⟩:=Eb u l R RX L B C A;clear u;clear d;refine Th G ?_ (fun d=>?_)
      ·exact l.cj
      clear G K;refine wpAnyH_ready (rs:=[6,10,11]) (by kernel_rfl) (by simp) ?_;refine AllReadyH.cons (o:=⟨some 38,_,_,_,_,_⟩) rfl (fun K G=>?_) (AllReadyH.cons (o:=⟨some 10,_,_,_,_,_⟩) rfl (fun K G=>?_) (AllReadyH.cons (o:=⟨some 11,_,_,_,_,_⟩) rfl (fun K G=>?_) (AllReadyH.nil)))
      ·go_simp
       (go_at_call 48;refine (dX t xp xa xs xv xA xn xc a n Ge Gk gn gm gc gd v5 HT Om NT N2 RG).mono ?_);rintro e v6 ⟨kx,zx,Xe,Nv,Nw,Xk,Ny,Nz,Xc,Y,Z,rfl,NA,N_,u⟩;have HN:ai (dR v6 (fun b=>v3.heap.size≤b) ⟨kx,⟨Xe,Nv,Nw⟩,⟨Xk,Ny,Nz⟩,⟨Xc,Y,Z⟩⟩):=dR.b_ NA (fun b hb _=>aN A.size hb);have NN:=ah N_.o;clear NA N_;obtain⟨l,R,RX,L,B,C,A,RG⟩:=lZ u l R RX L B C A RG;clear u;clear d;refine Th G ?_ (fun d=>?_)
       ·exact l.cj
       clear G K;refine T3 7 31 8 39 9 40 ?_;refine wpAnyH_ready (rs:=[10,11]) (by kernel_rfl) (by simp) ?_;refine AllReadyH.cons (o:=⟨some 10,_,_,_,_,_⟩) rfl (fun K G=>?_) (AllReadyH.cons (o:=⟨some 11,_,_,_,_,_⟩) rfl (fun K G=>?_) (AllReadyH.nil))
       ·go_simp
        clear d;refine Th G ?_ (fun d=>?_)
        ·exact (l.alloc _).cj
        clear G K;obtain⟨M,v7,Q,NI,u,b0,b1,b2⟩:=rU v6 (.slice none 0 0) (.slice none 0 0) (.slice none 0 0) 42;have NF:=jy Q A.o;have O:=jy Q l.below;have NY:=fT Q l.c0;have Oa:=fT Q l.c2;have Oc:=fT Q l.c6;have HN:=ah (HN.mono (ok':=fun b=>v3.heap.size≤b∧b≠M) (fun b hb Oz=>⟨hb,by omega⟩));obtain⟨l,R,RX,L,B,C,A,RG⟩:=lZ u l R RX L B C A RG;have HN:=ah (HN.later u);have HZ:=ah ((((Kept.a_ A).af b2).af b1).af b0);have HF:=pu Q NI;have NU:M<v7.heap.size:=HF.1;(try rw[← NI]at d);rw[← NI];rw[← Q];clear Q NI u b0 b1 b2;refine Tc 11 (fun K G=>?_);go_simp;clear d;refine Th G ?_ (fun d=>?_)
        ·exact (l.alloc _).cj
        clear G K;obtain⟨gE,v8,U,NJ,u,b0⟩:=Eo v7 (.int .i64 0) 43;have NG:=jy U A.o;have NH:=jy U l.below;have NZ:=fT U l.c0;have Ob:=fT U l.c2;have Od:=fT U l.c6
        have N7:M≠gE:=by have h:=HF.1;omega
        have NW:¬gE=M:=fun h=>N7 h.symm;have HN:=ah (HN.mono (ok':=fun b=>v3.heap.size≤b∧b≠M∧b≠gE) (fun b hb Oz=>⟨hb.1,hb.2,by omega⟩));obtain⟨l,R,RX,L,B,C,A,RG⟩:=lZ u l R RX L B C A RG;obtain⟨HN,HZ,HF⟩:=kE u HN HZ HF;have HY:=ah ((Kept.a_ A).af b0);have H:=pu U NJ;have NV:gE<v8.heap.size:=H.1;(try rw[← NJ]at d);rw[← NJ];rw[← U];clear U NJ u b0;obtain⟨z0,z1,z2,-⟩:=HZ.cj;have z3:=HY.c0;have m0:=HF.2 0;have m1:=HF.2 1;have m2:=HF.2 2;have m3:=H.2 0;refine Tc 12 (fun K G=>?_);go_simp;refine Th G ?_ (fun m=>?_)
        ·(try dsimp only)
         have J:=l.tX (g:=M) O (by simp;omega) (.slice Xe Nv Nw) (.slice Xk Ny Nz) (.slice Xc Y Z);exact J.cj
        clear G K d;have d:=m;clear m;refine Tc 13 (fun K G=>?_);go_simp;refine Th G ?_ (fun m=>?_)
        ·(try dsimp only)
         have J:=l.o;have J:=J.set (a:=⟨M,0,none⟩) O (by simp;omega) (.slice Xe Nv Nw);have J:=J.set (a:=⟨M,1,none⟩) O (by simp;omega) (.slice Xk Ny Nz);have J:=J.set (a:=⟨M,2,none⟩) O (by simp;omega) (.slice Xc Y Z);have J:=J.set (a:=⟨gE,0,none⟩) NH (by simp;omega) (.int .i64 zx);exact J.cj
        clear G K d;have d:=m;clear m;refine Td ?_;clear d;have NC:=IC A NF NG N7 HN HF H z0 z1 z2 z3;clear z0 z1 z2 z3 m0 m1 m2 m3;go_wp2_with fail;go_meet;exact⟨M,gE,⟨kx,⟨Xe,Nv,Nw⟩,⟨Xk,Ny,Nz⟩,⟨Xc,Y,Z⟩⟩,zx,rfl,rfl,NC,NN⟩
       ·go_simp
        clear d;refine Th G ?_ (fun d=>?_)
        ·exact (l.alloc _).cj
        clear G K;obtain⟨gE,v7,U,NI,u,b0⟩:=Eo v6 (.int .i64 0) 43;have NG:=jy U A.o;have NH:=jy U l.below;have NZ:=fT U l.c0;have Ob:=fT U l.c2;have Od:=fT U l.c6;have HN:=ah (HN.mono (ok':=fun b=>v3.heap.size≤b∧b≠gE) (fun b hb Oz=>⟨hb,by omega⟩));obtain⟨l,R,RX,L,B,C,A,RG⟩:=lZ u l R RX L B C A RG;have HN:=ah (HN.later u);have HY:=ah ((Kept.a_ A).af b0);have H:=pu U NI;have NV:gE<v7.heap.size:=H.1;(try rw[← NI]at d);rw[← NI];rw[← U];clear U NI u b0;refine Tc 10 (fun K G=>?_);go_simp;clear d;refine Th G ?_ (fun d=>?_)
        ·exact (l.alloc _).cj
        clear G K;obtain⟨M,v8,Q,NJ,u,b0,b1,b2⟩:=rU v7 (.slice none 0 0) (.slice none 0 0) (.slice none 0 0) 42;have NF:=jy Q A.o;have O:=jy Q l.below;have NY:=fT Q l.c0;have Oa:=fT Q l.c2;have Oc:=fT Q l.c6
        have N7:M≠gE:=by have h:=H.1;omega
        have NW:¬gE=M:=fun h=>N7 h.symm;have HN:=ah (HN.mono (ok':=fun b=>v3.heap.size≤b∧b≠M∧b≠gE) (fun b hb Oz=>⟨hb.1,by omega,hb.2⟩));obtain⟨l,R,RX,L,B,C,A,RG⟩:=lZ u l R RX L B C A RG;obtain⟨HN,HY,H⟩:=kE u HN HY H;have HZ:=ah ((((Kept.a_ A).af b2).af b1).af b0);have HF:=pu Q NJ;have NU:M<v8.heap.size:=HF.1;(try rw[← NJ]at d);rw[← NJ];rw[← Q];clear Q NJ u b0 b1 b2;obtain⟨z0,z1,z2,-⟩:=HZ.cj;have z3:=HY.c0;have m0:=HF.2 0;have m1:=HF.2 1;have m2:=HF.2 2;have m3:=H.2 0;refine Tc 12 (fun K G=>?_);go_simp;refine Th G ?_ (fun m=>?_)
        ·(try dsimp only)
         have J:=l.tX (g:=M) O (by simp;omega) (.slice Xe Nv Nw) (.slice Xk Ny Nz) (.slice Xc Y Z);exact J.cj
        clear G K d;have d:=m;clear m;refine Tc 13 (fun K G=>?_);go_simp;refine Th G ?_ (fun m=>?_)
        ·(try dsimp only)
         have J:=l.o;have J:=J.set (a:=⟨M,0,none⟩) O (by simp;omega) (.slice Xe Nv Nw);have J:=J.set (a:=⟨M,1,none⟩) O (by simp;omega) (.slice Xk Ny Nz);have J:=J.set (a:=⟨M,2,none⟩) O (by simp;omega) (.slice Xc Y Z);have J:=J.set (a:=⟨gE,0,none⟩) NH (by simp;omega) (.int .i64 zx);exact J.cj
        clear G K d;have d:=m;clear m;refine Td ?_;clear d;have NC:=IC A NF NG N7 HN HF H z0 z1 z2 z3;clear z0 z1 z2 z3 m0 m1 m2 m3;go_wp2_with fail;go_meet;exact⟨M,gE,⟨kx,⟨Xe,Nv,Nw⟩,⟨Xk,Ny,Nz⟩,⟨Xc,Y,Z⟩⟩,zx,rfl,rfl,NC,NN⟩
      ·go_simp
       clear d;refine Th G ?_ (fun d=>?_)
       ·exact (l.alloc _).cj
       clear G K;obtain⟨M,v6,Q,NQ,u,b0,b1,b2⟩:=rU v5 (.slice none 0 0) (.slice none 0 0) (.slice none 0 0) 42;have NF:=jy Q A.o;have O:=jy Q l.below;have NY:=fT Q l.c0;have Oa:=fT Q l.c2;have Oc:=fT Q l.c6;obtain⟨l,R,RX,L,B,C,A,RG⟩:=lZ u l R RX L B C A RG;have HZ:=ah ((((Kept.a_ A).af b2).af b1).af b0);have HF:=pu Q NQ;have NU:M<v6.heap.size:=HF.1;(try rw[← NQ]at d);rw[← NQ];rw[← Q];clear Q NQ u b0 b1 b2;refine wpAnyH_ready (rs:=[6,11]) (by kernel_rfl) (by simp) ?_;refine AllReadyH.cons (o:=⟨some 38,_,_,_,_,_⟩) rfl (fun K G=>?_) (AllReadyH.cons (o:=⟨some 11,_,_,_,_,_⟩) rfl (fun K G=>?_) (AllReadyH.nil))
       ·go_simp
        (go_at_call 48;refine (dX t xp xa xs xv xA xn xc a n Ge Gk gn gm gc gd v6 HT Om NT N2 RG).mono ?_);rintro e v7 ⟨kx,zx,Xe,Nv,Nw,Xk,Ny,Nz,Xc,Y,Z,rfl,NA,N_,u⟩;have HN:ai (dR v7 (fun b=>v3.heap.size≤b∧b≠M) ⟨kx,⟨Xe,Nv,Nw⟩,⟨Xk,Ny,Nz⟩,⟨Xc,Y,Z⟩⟩):=dR.b_ NA (fun b hb _=>⟨aN A.size hb,by have h:=HF.1;omega⟩);have NN:=ah N_.o;clear NA N_;obtain⟨l,R,RX,L,B,C,A,RG⟩:=lZ u l R RX L B C A RG;obtain⟨HZ,HF⟩:=gH u HZ HF;clear u;clear d;refine Th G ?_ (fun d=>?_)
        ·exact l.cj
        clear G K;refine T3 7 31 8 39 9 40 ?_;refine Tc 11 (fun K G=>?_);go_simp;clear d;refine Th G ?_ (fun d=>?_)
        ·exact (l.alloc _).cj
        clear G K;obtain⟨gE,v8,U,NJ,u,b0⟩:=Eo v7 (.int .i64 0) 43;have NG:=jy U A.o;have NH:=jy U l.below;have NZ:=fT U l.c0;have Ob:=fT U l.c2;have Od:=fT U l.c6
        have N7:M≠gE:=by have h:=HF.1;omega
        have NW:¬gE=M:=fun h=>N7 h.symm;have HN:=ah (HN.mono (ok':=fun b=>v3.heap.size≤b∧b≠M∧b≠gE) (fun b hb Oz=>⟨hb.1,hb.2,by omega⟩));obtain⟨l,R,RX,L,B,C,A,RG⟩:=lZ u l R RX L B C A RG;obtain⟨HZ,HF,HN⟩:=kE u HZ HF HN;have HY:=ah ((Kept.a_ A).af b0);have H:=pu U NJ;have NV:gE<v8.heap.size:=H.1;(try rw[← NJ]at d);rw[← NJ];rw[← U];clear U NJ u b0;obtain⟨z0,z1,z2,-⟩:=HZ.cj;have z3:=HY.c0;have m0:=HF.2 0;have m1:=HF.2 1;have m2:=HF.2 2;have m3:=H.2 0;refine Tc 12 (fun K G=>?_);go_simp;refine Th G ?_ (fun m=>?_)
        ·(try dsimp only)
         have J:=l.tX (g:=M) O (by simp;omega) (.slice Xe Nv Nw) (.slice Xk Ny Nz) (.slice Xc Y Z);exact J.cj
        clear G K d;have d:=m;clear m;refine Tc 13 (fun K G=>?_);go_simp;refine Th G ?_ (fun m=>?_)
        ·(try dsimp only)
         have J:=l.o;have J:=J.set (a:=⟨M,0,none⟩) O (by simp;omega) (.slice Xe Nv Nw);have J:=J.set (a:=⟨M,1,none⟩) O (by simp;omega) (.slice Xk Ny Nz);have J:=J.set (a:=⟨M,2,none⟩) O (by simp;omega) (.slice Xc Y Z);have J:=J.set (a:=⟨gE,0,none⟩) NH (by simp;omega) (.int .i64 zx);exact J.cj
        clear G K d;have d:=m;clear m;refine Td ?_;clear d;have NC:=IC A NF NG N7 HN HF H z0 z1 z2 z3;clear z0 z1 z2 z3 m0 m1 m2 m3;go_wp2_with fail;go_meet;exact⟨M,gE,⟨kx,⟨Xe,Nv,Nw⟩,⟨Xk,Ny,Nz⟩,⟨Xc,Y,Z⟩⟩,zx,rfl,rfl,NC,NN⟩
       ·go_simp
        clear d;refine Th G ?_ (fun d=>?_)
        ·exact (l.alloc _).cj
        clear G K;obtain⟨gE,v7,U,NI,u,b0⟩:=Eo v6 (.int .i64 0) 43;have NG:=jy U A.o;have NH:=jy U l.below;have NZ:=fT U l.c0;have Ob:=fT U l.c2;have Od:=fT U l.c6
        have N7:M≠gE:=by have h:=HF.1;omega
        have NW:¬gE=M:=fun h=>N7 h.symm;obtain⟨l,R,RX,L,B,C,A,RG⟩:=lZ u l R RX L B C A RG;obtain⟨HZ,HF⟩:=gH u HZ HF;have HY:=ah ((Kept.a_ A).af b0);have H:=pu U NI;have NV:gE<v7.heap.size:=H.1;(try rw[← NI]at d);rw[← NI];rw[← U];clear U NI u b0;refine Tc 6 (fun K G=>?_);go_simp;(go_at_call 48;refine (dX t xp xa xs xv xA xn xc a n Ge Gk gn gm gc gd v7 HT Om NT N2 RG).mono ?_);rintro e v8 ⟨kx,zx,Xe,Nv,Nw,Xk,Ny,Nz,Xc,Y,Z,rfl,NA,N_,u⟩;have HN:ai (dR v8 (fun b=>v3.heap.size≤b∧b≠M∧b≠gE) ⟨kx,⟨Xe,Nv,Nw⟩,⟨Xk,Ny,Nz⟩,⟨Xc,Y,Z⟩⟩):=dR.b_ NA (fun b hb _=>⟨aN A.size hb,by have h:=HF.1;omega,by have h:=H.1;omega⟩);have NN:=ah N_.o
        clear NA N_;obtain⟨l,R,RX,L,B,C,A,RG⟩:=lZ u l R RX L B C A RG;obtain⟨HZ,HF,HY,H⟩:=jb u HZ HF HY H;clear u;obtain⟨z0,z1,z2,-⟩:=HZ.cj;have z3:=HY.c0;have m0:=HF.2 0;have m1:=HF.2 1;have m2:=HF.2 2;have m3:=H.2 0;clear d;refine Th G ?_ (fun d=>?_)
        ·exact l.cj
        clear G K;refine T3 7 31 8 39 9 40 ?_;refine Tc 12 (fun K G=>?_);go_simp;refine Th G ?_ (fun m=>?_)
        ·(try dsimp only)
         have J:=l.tX (g:=M) O (by simp;omega) (.slice Xe Nv Nw) (.slice Xk Ny Nz) (.slice Xc Y Z);exact J.cj
        clear G K d;have d:=m;clear m;refine Tc 13 (fun K G=>?_);go_simp;refine Th G ?_ (fun m=>?_)
        ·(try dsimp only)
         have J:=l.o;have J:=J.set (a:=⟨M,0,none⟩) O (by simp;omega) (.slice Xe Nv Nw);have J:=J.set (a:=⟨M,1,none⟩) O (by simp;omega) (.slice Xk Ny Nz);have J:=J.set (a:=⟨M,2,none⟩) O (by simp;omega) (.slice Xc Y Z);have J:=J.set (a:=⟨gE,0,none⟩) NH (by simp;omega) (.int .i64 zx);exact J.cj
        clear G K d;have d:=m;clear m;refine Td ?_;clear d;have NC:=IC A NF NG N7 HN HF H z0 z1 z2 z3;clear z0 z1 z2 z3 m0 m1 m2 m3;go_wp2_with fail;go_meet;exact⟨M,gE,⟨kx,⟨Xe,Nv,Nw⟩,⟨Xk,Ny,Nz⟩,⟨Xc,Y,Z⟩⟩,zx,rfl,rfl,NC,NN⟩
      ·go_simp
       clear d;refine Th G ?_ (fun d=>?_)
       ·exact (l.alloc _).cj
       clear G K;obtain⟨gE,v6,U,NQ,u,b0⟩:=Eo v5 (.int .i64 0) 43;have NG:=jy U A.o;have NH:=jy U l.below;have NZ:=fT U l.c0;have Ob:=fT U l.c2;have Od:=fT U l.c6;obtain⟨l,R,RX,L,B,C,A,RG⟩:=lZ u l R RX L B C A RG;have HY:=ah ((Kept.a_ A).af b0);have H:=pu U NQ;have NV:gE<v6.heap.size:=H.1;(try rw[← NQ]at d);rw[← NQ];rw[← U];clear U NQ u b0;refine wpAnyH_ready (rs:=[6,10]) (by kernel_rfl) (by simp) ?_;refine AllReadyH.cons (o:=⟨some 38,_,_,_,_,_⟩) rfl (fun K G=>?_) (AllReadyH.cons (o:=⟨some 10,_,_,_,_,_⟩) rfl (fun K G=>?_) (AllReadyH.nil))
       ·go_simp
        (go_at_call 48;refine (dX t xp xa xs xv xA xn xc a n Ge Gk gn gm gc gd v6 HT Om NT N2 RG).mono ?_);rintro e v7 ⟨kx,zx,Xe,Nv,Nw,Xk,Ny,Nz,Xc,Y,Z,rfl,NA,N_,u⟩;have HN:ai (dR v7 (fun b=>v3.heap.size≤b∧b≠gE) ⟨kx,⟨Xe,Nv,Nw⟩,⟨Xk,Ny,Nz⟩,⟨Xc,Y,Z⟩⟩):=dR.b_ NA (fun b hb _=>⟨aN A.size hb,by have h:=H.1;omega⟩);have NN:=ah N_.o;clear NA N_;obtain⟨l,R,RX,L,B,C,A,RG⟩:=lZ u l R RX L B C A RG;obtain⟨HY,H⟩:=gH u HY H;clear u;clear d;refine Th G ?_ (fun d=>?_)
        ·exact l.cj
        clear G K;refine T3 7 31 8 39 9 40 ?_;refine Tc 10 (fun K G=>?_);go_simp;clear d;refine Th G ?_ (fun d=>?_)
        ·exact (l.alloc _).cj
        clear G K;obtain⟨M,v8,Q,NJ,u,b0,b1,b2⟩:=rU v7 (.slice none 0 0) (.slice none 0 0) (.slice none 0 0) 42;have NF:=jy Q A.o;have O:=jy Q l.below;have NY:=fT Q l.c0;have Oa:=fT Q l.c2;have Oc:=fT Q l.c6
        have N7:M≠gE:=by have h:=H.1;omega
        have NW:¬gE=M:=fun h=>N7 h.symm;have HN:=ah (HN.mono (ok':=fun b=>v3.heap.size≤b∧b≠M∧b≠gE) (fun b hb Oz=>⟨hb.1,by omega,hb.2⟩));obtain⟨l,R,RX,L,B,C,A,RG⟩:=lZ u l R RX L B C A RG;obtain⟨HY,H,HN⟩:=kE u HY H HN;have HZ:=ah ((((Kept.a_ A).af b2).af b1).af b0);have HF:=pu Q NJ;have NU:M<v8.heap.size:=HF.1;(try rw[← NJ]at d);rw[← NJ];rw[← Q];clear Q NJ u b0 b1 b2;obtain⟨z0,z1,z2,-⟩:=HZ.cj;have z3:=HY.c0;have m0:=HF.2 0;have m1:=HF.2 1;have m2:=HF.2 2;have m3:=H.2 0;refine Tc 12 (fun K G=>?_);go_simp;refine Th G ?_ (fun m=>?_)
        ·(try dsimp only)
         have J:=l.tX (g:=M) O (by simp;omega) (.slice Xe Nv Nw) (.slice Xk Ny Nz) (.slice Xc Y Z);exact J.cj
        clear G K d;have d:=m;clear m;refine Tc 13 (fun K G=>?_);go_simp;refine Th G ?_ (fun m=>?_)
        ·(try dsimp only)
         have J:=l.o;have J:=J.set (a:=⟨M,0,none⟩) O (by simp;omega) (.slice Xe Nv Nw);have J:=J.set (a:=⟨M,1,none⟩) O (by simp;omega) (.slice Xk Ny Nz);have J:=J.set (a:=⟨M,2,none⟩) O (by simp;omega) (.slice Xc Y Z);have J:=J.set (a:=⟨gE,0,none⟩) NH (by simp;omega) (.int .i64 zx);exact J.cj
        clear G K d;have d:=m;clear m;refine Td ?_;clear d;have NC:=IC A NF NG N7 HN HF H z0 z1 z2 z3;clear z0 z1 z2 z3 m0 m1 m2 m3;go_wp2_with fail;go_meet;exact⟨M,gE,⟨kx,⟨Xe,Nv,Nw⟩,⟨Xk,Ny,Nz⟩,⟨Xc,Y,Z⟩⟩,zx,rfl,rfl,NC,NN⟩
       ·go_simp
        clear d;refine Th G ?_ (fun d=>?_)
        ·exact (l.alloc _).cj
        clear G K;obtain⟨M,v7,Q,NI,u,b0,b1,b2⟩:=rU v6 (.slice none 0 0) (.slice none 0 0) (.slice none 0 0) 42;have NF:=jy Q A.o;have O:=jy Q l.below;have NY:=fT Q l.c0;have Oa:=fT Q l.c2;have Oc:=fT Q l.c6
        have N7:M≠gE:=by have h:=H.1;omega
        have NW:¬gE=M:=fun h=>N7 h.symm;obtain⟨l,R,RX,L,B,C,A,RG⟩:=lZ u l R RX L B C A RG;obtain⟨HY,H⟩:=gH u HY H;have HZ:=ah ((((Kept.a_ A).af b2).af b1).af b0);have HF:=pu Q NI;have NU:M<v7.heap.size:=HF.1;(try rw[← NI]at d);rw[← NI];rw[← Q];clear Q NI u b0 b1 b2;refine Tc 6 (fun K G=>?_);go_simp;(go_at_call 48;refine (dX t xp xa xs xv xA xn xc a n Ge Gk gn gm gc gd v7 HT Om NT N2 RG).mono ?_);rintro e v8 ⟨kx,zx,Xe,Nv,Nw,Xk,Ny,Nz,Xc,Y,Z,rfl,NA,N_,u⟩;have HN:ai (dR v8 (fun b=>v3.heap.size≤b∧b≠M∧b≠gE) ⟨kx,⟨Xe,Nv,Nw⟩,⟨Xk,Ny,Nz⟩,⟨Xc,Y,Z⟩⟩):=dR.b_ NA (fun b hb _=>⟨aN A.size hb,by have h:=HF.1;omega,by have h:=H.1;omega⟩)
        have NN:=ah N_.o;clear NA N_;obtain⟨l,R,RX,L,B,C,A,RG⟩:=lZ u l R RX L B C A RG;obtain⟨HY,H,HZ,HF⟩:=jb u HY H HZ HF;clear u;obtain⟨z0,z1,z2,-⟩:=HZ.cj;have z3:=HY.c0;have m0:=HF.2 0;have m1:=HF.2 1;have m2:=HF.2 2;have m3:=H.2 0;clear d;refine Th G ?_ (fun d=>?_)
        ·exact l.cj
        clear G K;refine T3 7 31 8 39 9 40 ?_;refine Tc 12 (fun K G=>?_);go_simp;refine Th G ?_ (fun m=>?_)
        ·(try dsimp only)
         have J:=l.tX (g:=M) O (by simp;omega) (.slice Xe Nv Nw) (.slice Xk Ny Nz) (.slice Xc Y Z);exact J.cj
        clear G K d;have d:=m;clear m;refine Tc 13 (fun K G=>?_);go_simp;refine Th G ?_ (fun m=>?_)
        ·(try dsimp only)
         have J:=l.o;have J:=J.set (a:=⟨M,0,none⟩) O (by simp;omega) (.slice Xe Nv Nw);have J:=J.set (a:=⟨M,1,none⟩) O (by simp;omega) (.slice Xk Ny Nz);have J:=J.set (a:=⟨M,2,none⟩) O (by simp;omega) (.slice Xc Y Z);have J:=J.set (a:=⟨gE,0,none⟩) NH (by simp;omega) (.int .i64 zx);exact J.cj
        clear G K d;have d:=m;clear m;refine Td ?_;clear d;have NC:=IC A NF NG N7 HN HF H z0 z1 z2 z3;clear z0 z1 z2 z3 m0 m1 m2 m3;go_wp2_with fail;go_meet;exact⟨M,gE,⟨kx,⟨Xe,Nv,Nw⟩,⟨Xk,Ny,Nz⟩,⟨Xc,Y,Z⟩⟩,zx,rfl,rfl,NC,NN⟩
     ·go_simp
      clear d;refine Th G ?_ (fun d=>?_)
      ·exact (l.alloc _).cj
      clear G K;obtain⟨M,v5,Q,O4,u,b0,b1,b2⟩:=rU v4 (.slice none 0 0) (.slice none 0 0) (.slice none 0 0) 42;have NF:=jy Q A.o;have O:=jy Q l.below;have NY:=fT Q l.c0;have Oa:=fT Q l.c2;have Oc:=fT Q l.c6;obtain⟨l,R,RX,L,B,C,A⟩:=Eb u l R RX L B C A;have HZ:=ah ((((Kept.a_ A).af b2).af b1).af b0);have HF:=pu Q O4;have NU:M<v5.heap.size:=HF.1;(try rw[← O4]at d);rw[← O4];rw[← Q];clear Q O4 u b0 b1 b2;refine wpAnyH_ready (rs:=[3,11]) (by kernel_rfl) (by simp) ?_;refine AllReadyH.cons (o:=⟨some 35,_,_,_,_,_⟩) rfl (fun K G=>?_) (AllReadyH.cons (o:=⟨some 11,_,_,_,_,_⟩) rfl (fun K G=>?_) (AllReadyH.nil))
      ·go_simp
       (go_at_call 49;refine (j6 t Ae Ak ne nk ce ck v5 xp xA xn xc O1 (by have:=N.o;omega) RX N.2.2 (by have:=N.o;omega) R).mono ?_);rintro e v6 ⟨Ge,gn,gc,Gk,gm,gd,rfl,NK,u⟩;rw[if_pos OA.o]at NK;have RG:ai (aF v6 v6.heap.size (aI t xp) ⟨Ge,gn,gc⟩ ⟨Gk,gm,gd⟩):=NK.rd;clear NK;obtain⟨l,R,RX,L,B,C,A,HZ⟩:=lZ u l R RX L B C A HZ;have HF:=ah (HF.later u);clear u;clear d;refine Th G ?_ (fun d=>?_)
       ·exact l.cj
       clear G K;refine wpAnyH_ready (rs:=[6,11]) (by kernel_rfl) (by simp) ?_;refine AllReadyH.cons (o:=⟨some 38,_,_,_,_,_⟩) rfl (fun K G=>?_) (AllReadyH.cons (o:=⟨some 11,_,_,_,_,_⟩) rfl (fun K G=>?_) (AllReadyH.nil))
       ·go_simp
        (go_at_call 48;refine (dX t xp xa xs xv xA xn xc a n Ge Gk gn gm gc gd v6 HT Om NT N2 RG).mono ?_);rintro e v7 ⟨kx,zx,Xe,Nv,Nw,Xk,Ny,Nz,Xc,Y,Z,rfl,NA,N_,u⟩;have HN:ai (dR v7 (fun b=>v3.heap.size≤b∧b≠M) ⟨kx,⟨Xe,Nv,Nw⟩,⟨Xk,Ny,Nz⟩,⟨Xc,Y,Z⟩⟩):=dR.b_ NA (fun b hb _=>⟨aN A.size hb,by have h:=HF.1;omega⟩);have NN:=ah N_.o;clear NA N_;obtain⟨l,R,RX,L,B,C,A,HZ⟩:=lZ u l R RX L B C A HZ;obtain⟨HF,RG⟩:=gH u HF RG;clear u;clear d;refine Th G ?_ (fun d=>?_)
        ·exact l.cj
        clear G K;refine T3 7 31 8 39 9 40 ?_;refine Tc 11 (fun K G=>?_);go_simp;clear d;refine Th G ?_ (fun d=>?_)
        ·exact (l.alloc _).cj
        clear G K;obtain⟨gE,v8,U,NJ,u,b0⟩:=Eo v7 (.int .i64 0) 43;have NG:=jy U A.o;have NH:=jy U l.below;have NZ:=fT U l.c0;have Ob:=fT U l.c2;have Od:=fT U l.c6
        have N7:M≠gE:=by have h:=HF.1;omega
        have NW:¬gE=M:=fun h=>N7 h.symm;have HN:=ah (HN.mono (ok':=fun b=>v3.heap.size≤b∧b≠M∧b≠gE) (fun b hb Oz=>⟨hb.1,hb.2,by omega⟩));obtain⟨l,R,RX,L,B,C,A,HZ⟩:=lZ u l R RX L B C A HZ;obtain⟨HF,RG,HN⟩:=kE u HF RG HN;have HY:=ah ((Kept.a_ A).af b0);have H:=pu U NJ;have NV:gE<v8.heap.size:=H.1;(try rw[← NJ]at d);rw[← NJ];rw[← U];clear U NJ u b0;obtain⟨z0,z1,z2,-⟩:=HZ.cj;have z3:=HY.c0;have m0:=HF.2 0;have m1:=HF.2 1;have m2:=HF.2 2;have m3:=H.2 0;refine Tc 12 (fun K G=>?_);go_simp;refine Th G ?_ (fun m=>?_)
        ·(try dsimp only)
         have J:=l.tX (g:=M) O (by simp;omega) (.slice Xe Nv Nw) (.slice Xk Ny Nz) (.slice Xc Y Z);exact J.cj
        clear G K d;have d:=m;clear m;refine Tc 13 (fun K G=>?_);go_simp;refine Th G ?_ (fun m=>?_)
        ·(try dsimp only)
         have J:=l.o;have J:=J.set (a:=⟨M,0,none⟩) O (by simp;omega) (.slice Xe Nv Nw);have J:=J.set (a:=⟨M,1,none⟩) O (by simp;omega) (.slice Xk Ny Nz);have J:=J.set (a:=⟨M,2,none⟩) O (by simp;omega) (.slice Xc Y Z);have J:=J.set (a:=⟨gE,0,none⟩) NH (by simp;omega) (.int .i64 zx);exact J.cj
        clear G K d;have d:=m;clear m;refine Td ?_;clear d;have NC:=IC A NF NG N7 HN HF H z0 z1 z2 z3;clear z0 z1 z2 z3 m0 m1 m2 m3;go_wp2_with fail;go_meet;exact⟨M,gE,⟨kx,⟨Xe,Nv,Nw⟩,⟨Xk,Ny,Nz⟩,⟨Xc,Y,Z⟩⟩,zx,rfl,rfl,NC,NN⟩
       ·go_simp
        clear d;refine Th G ?_ (fun d=>?_)
        ·exact (l.alloc _).cj
        clear G K;obtain⟨gE,v7,U,NI,u,b0⟩:=Eo v6 (.int .i64 0) 43;have NG:=jy U A.o;have NH:=jy U l.below;have NZ:=fT U l.c0;have Ob:=fT U l.c2;have Od:=fT U l.c6
        have N7:M≠gE:=by have h:=HF.1;omega
        have NW:¬gE=M:=fun h=>N7 h.symm;obtain⟨l,R,RX,L,B,C,A,HZ⟩:=lZ u l R RX L B C A HZ;obtain⟨HF,RG⟩:=gH u HF RG;have HY:=ah ((Kept.a_ A).af b0);have H:=pu U NI;have NV:gE<v7.heap.size:=H.1;(try rw[← NI]at d);rw[← NI];rw[← U];clear U NI u b0;refine Tc 6 (fun K G=>?_);go_simp;(go_at_call 48;refine (dX t xp xa xs xv xA xn xc a n Ge Gk gn gm gc gd v7 HT Om NT N2 RG).mono ?_);rintro e v8 ⟨kx,zx,Xe,Nv,Nw,Xk,Ny,Nz,Xc,Y,Z,rfl,NA,N_,u⟩;have HN:ai (dR v8 (fun b=>v3.heap.size≤b∧b≠M∧b≠gE) ⟨kx,⟨Xe,Nv,Nw⟩,⟨Xk,Ny,Nz⟩,⟨Xc,Y,Z⟩⟩):=dR.b_ NA (fun b hb _=>⟨aN A.size hb,by have h:=HF.1;omega,by have h:=H.1;omega⟩);have NN:=ah N_.o
        clear NA N_;obtain⟨l,R,RX,L,B,C,A,HZ⟩:=lZ u l R RX L B C A HZ;obtain⟨HF,RG,HY,H⟩:=jb u HF RG HY H;clear u;obtain⟨z0,z1,z2,-⟩:=HZ.cj;have z3:=HY.c0;have m0:=HF.2 0;have m1:=HF.2 1;have m2:=HF.2 2;have m3:=H.2 0;clear d;refine Th G ?_ (fun d=>?_)
        ·exact l.cj
        clear G K;refine T3 7 31 8 39 9 40 ?_;refine Tc 12 (fun K G=>?_);go_simp;refine Th G ?_ (fun m=>?_)
        ·(try dsimp only)
         have J:=l.tX (g:=M) O (by simp;omega) (.slice Xe Nv Nw) (.slice Xk Ny Nz) (.slice Xc Y Z);exact J.cj
        clear G K d;have d:=m;clear m;refine Tc 13 (fun K G=>?_);go_simp;refine Th G ?_ (fun m=>?_)
        ·(try dsimp only)
         have J:=l.o;have J:=J.set (a:=⟨M,0,none⟩) O (by simp;omega) (.slice Xe Nv Nw);have J:=J.set (a:=⟨M,1,none⟩) O (by simp;omega) (.slice Xk Ny Nz);have J:=J.set (a:=⟨M,2,none⟩) O (by simp;omega) (.slice Xc Y Z);have J:=J.set (a:=⟨gE,0,none⟩) NH (by simp;omega) (.int .i64 zx);exact J.cj
        clear G K d;have d:=m;clear m;refine Td ?_;clear d;have NC:=IC A NF NG N7 HN HF H z0 z1 z2 z3;clear z0 z1 z2 z3 m0 m1 m2 m3;go_wp2_with fail;go_meet;exact⟨M,gE,⟨kx,⟨Xe,Nv,Nw⟩,⟨Xk,Ny,Nz⟩,⟨Xc,Y,Z⟩⟩,zx,rfl,rfl,NC,NN⟩
      ·go_simp
       clear d;refine Th G ?_ (fun d=>?_)
       ·exact (l.alloc _).cj
       clear G K;obtain⟨gE,v6,U,NQ,u,b0⟩:=Eo v5 (.int .i64 0) 43;have NG:=jy U A.o;have NH:=jy U l.below;have NZ:=fT U l.c0;have Ob:=fT U l.c2;have Od:=fT U l.c6
       have N7:M≠gE:=by have h:=HF.1;omega
       have NW:¬gE=M:=fun h=>N7 h.symm;obtain⟨l,R,RX,L,B,C,A,HZ⟩:=lZ u l R RX L B C A HZ;have HF:=ah (HF.later u);have HY:=ah ((Kept.a_ A).af b0);have H:=pu U NQ;have NV:gE<v6.heap.size:=H.1;(try rw[← NQ]at d);rw[← NQ];rw[← U];clear U NQ u b0;refine Tc 3 (fun K G=>?_);go_simp;(go_at_call 49;refine (j6 t Ae Ak ne nk ce ck v6 xp xA xn xc O1 (by have:=N.o;omega) RX N.2.2 (by have:=N.o;omega) R).mono ?_);rintro e v7 ⟨Ge,gn,gc,Gk,gm,gd,rfl,NK,u⟩;rw[if_pos OA.o]at NK;have RG:ai (aF v7 v7.heap.size (aI t xp) ⟨Ge,gn,gc⟩ ⟨Gk,gm,gd⟩):=NK.rd;clear NK;obtain⟨l,R,RX,L,B,C,A,HZ⟩:=lZ u l R RX L B C A HZ;obtain⟨HF,HY,H⟩:=kE u HF HY H;clear u
       clear d;refine Th G ?_ (fun d=>?_)
       ·exact l.cj
       clear G K;refine Tc 6 (fun K G=>?_);go_simp;(go_at_call 48;refine (dX t xp xa xs xv xA xn xc a n Ge Gk gn gm gc gd v7 HT Om NT N2 RG).mono ?_);rintro e v8 ⟨kx,zx,Xe,Nv,Nw,Xk,Ny,Nz,Xc,Y,Z,rfl,NA,N_,u⟩;have HN:ai (dR v8 (fun b=>v3.heap.size≤b∧b≠M∧b≠gE) ⟨kx,⟨Xe,Nv,Nw⟩,⟨Xk,Ny,Nz⟩,⟨Xc,Y,Z⟩⟩):=dR.b_ NA (fun b hb _=>⟨aN A.size hb,by have h:=HF.1;omega,by have h:=H.1;omega⟩);have NN:=ah N_.o;clear NA N_;obtain⟨l,R,RX,L,B,C,A,HZ⟩:=lZ u l R RX L B C A HZ;obtain⟨HF,HY,H,RG⟩:=jb u HF HY H RG;clear u;obtain⟨z0,z1,z2,-⟩:=HZ.cj;have z3:=HY.c0;have m0:=HF.2 0;have m1:=HF.2 1;have m2:=HF.2 2;have m3:=H.2 0;clear d
       refine Th G ?_ (fun d=>?_)
       ·exact l.cj
       clear G K;refine T3 7 31 8 39 9 40 ?_;refine Tc 12 (fun K G=>?_);go_simp;refine Th G ?_ (fun m=>?_)
       ·(try dsimp only)
        have J:=l.tX (g:=M) O (by simp;omega) (.slice Xe Nv Nw) (.slice Xk Ny Nz) (.slice Xc Y Z);exact J.cj
       clear G K d;have d:=m;clear m;refine Tc 13 (fun K G=>?_);go_simp;refine Th G ?_ (fun m=>?_)
       ·(try dsimp only)
        have J:=l.o;have J:=J.set (a:=⟨M,0,none⟩) O (by simp;omega) (.slice Xe Nv Nw);have J:=J.set (a:=⟨M,1,none⟩) O (by simp;omega) (.slice Xk Ny Nz);have J:=J.set (a:=⟨M,2,none⟩) O (by simp;omega) (.slice Xc Y Z);have J:=J.set (a:=⟨gE,0,none⟩) NH (by simp;omega) (.int .i64 zx);exact J.cj
       clear G K d;have d:=m;clear m;refine Td ?_;clear d;have NC:=IC A NF NG N7 HN HF H z0 z1 z2 z3;clear z0 z1 z2 z3 m0 m1 m2 m3;go_wp2_with fail;go_meet;exact⟨M,gE,⟨kx,⟨Xe,Nv,Nw⟩,⟨Xk,Ny,Nz⟩,⟨Xc,Y,Z⟩⟩,zx,rfl,rfl,NC,NN⟩
     ·go_simp
      clear d;refine Th G ?_ (fun d=>?_)
      ·exact (l.alloc _).cj
      clear G K;obtain⟨gE,v5,U,O4,u,b0⟩:=Eo v4 (.int .i64 0) 43;have NG:=jy U A.o;have NH:=jy U l.below;have NZ:=fT U l.c0;have Ob:=fT U l.c2;have Od:=fT U l.c6;obtain⟨l,R,RX,L,B,C,A⟩:=Eb u l R RX L B C A;have HY:=ah ((Kept.a_ A).af b0);have H:=pu U O4;have NV:gE<v5.heap.size:=H.1;(try rw[← O4]at d);rw[← O4];rw[← U];clear U O4 u b0;refine wpAnyH_ready (rs:=[3,10]) (by kernel_rfl) (by simp) ?_;refine AllReadyH.cons (o:=⟨some 35,_,_,_,_,_⟩) rfl (fun K G=>?_) (AllReadyH.cons (o:=⟨some 10,_,_,_,_,_⟩) rfl (fun K G=>?_) (AllReadyH.nil))
      ·go_simp
       (go_at_call 49;refine (j6 t Ae Ak ne nk ce ck v5 xp xA xn xc O1 (by have:=N.o;omega) RX N.2.2 (by have:=N.o;omega) R).mono ?_);rintro e v6 ⟨Ge,gn,gc,Gk,gm,gd,rfl,NK,u⟩;rw[if_pos OA.o]at NK;have RG:ai (aF v6 v6.heap.size (aI t xp) ⟨Ge,gn,gc⟩ ⟨Gk,gm,gd⟩):=NK.rd;clear NK;obtain⟨l,R,RX,L,B,C,A,HY⟩:=lZ u l R RX L B C A HY;have H:=ah (H.later u);clear u;clear d;refine Th G ?_ (fun d=>?_)
       ·exact l.cj
       clear G K;refine wpAnyH_ready (rs:=[6,10]) (by kernel_rfl) (by simp) ?_;refine AllReadyH.cons (o:=⟨some 38,_,_,_,_,_⟩) rfl (fun K G=>?_) (AllReadyH.cons (o:=⟨some 10,_,_,_,_,_⟩) rfl (fun K G=>?_) (AllReadyH.nil))
       ·go_simp
        (go_at_call 48;refine (dX t xp xa xs xv xA xn xc a n Ge Gk gn gm gc gd v6 HT Om NT N2 RG).mono ?_);rintro e v7 ⟨kx,zx,Xe,Nv,Nw,Xk,Ny,Nz,Xc,Y,Z,rfl,NA,N_,u⟩;have HN:ai (dR v7 (fun b=>v3.heap.size≤b∧b≠gE) ⟨kx,⟨Xe,Nv,Nw⟩,⟨Xk,Ny,Nz⟩,⟨Xc,Y,Z⟩⟩):=dR.b_ NA (fun b hb _=>⟨aN A.size hb,by have h:=H.1;omega⟩);have NN:=ah N_.o;clear NA N_;obtain⟨l,R,RX,L,B,C,A,HY⟩:=lZ u l R RX L B C A HY;obtain⟨H,RG⟩:=gH u H RG;clear u;clear d;refine Th G ?_ (fun d=>?_)
        ·exact l.cj
        clear G K;refine T3 7 31 8 39 9 40 ?_;refine Tc 10 (fun K G=>?_);go_simp;clear d;refine Th G ?_ (fun d=>?_)
        ·exact (l.alloc _).cj
        clear G K;obtain⟨M,v8,Q,NJ,u,b0,b1,b2⟩:=rU v7 (.slice none 0 0) (.slice none 0 0) (.slice none 0 0) 42;have NF:=jy Q A.o;have O:=jy Q l.below;have NY:=fT Q l.c0;have Oa:=fT Q l.c2;have Oc:=fT Q l.c6
        have N7:M≠gE:=by have h:=H.1;omega
        have NW:¬gE=M:=fun h=>N7 h.symm;have HN:=ah (HN.mono (ok':=fun b=>v3.heap.size≤b∧b≠M∧b≠gE) (fun b hb Oz=>⟨hb.1,by omega,hb.2⟩));obtain⟨l,R,RX,L,B,C,A,HY⟩:=lZ u l R RX L B C A HY;obtain⟨H,RG,HN⟩:=kE u H RG HN;have HZ:=ah ((((Kept.a_ A).af b2).af b1).af b0);have HF:=pu Q NJ;have NU:M<v8.heap.size:=HF.1;(try rw[← NJ]at d);rw[← NJ];rw[← Q];clear Q NJ u b0 b1 b2;obtain⟨z0,z1,z2,-⟩:=HZ.cj;have z3:=HY.c0;have m0:=HF.2 0;have m1:=HF.2 1;have m2:=HF.2 2;have m3:=H.2 0;refine Tc 12 (fun K G=>?_);go_simp;refine Th G ?_ (fun m=>?_)
        ·(try dsimp only)
         have J:=l.tX (g:=M) O (by simp;omega) (.slice Xe Nv Nw) (.slice Xk Ny Nz) (.slice Xc Y Z);exact J.cj
        clear G K d;have d:=m;clear m;refine Tc 13 (fun K G=>?_);go_simp;refine Th G ?_ (fun m=>?_)
        ·(try dsimp only)
         have J:=l.o;have J:=J.set (a:=⟨M,0,none⟩) O (by simp;omega) (.slice Xe Nv Nw);have J:=J.set (a:=⟨M,1,none⟩) O (by simp;omega) (.slice Xk Ny Nz);have J:=J.set (a:=⟨M,2,none⟩) O (by simp;omega) (.slice Xc Y Z);have J:=J.set (a:=⟨gE,0,none⟩) NH (by simp;omega) (.int .i64 zx);exact J.cj
        clear G K d;have d:=m;clear m;refine Td ?_;clear d;have NC:=IC A NF NG N7 HN HF H z0 z1 z2 z3;clear z0 z1 z2 z3 m0 m1 m2 m3;go_wp2_with fail;go_meet;exact⟨M,gE,⟨kx,⟨Xe,Nv,Nw⟩,⟨Xk,Ny,Nz⟩,⟨Xc,Y,Z⟩⟩,zx,rfl,rfl,NC,NN⟩
       ·go_simp
        clear d;refine Th G ?_ (fun d=>?_)
        ·exact (l.alloc _).cj
        clear G K;obtain⟨M,v7,Q,NI,u,b0,b1,b2⟩:=rU v6 (.slice none 0 0) (.slice none 0 0) (.slice none 0 0) 42;have NF:=jy Q A.o;have O:=jy Q l.below;have NY:=fT Q l.c0;have Oa:=fT Q l.c2;have Oc:=fT Q l.c6
        have N7:M≠gE:=by have h:=H.1;omega
        have NW:¬gE=M:=fun h=>N7 h.symm;obtain⟨l,R,RX,L,B,C,A,HY⟩:=lZ u l R RX L B C A HY;obtain⟨H,RG⟩:=gH u H RG;have HZ:=ah ((((Kept.a_ A).af b2).af b1).af b0);have HF:=pu Q NI;have NU:M<v7.heap.size:=HF.1;(try rw[← NI]at d);rw[← NI];rw[← Q];clear Q NI u b0 b1 b2;refine Tc 6 (fun K G=>?_);go_simp;(go_at_call 48;refine (dX t xp xa xs xv xA xn xc a n Ge Gk gn gm gc gd v7 HT Om NT N2 RG).mono ?_);rintro e v8 ⟨kx,zx,Xe,Nv,Nw,Xk,Ny,Nz,Xc,Y,Z,rfl,NA,N_,u⟩;have HN:ai (dR v8 (fun b=>v3.heap.size≤b∧b≠M∧b≠gE) ⟨kx,⟨Xe,Nv,Nw⟩,⟨Xk,Ny,Nz⟩,⟨Xc,Y,Z⟩⟩):=dR.b_ NA (fun b hb _=>⟨aN A.size hb,by have h:=HF.1;omega,by have h:=H.1;omega⟩)
        have NN:=ah N_.o;clear NA N_;obtain⟨l,R,RX,L,B,C,A,HY⟩:=lZ u l R RX L B C A HY;obtain⟨H,RG,HZ,HF⟩:=jb u H RG HZ HF;clear u;obtain⟨z0,z1,z2,-⟩:=HZ.cj;have z3:=HY.c0;have m0:=HF.2 0;have m1:=HF.2 1;have m2:=HF.2 2;have m3:=H.2 0;clear d;refine Th G ?_ (fun d=>?_)
        ·exact l.cj
        clear G K;refine T3 7 31 8 39 9 40 ?_;refine Tc 12 (fun K G=>?_);go_simp;refine Th G ?_ (fun m=>?_)
        ·(try dsimp only)
         have J:=l.tX (g:=M) O (by simp;omega) (.slice Xe Nv Nw) (.slice Xk Ny Nz) (.slice Xc Y Z);exact J.cj
        clear G K d;have d:=m;clear m;refine Tc 13 (fun K G=>?_);go_simp;refine Th G ?_ (fun m=>?_)
        ·(try dsimp only)
         have J:=l.o;have J:=J.set (a:=⟨M,0,none⟩) O (by simp;omega) (.slice Xe Nv Nw);have J:=J.set (a:=⟨M,1,none⟩) O (by simp;omega) (.slice Xk Ny Nz);have J:=J.set (a:=⟨M,2,none⟩) O (by simp;omega) (.slice Xc Y Z);have J:=J.set (a:=⟨gE,0,none⟩) NH (by simp;omega) (.int .i64 zx);exact J.cj
        clear G K d;have d:=m;clear m;refine Td ?_;clear d;have NC:=IC A NF NG N7 HN HF H z0 z1 z2 z3;clear z0 z1 z2 z3 m0 m1 m2 m3;go_wp2_with fail;go_meet;exact⟨M,gE,⟨kx,⟨Xe,Nv,Nw⟩,⟨Xk,Ny,Nz⟩,⟨Xc,Y,Z⟩⟩,zx,rfl,rfl,NC,NN⟩
      ·go_simp
       clear d;refine Th G ?_ (fun d=>?_)
       ·exact (l.alloc _).cj
       clear G K;obtain⟨M,v6,Q,NQ,u,b0,b1,b2⟩:=rU v5 (.slice none 0 0) (.slice none 0 0) (.slice none 0 0) 42;have NF:=jy Q A.o;have O:=jy Q l.below;have NY:=fT Q l.c0;have Oa:=fT Q l.c2;have Oc:=fT Q l.c6
       have N7:M≠gE:=by have h:=H.1;omega
       have NW:¬gE=M:=fun h=>N7 h.symm;obtain⟨l,R,RX,L,B,C,A,HY⟩:=lZ u l R RX L B C A HY;have H:=ah (H.later u);have HZ:=ah ((((Kept.a_ A).af b2).af b1).af b0);have HF:=pu Q NQ;have NU:M<v6.heap.size:=HF.1;(try rw[← NQ]at d);rw[← NQ];rw[← Q];clear Q NQ u b0 b1 b2;refine Tc 3 (fun K G=>?_);go_simp;(go_at_call 49;refine (j6 t Ae Ak ne nk ce ck v6 xp xA xn xc O1 (by have:=N.o;omega) RX N.2.2 (by have:=N.o;omega) R).mono ?_);rintro e v7 ⟨Ge,gn,gc,Gk,gm,gd,rfl,NK,u⟩;rw[if_pos OA.o]at NK;have RG:ai (aF v7 v7.heap.size (aI t xp) ⟨Ge,gn,gc⟩ ⟨Gk,gm,gd⟩):=NK.rd;clear NK;obtain⟨l,R,RX,L,B,C,A,HY⟩:=lZ u l R RX L B C A HY;obtain⟨H,HZ,HF⟩:=kE u H HZ HF
       clear u;clear d;refine Th G ?_ (fun d=>?_)
       ·exact l.cj
       clear G K;refine Tc 6 (fun K G=>?_);go_simp;(go_at_call 48;refine (dX t xp xa xs xv xA xn xc a n Ge Gk gn gm gc gd v7 HT Om NT N2 RG).mono ?_);rintro e v8 ⟨kx,zx,Xe,Nv,Nw,Xk,Ny,Nz,Xc,Y,Z,rfl,NA,N_,u⟩;have HN:ai (dR v8 (fun b=>v3.heap.size≤b∧b≠M∧b≠gE) ⟨kx,⟨Xe,Nv,Nw⟩,⟨Xk,Ny,Nz⟩,⟨Xc,Y,Z⟩⟩):=dR.b_ NA (fun b hb _=>⟨aN A.size hb,by have h:=HF.1;omega,by have h:=H.1;omega⟩);have NN:=ah N_.o;clear NA N_;obtain⟨l,R,RX,L,B,C,A,HY⟩:=lZ u l R RX L B C A HY;obtain⟨H,HZ,HF,RG⟩:=jb u H HZ HF RG;clear u;obtain⟨z0,z1,z2,-⟩:=HZ.cj;have z3:=HY.c0;have m0:=HF.2 0;have m1:=HF.2 1;have m2:=HF.2 2;have m3:=H.2 0;clear d
       refine Th G ?_ (fun d=>?_)
       ·exact l.cj
       clear G K;refine T3 7 31 8 39 9 40 ?_;refine Tc 12 (fun K G=>?_);go_simp;refine Th G ?_ (fun m=>?_)
       ·(try dsimp only)
        have J:=l.tX (g:=M) O (by simp;omega) (.slice Xe Nv Nw) (.slice Xk Ny Nz) (.slice Xc Y Z);exact J.cj
       clear G K d;have d:=m;clear m;refine Tc 13 (fun K G=>?_);go_simp;refine Th G ?_ (fun m=>?_)
       ·(try dsimp only)
        have J:=l.o;have J:=J.set (a:=⟨M,0,none⟩) O (by simp;omega) (.slice Xe Nv Nw);have J:=J.set (a:=⟨M,1,none⟩) O (by simp;omega) (.slice Xk Ny Nz);have J:=J.set (a:=⟨M,2,none⟩) O (by simp;omega) (.slice Xc Y Z);have J:=J.set (a:=⟨gE,0,none⟩) NH (by simp;omega) (.int .i64 zx);exact J.cj
       clear G K d;have d:=m;clear m;refine Td ?_;clear d;have NC:=IC A NF NG N7 HN HF H z0 z1 z2 z3;clear z0 z1 z2 z3 m0 m1 m2 m3;go_wp2_with fail;go_meet;exact⟨M,gE,⟨kx,⟨Xe,Nv,Nw⟩,⟨Xk,Ny,Nz⟩,⟨Xc,Y,Z⟩⟩,zx,rfl,rfl,NC,NN⟩
    case rest=>
     obtain⟨Qz,Qv⟩:∃ W,W=wc:=⟨_,rfl⟩;subst Qv;obtain⟨M,gE,⟨kx,⟨Xe,Nv,Nw⟩,⟨Xk,Ny,Nz⟩,⟨Xc,Y,Z⟩⟩,zx,rfl,rfl,Pq,N_⟩:=hcut;obtain⟨hvD,hvE,Q9,Qt,PS,Qo,Qp⟩:=Pq.o;have u:=PS.below;obtain⟨l,R,RX,L,B,C⟩:=pO u l R RX L B C;clear u;have NN:=ah N_.o;have Pb:=ah Qt;have O9:=ah PS;have NM:=ah Qo;have H:=ah Qp;have hDE2:¬gE=M:=fun h=>Q9 h.symm;have Qu:r<v3.heap.size∧g<v3.heap.size:=⟨Qc.1,Qb.1⟩;clear N_ Pq Qt PS Qo Qp;obtain⟨c0,c1,c2,c3,c4,c5,c6,c7,-⟩:=l.cj;go_wp2_with fail;refine (rW xA xn xc Qz).mono ?_;rintro e w7 ⟨rfl,rfl⟩;obtain⟨gB,W8,PO,PG,u,iB⟩:=Eo Qz (.slice xA xn xc) 25
     have hs8:W8.heap.size=gB+1:=by rw[PG,PO];simp
     have N8:p<M∧q<M∧r<M∧g<M∧M<gB∧gE<gB∧p<gE∧q<gE∧r<gE∧g<gE∧w.heap.size≤M∧w.heap.size≤gE:=by
      have h1:=NM.1;have h2:=H.1;have h3:=Qu.1;have h4:=Qu.2;omega
     have Pb:=ah (dR.later Pb u);obtain⟨O9,NM,H,l,R,RX,L,B⟩:=lZ u O9 NM H l R RX L B;have C:=ah (C.later u);clear u;clear c0 c1 c2 c3 c4 c5 c6 c7;rw[← PO,← PG];clear PO PG;go_wp2_with fail;have O5:=l.below
     have I0:L_ w [(⟨p,0,none⟩,.slice Ae ne ce),(⟨p,1,none⟩,.slice Ak nk ck),(⟨q,0,none⟩,.slice xA xn xc),(⟨gB,0,none⟩,.slice xA xn xc)] r g M gE (KE t ⟨xp,xa,xs,xv⟩ (a,n) xn []) W8:=by
      have h1:=NN.o;have h2:xp.length=xn:=O1.o;refine⟨⟨kx,⟨Xe,Nv,Nw⟩,⟨Xk,Ny,Nz⟩,⟨Xc,Y,Z⟩⟩,zx,⟨⟨?_,h1.len⟩,fun _=>?_⟩,Pb.mono fun b hb _=>?_,?_,B,C,NM,H⟩
      ·have h3:=h1.nodes Om
       simpa using h3
      ·show gF t ⟨xp,xa,xs,xv⟩ (a,n) (xn-0) kx zx
       rw[Nat.sub_zero,← h2];exact h1
      ·obtain⟨h3,h4,h5⟩:=hb
       exact⟨by omega,by omega,by omega,h4,h5⟩
      ·exact (((((((((((((Kept.a_ O5).af iB).af l.c2).af l.c1).af l.c0).af L.c3).af L.c2).af L.c1).af L.c0).af O9.c3).af O9.c2).af O9.c1).af O9.c0)
     have Pe:fF w.heap.size W8 xA xn (fun j=>xp[j]?.getD ByteArray.empty):=(fF.xG OE).below O5;have hx3:=Q7.o;have Ps:w.heap.size≤W8.heap.size:=O5.size;have PZ:ai (∀ (i:Nat) (W:World),i≤xn→(Instr.slice 25 (.slice xA xn xc) none (some (.int .i64 (i:Nat))) none).run Tryz.prog W = .ok (.slice xA i xc) W):=fun i W hi=>wP xA xn xc i (aN hi OE.cap) W;have Oy:=ah (aF.more O5.size _ (aF.below Pn O5));have HRX8:=ah ((OE.below O5).more O5.size);clear NN Pb O9 NM H l L B C R RX;refine (wpIn_wide (n:=6)).1 ?_
     refine' wpIn_rangeFunc_ownG (F:=Fence.wide) (n:=6) rfl (by omega) (gf:=104) (lb:=#[.pointer (some ⟨gB,0,none⟩)]) rfl trivial (enters_of Tryz.func104 (by kernel_rfl) rfl)
      (vT Fence.wide 5 trivial rfl (by omega) gB w.heap.size xn xc xA (fun j=>xp[j]?.getD ByteArray.empty) (by omega) W8 (by omega) (by omega) iB Pe) Gg (LF (by omega) (by omega)) (bN) (fun _=>rfl)
      (fun pre W=>L_ w [(⟨p,0,none⟩,.slice Ae ne ce),(⟨p,1,none⟩,.slice Ak nk ck),(⟨q,0,none⟩,.slice xA xn xc),(⟨gB,0,none⟩,.slice xA xn xc)] r g M gE (KE t ⟨xp,xa,xs,xv⟩ (a,n) xn pre) W∧av w W)
      (fun c pre W=>∃ z:Int,c = .ret∧¬z=0∧(iy xn pre→z=er)∧Kept [(⟨r,0,none⟩,.slice none 0 0),(⟨r,1,none⟩,.slice none 0 0),(⟨r,2,none⟩,.slice none 0 0),(⟨g,0,none⟩,.int .i64 z)] w W)
      (fun pre W W' PX hs hg hr=>by
       have Pf:=ownFrom_below (β:=Unit) (n₀:=w.heap.size) (w₀:=w) (bG) Ps () W W' PX hs.2 hg hr
       exact⟨L_.grown hs.1 hg (fun r' e=>(hr r' e).2) Pf,Pf⟩)
      (fun c pre W W' PX hs hg hr=>by
       obtain⟨z,h1,h2,h3,h4⟩:=hs;have Pf:=ownFrom_below (β:=Unit) (n₀:=w.heap.size) (w₀:=w) (bG) Ps () W W' PX h4.below hg hr
       exact⟨z,h1,h2,h3,Kept.grown h4 hg (fun r' e=>(hr r' e).2) Pf⟩)
      ⟨I0,O5⟩ _ ?assign ?body ?done ?stop
     case assign=>
      intro l' x W K G
      gi_wp2
      exact G
     case body=>
      rintro l' pre ⟨i,hi⟩ V ⟨⟨⟨kd,⟨De,Ou,Ov⟩,⟨Dk,Ow,Ox⟩,⟨Dc,Oo,Ot⟩⟩,zd,hU,hN,G,OU,OV,Pg,Ph⟩,hB⟩ Oz
      have Qw:i<xp.length:=by rw[O1.o];exact hi
      obtain⟨OY,OW⟩:∃ k,k=xp[i]:=⟨_,rfl⟩
      have Qq:xp[i]?.getD ByteArray.empty=OY:=by rw[vw Qw,OW];rfl
      simp only[Qq];have N9:ai (Kept [(⟨M,0,none⟩,.slice De Ou Ov),(⟨M,1,none⟩,.slice Dk Ow Ox),(⟨M,2,none⟩,.slice Dc Oo Ot),(⟨gE,0,none⟩,.int .i64 zd),(⟨r,0,none⟩,.slice none 0 0),(⟨r,1,none⟩,.slice none 0 0),(⟨r,2,none⟩,.slice none 0 0),(⟨g,0,none⟩,.int .i64 0),(⟨p,0,none⟩,.slice Ae ne ce),(⟨p,1,none⟩,.slice Ak nk ck),(⟨q,0,none⟩,.slice xA xn xc),(⟨gB,0,none⟩,.slice xA xn xc)] w V):=G;have NS:=ah hN;have HU:=ah hU;have B:=ah OU;have C:=ah OV;have NM:=ah Pg;have H:=ah Ph;have l:ai (Kept [(⟨r,0,none⟩,.slice none 0 0),(⟨r,1,none⟩,.slice none 0 0),(⟨r,2,none⟩,.slice none 0 0),(⟨g,0,none⟩,.int .i64 0),(⟨p,0,none⟩,.slice Ae ne ce),(⟨p,1,none⟩,.slice Ak nk ck),(⟨q,0,none⟩,.slice xA xn xc),(⟨gB,0,none⟩,.slice xA xn xc)] w V):=N9.tail.tail.tail.tail
      have Q5:=ah OW;have HB:=ah hB;have Qg:=ah Oz;have HI:=ah hi;clear G hN hU OU OV Pg Ph Qq OW hB I0 Pe Oz iB
      by_cases hz:zd=0
      ·subst hz
       have e0:=N9.c3
       gi_wp2
       clear e0
       have OG:ai (nodes kd.1≤8∧Oo≤964):=by
        have h1:=HU.1;have h2:=NS.len;have h3:=Qg.o;have h4:=N2.o;dsimp only at h2;unfold ai;omega
       obtain⟨x,hx⟩:∃ x,x=aI t (xp.take i):=⟨_,rfl⟩;obtain⟨ky,PU⟩:∃ k,vk x OY kd=k:=⟨_,rfl⟩;obtain⟨zy,PW⟩:∃ z,rP x OY kd=z:=⟨_,rfl⟩
       have Qi:ai (KE t ⟨xp,xa,xs,xv⟩ (a,n) xn (pre++[⟨i,hi⟩]) ky zy):=by
        have h:=KE.step (x:=⟨i,hi⟩) HT Om HD O1 HU Qw Qg.o;dsimp only at h;rw[← hx,← Q5.o,PU,PW]at h;exact h
       have HX:=ah hx;have Qd:=ah PU;have Qk:=ah PW
       have Pd:ai (nodes x≤240):=ah (by rw[hx];exact aN (fO t _) N2)
       have OT:=fun W=>PZ.o i W (oW hi);have Oq:=ah (aF.more HB.size _ (aF.below Pn HB));have NR:=ah ((OE.below HB).more HB.size)
       have Qf:ai ((xp.take i).length=i):=ah (by rw[l7];omega)
       clear hx PU PW;have Qe:ai (V.cell? ⟨gB,0,none⟩=some (.slice xA xn xc)):=l.c7;refine Rnd.wV (S:=eB _) (by kernel_rfl) (by kernel_rfl) (fun ⟨_,_,h⟩=>h) l.drew.cj (fun d=>?_);obtain⟨v1,O7,u⟩:=mW V;obtain⟨l,N9,NS,B,C,NM,H,Oq⟩:=lZ u l N9 NS B C NM H Oq;have NR:=ah (NR.later u);have A:=ah u;clear u;rw[← O7]at d ⊢;clear O7;obtain⟨d0,d1,d2,-⟩:=N9.cj;refine T4 0 51 1 52 2 53 3 54 ?_;refine T2 4 55 6 57 ?_;refine wpAnyH_ready (rs:=[5,7]) (by kernel_rfl) (by simp) ?_;refine AllReadyH.cons (o:=⟨some 56,_,_,_,_,_⟩) rfl (fun K G=>?_) (AllReadyH.cons (o:=⟨some 58,_,_,_,_,_⟩) rfl (fun K G=>?_) (AllReadyH.nil))
       ·go_simp
        clear d0 d1 d2;(go_at_call 49;refine (j6 t Ae Ak ne nk ce ck v1 (xp.take i) xA i xc Qf (by omega) (Bo NR (oW HI)) N.2.2 (by have:=N.o;omega) Oq).mono ?_);rintro e v2 ⟨Ge,gn,gc,Gk,gm,gd,rfl,NK,u⟩;rw[if_pos OA.o,← HX.o]at NK;have RG:ai (aF v2 v2.heap.size x ⟨Ge,gn,gc⟩ ⟨Gk,gm,gd⟩):=NK.rd;clear NK;obtain⟨l,N9,NS,B,C,NM,H,Oq⟩:=lZ u l N9 NS B C NM H Oq;obtain⟨NR,A⟩:=gH u NR A;clear u;obtain⟨d0,d1,d2,-⟩:=N9.cj;clear d;refine Th G ?_ (fun d=>?_)
        ·exact l.cj
        clear G K;refine Tc 7 (fun K G=>?_);go_simp;clear d;refine Th G ?_ (fun d=>?_)
        ·exact l.cj
        clear G K;clear d0 d1 d2;refine Tc 8 (fun K G=>?_);go_simp;(go_at_call 51;refine (y9 x Ge Gk gn gm gc gd OY kd De Dk Dc Ou Ov Ow Ox Oo Ot v2 (LenT.few (by have:=Pd.o;omega)) (by have:=Pd.o;omega) RG (LenT.few (by have:=OG.o;omega)) (by have:=OG.o;omega) (by have:=OG.o;omega) NS.rd).mono ?_);rw[Qd.o,Qk.o];rintro e v3 ⟨Ye,Oh,Oi,Yk,Oj,Ol,Yc,Oe,Og,rfl,NA,u⟩;have P9:ai (dR v3 (fun b=>v2.heap.size≤b) ⟨ky,⟨Ye,Oh,Oi⟩,⟨Yk,Oj,Ol⟩,⟨Yc,Oe,Og⟩⟩):=dR.b_ NA (fun b hb _=>hb);have PE:ai (w.heap.size≤v2.heap.size∧r<v2.heap.size∧g<v2.heap.size∧M<v2.heap.size∧gE<v2.heap.size):=⟨l.below.size,B.1,C.1,NM.1,H.1⟩;clear NA;obtain⟨l,N9,NS,B,C,NM,H,Oq⟩:=lZ u l N9 NS B C NM H Oq
        obtain⟨NR,A,RG⟩:=kE u NR A RG;clear u;obtain⟨z0,z1,z2,z3,-⟩:=N9.cj;have m0:=NM.2 0;have m1:=NM.2 1;have m2:=NM.2 2;have m3:=H.2 0;clear d;refine Th G ?_ (fun d=>?_)
        ·exact l.cj
        clear G K;refine T3 9 50 10 60 11 61 ?_;refine Tc 12 (fun K G=>?_);go_simp;refine Th G ?_ (fun m=>?_)
        ·(try dsimp only)
         have J:=l.o;have J:=J.set (a:=⟨M,0,none⟩) N8.2.2.2.2.2.2.2.2.2.2.1 (by simp;omega) (.slice Ye Oh Oi);have J:=J.set (a:=⟨M,1,none⟩) N8.2.2.2.2.2.2.2.2.2.2.1 (by simp;omega) (.slice Yk Oj Ol);have J:=J.set (a:=⟨M,2,none⟩) N8.2.2.2.2.2.2.2.2.2.2.1 (by simp;omega) (.slice Yc Oe Og);exact J.cj
        clear G K d;have d:=m;clear m;refine Tc 13 (fun K G=>?_);go_simp;refine Th G ?_ (fun m=>?_)
        ·(try dsimp only)
         have J:=l.o;have J:=J.set (a:=⟨M,0,none⟩) N8.2.2.2.2.2.2.2.2.2.2.1 (by simp;omega) (.slice Ye Oh Oi);have J:=J.set (a:=⟨M,1,none⟩) N8.2.2.2.2.2.2.2.2.2.2.1 (by simp;omega) (.slice Yk Oj Ol);have J:=J.set (a:=⟨M,2,none⟩) N8.2.2.2.2.2.2.2.2.2.2.1 (by simp;omega) (.slice Yc Oe Og);have J:=J.set (a:=⟨gE,0,none⟩) N8.2.2.2.2.2.2.2.2.2.2.2 (by simp;omega) (.int .i64 zy);exact J.cj
        clear G K d;have d:=m;clear m;refine Td ?_;clear d;obtain⟨W7,NE⟩:∃ W,W=(((v3.setCell ⟨M,0,none⟩ (.slice Ye Oh Oi)).setCell ⟨M,1,none⟩ (.slice Yk Oj Ol)).setCell ⟨M,2,none⟩ (.slice Yc Oe Og)):=⟨_,rfl⟩;obtain⟨W9,X⟩:∃ W,W=W7.setCell ⟨gE,0,none⟩ (.int .i64 zy):=⟨_,rfl⟩;rw[← NE,← X]
        have OL:ai (KeepsFrom W8.heap.size V W9):=by
         unfold ai;rw[X,NE];exact ((((oH A).trans (bX _ _ _)).trans (bX _ _ _)).trans (bX _ _ _)).trans (bX _ _ _)
        have OJ:ai (Below w.heap.size V W9):=by
         unfold ai;rw[X,NE];exact ((((A.mono HB.size).setCell (p:=⟨M,0,none⟩) N8.2.2.2.2.2.2.2.2.2.2.1 _).setCell (p:=⟨M,1,none⟩) N8.2.2.2.2.2.2.2.2.2.2.1 _).setCell (p:=⟨M,2,none⟩) N8.2.2.2.2.2.2.2.2.2.2.1 _).setCell (p:=⟨gE,0,none⟩) N8.2.2.2.2.2.2.2.2.2.2.2 _
        have Pv:ai (av w W9):=HB.trans OJ
        have O_:ai (Kept [(⟨r,0,none⟩,.slice none 0 0),(⟨r,1,none⟩,.slice none 0 0),(⟨r,2,none⟩,.slice none 0 0),(⟨g,0,none⟩,.int .i64 0),(⟨p,0,none⟩,.slice Ae ne ce),(⟨p,1,none⟩,.slice Ak nk ck),(⟨q,0,none⟩,.slice xA xn xc),(⟨gB,0,none⟩,.slice xA xn xc)] w W9):=by
         unfold ai;rw[X,NE];(try dsimp only);have J:=l.o;have J:=J.set (a:=⟨M,0,none⟩) N8.2.2.2.2.2.2.2.2.2.2.1 (by simp;omega) (.slice Ye Oh Oi);have J:=J.set (a:=⟨M,1,none⟩) N8.2.2.2.2.2.2.2.2.2.2.1 (by simp;omega) (.slice Yk Oj Ol);have J:=J.set (a:=⟨M,2,none⟩) N8.2.2.2.2.2.2.2.2.2.2.1 (by simp;omega) (.slice Yc Oe Og);have J:=J.set (a:=⟨gE,0,none⟩) N8.2.2.2.2.2.2.2.2.2.2.2 (by simp;omega) (.int .i64 zy);exact J
        have q0:W9.cell? ⟨M,0,none⟩=some (.slice Ye Oh Oi):=by rw[X,NE];go_simp
        have q1:W9.cell? ⟨M,1,none⟩=some (.slice Yk Oj Ol):=by rw[X,NE];go_simp
        have q2:W9.cell? ⟨M,2,none⟩=some (.slice Yc Oe Og):=by rw[X,NE];go_simp
        have q3:W9.cell? ⟨gE,0,none⟩=some (.int .i64 zy):=by rw[X,NE];go_simp
        have OM:ai (dR W9 (fun b=>w.heap.size≤b∧b≠r∧b≠g∧b≠M∧b≠gE) ⟨ky,⟨Ye,Oh,Oi⟩,⟨Yk,Oj,Ol⟩,⟨Yc,Oe,Og⟩⟩):=by
         have h:=PE.o;refine (dR.keep P9 (w':=W9) (by rw[X,NE];simp[World.setCell]) (fun b hb _=>?_)).mono fun b hb _=>⟨by omega,by omega,by omega,by omega,by omega⟩;rw[X,NE];exact (cZ _ ⟨gE,0,none⟩ _ b (fun e=>by have h2:b=gE:=e;omega)).trans (bR b (by omega))
        have O0:ai (aA r W9∧aA g W9∧aA M W9∧aA gE W9):=by
         unfold ai;rw[X,NE];exact⟨(((B.set _ _).set _ _).set _ _).set _ _,(((C.set _ _).set _ _).set _ _).set _ _,(((NM.set _ _).set _ _).set _ _).set _ _,(((H.set _ _).set _ _).set _ _).set _ _⟩
        have Pt:ai (L_ w [(⟨p,0,none⟩,.slice Ae ne ce),(⟨p,1,none⟩,.slice Ak nk ck),(⟨q,0,none⟩,.slice xA xn xc),(⟨gB,0,none⟩,.slice xA xn xc)] r g M gE (KE t ⟨xp,xa,xs,xv⟩ (a,n) xn (pre++[⟨i,hi⟩])) W9):=
         ⟨⟨ky,⟨Ye,Oh,Oi⟩,⟨Yk,Oj,Ol⟩,⟨Yc,Oe,Og⟩⟩,zy,Qi,OM,(((O_.af q3).af q2).af q1).af q0,O0.1,O0.2.1,O0.2.2.1,O0.2.2.2⟩
        have Py:ai (W9.cell? ⟨gB,0,none⟩=V.cell? ⟨gB,0,none⟩):=O_.c7.trans Qe.symm;clear z0 z1 z2 z3 m0 m1 m2 m3 q0 q1 q2 q3 OT X NE
        gi_wp2
        exact⟨OL,⟨OJ,Py⟩,Pt,Pv⟩
       ·go_simp
        clear d;refine Th G ?_ (fun d=>?_)
        ·exact l.cj
        clear G K;clear d0 d1 d2;refine Tc 5 (fun K G=>?_);go_simp;(go_at_call 49;refine (j6 t Ae Ak ne nk ce ck v1 (xp.take i) xA i xc Qf (by omega) (Bo NR (oW HI)) N.2.2 (by have:=N.o;omega) Oq).mono ?_);rintro e v2 ⟨Ge,gn,gc,Gk,gm,gd,rfl,NK,u⟩;rw[if_pos OA.o,← HX.o]at NK;have RG:ai (aF v2 v2.heap.size x ⟨Ge,gn,gc⟩ ⟨Gk,gm,gd⟩):=NK.rd;clear NK;obtain⟨l,N9,NS,B,C,NM,H,Oq⟩:=lZ u l N9 NS B C NM H Oq;obtain⟨NR,A⟩:=gH u NR A;clear u;clear d;refine Th G ?_ (fun d=>?_)
        ·exact l.cj
        clear G K;refine Tc 8 (fun K G=>?_);go_simp;(go_at_call 51;refine (y9 x Ge Gk gn gm gc gd OY kd De Dk Dc Ou Ov Ow Ox Oo Ot v2 (LenT.few (by have:=Pd.o;omega)) (by have:=Pd.o;omega) RG (LenT.few (by have:=OG.o;omega)) (by have:=OG.o;omega) (by have:=OG.o;omega) NS.rd).mono ?_);rw[Qd.o,Qk.o];rintro e v3 ⟨Ye,Oh,Oi,Yk,Oj,Ol,Yc,Oe,Og,rfl,NA,u⟩;have P9:ai (dR v3 (fun b=>v2.heap.size≤b) ⟨ky,⟨Ye,Oh,Oi⟩,⟨Yk,Oj,Ol⟩,⟨Yc,Oe,Og⟩⟩):=dR.b_ NA (fun b hb _=>hb);have PE:ai (w.heap.size≤v2.heap.size∧r<v2.heap.size∧g<v2.heap.size∧M<v2.heap.size∧gE<v2.heap.size):=⟨l.below.size,B.1,C.1,NM.1,H.1⟩;clear NA;obtain⟨l,N9,NS,B,C,NM,H,Oq⟩:=lZ u l N9 NS B C NM H Oq
        obtain⟨NR,A,RG⟩:=kE u NR A RG;clear u;obtain⟨z0,z1,z2,z3,-⟩:=N9.cj;have m0:=NM.2 0;have m1:=NM.2 1;have m2:=NM.2 2;have m3:=H.2 0;clear d;refine Th G ?_ (fun d=>?_)
        ·exact l.cj
        clear G K;refine T3 9 50 10 60 11 61 ?_;refine Tc 12 (fun K G=>?_);go_simp;refine Th G ?_ (fun m=>?_)
        ·(try dsimp only)
         have J:=l.o;have J:=J.set (a:=⟨M,0,none⟩) N8.2.2.2.2.2.2.2.2.2.2.1 (by simp;omega) (.slice Ye Oh Oi);have J:=J.set (a:=⟨M,1,none⟩) N8.2.2.2.2.2.2.2.2.2.2.1 (by simp;omega) (.slice Yk Oj Ol);have J:=J.set (a:=⟨M,2,none⟩) N8.2.2.2.2.2.2.2.2.2.2.1 (by simp;omega) (.slice Yc Oe Og);exact J.cj
        clear G K d;have d:=m;clear m;refine Tc 13 (fun K G=>?_);go_simp;refine Th G ?_ (fun m=>?_)
        ·(try dsimp only)
         have J:=l.o;have J:=J.set (a:=⟨M,0,none⟩) N8.2.2.2.2.2.2.2.2.2.2.1 (by simp;omega) (.slice Ye Oh Oi);have J:=J.set (a:=⟨M,1,none⟩) N8.2.2.2.2.2.2.2.2.2.2.1 (by simp;omega) (.slice Yk Oj Ol);have J:=J.set (a:=⟨M,2,none⟩) N8.2.2.2.2.2.2.2.2.2.2.1 (by simp;omega) (.slice Yc Oe Og);have J:=J.set (a:=⟨gE,0,none⟩) N8.2.2.2.2.2.2.2.2.2.2.2 (by simp;omega) (.int .i64 zy);exact J.cj
        clear G K d;have d:=m;clear m;refine Td ?_;clear d;obtain⟨W7,NE⟩:∃ W,W=(((v3.setCell ⟨M,0,none⟩ (.slice Ye Oh Oi)).setCell ⟨M,1,none⟩ (.slice Yk Oj Ol)).setCell ⟨M,2,none⟩ (.slice Yc Oe Og)):=⟨_,rfl⟩;obtain⟨W9,X⟩:∃ W,W=W7.setCell ⟨gE,0,none⟩ (.int .i64 zy):=⟨_,rfl⟩;rw[← NE,← X]
        have OL:ai (KeepsFrom W8.heap.size V W9):=by
         unfold ai;rw[X,NE];exact ((((oH A).trans (bX _ _ _)).trans (bX _ _ _)).trans (bX _ _ _)).trans (bX _ _ _)
        have OJ:ai (Below w.heap.size V W9):=by
         unfold ai;rw[X,NE];exact ((((A.mono HB.size).setCell (p:=⟨M,0,none⟩) N8.2.2.2.2.2.2.2.2.2.2.1 _).setCell (p:=⟨M,1,none⟩) N8.2.2.2.2.2.2.2.2.2.2.1 _).setCell (p:=⟨M,2,none⟩) N8.2.2.2.2.2.2.2.2.2.2.1 _).setCell (p:=⟨gE,0,none⟩) N8.2.2.2.2.2.2.2.2.2.2.2 _
        have Pv:ai (av w W9):=HB.trans OJ
        have O_:ai (Kept [(⟨r,0,none⟩,.slice none 0 0),(⟨r,1,none⟩,.slice none 0 0),(⟨r,2,none⟩,.slice none 0 0),(⟨g,0,none⟩,.int .i64 0),(⟨p,0,none⟩,.slice Ae ne ce),(⟨p,1,none⟩,.slice Ak nk ck),(⟨q,0,none⟩,.slice xA xn xc),(⟨gB,0,none⟩,.slice xA xn xc)] w W9):=by
         unfold ai;rw[X,NE];(try dsimp only);have J:=l.o;have J:=J.set (a:=⟨M,0,none⟩) N8.2.2.2.2.2.2.2.2.2.2.1 (by simp;omega) (.slice Ye Oh Oi);have J:=J.set (a:=⟨M,1,none⟩) N8.2.2.2.2.2.2.2.2.2.2.1 (by simp;omega) (.slice Yk Oj Ol);have J:=J.set (a:=⟨M,2,none⟩) N8.2.2.2.2.2.2.2.2.2.2.1 (by simp;omega) (.slice Yc Oe Og);have J:=J.set (a:=⟨gE,0,none⟩) N8.2.2.2.2.2.2.2.2.2.2.2 (by simp;omega) (.int .i64 zy);exact J
        have q0:W9.cell? ⟨M,0,none⟩=some (.slice Ye Oh Oi):=by rw[X,NE];go_simp
        have q1:W9.cell? ⟨M,1,none⟩=some (.slice Yk Oj Ol):=by rw[X,NE];go_simp
        have q2:W9.cell? ⟨M,2,none⟩=some (.slice Yc Oe Og):=by rw[X,NE];go_simp
        have q3:W9.cell? ⟨gE,0,none⟩=some (.int .i64 zy):=by rw[X,NE];go_simp
        have OM:ai (dR W9 (fun b=>w.heap.size≤b∧b≠r∧b≠g∧b≠M∧b≠gE) ⟨ky,⟨Ye,Oh,Oi⟩,⟨Yk,Oj,Ol⟩,⟨Yc,Oe,Og⟩⟩):=by
         have h:=PE.o;refine (dR.keep P9 (w':=W9) (by rw[X,NE];simp[World.setCell]) (fun b hb _=>?_)).mono fun b hb _=>⟨by omega,by omega,by omega,by omega,by omega⟩;rw[X,NE];exact (cZ _ ⟨gE,0,none⟩ _ b (fun e=>by have h2:b=gE:=e;omega)).trans (bR b (by omega))
        have O0:ai (aA r W9∧aA g W9∧aA M W9∧aA gE W9):=by
         unfold ai;rw[X,NE];exact⟨(((B.set _ _).set _ _).set _ _).set _ _,(((C.set _ _).set _ _).set _ _).set _ _,(((NM.set _ _).set _ _).set _ _).set _ _,(((H.set _ _).set _ _).set _ _).set _ _⟩
        have Pt:ai (L_ w [(⟨p,0,none⟩,.slice Ae ne ce),(⟨p,1,none⟩,.slice Ak nk ck),(⟨q,0,none⟩,.slice xA xn xc),(⟨gB,0,none⟩,.slice xA xn xc)] r g M gE (KE t ⟨xp,xa,xs,xv⟩ (a,n) xn (pre++[⟨i,hi⟩])) W9):=
         ⟨⟨ky,⟨Ye,Oh,Oi⟩,⟨Yk,Oj,Ol⟩,⟨Yc,Oe,Og⟩⟩,zy,Qi,OM,(((O_.af q3).af q2).af q1).af q0,O0.1,O0.2.1,O0.2.2.1,O0.2.2.2⟩
        have Py:ai (W9.cell? ⟨gB,0,none⟩=V.cell? ⟨gB,0,none⟩):=O_.c7.trans Qe.symm;clear z0 z1 z2 z3 m0 m1 m2 m3 q0 q1 q2 q3 OT X NE
        gi_wp2
        exact⟨OL,⟨OJ,Py⟩,Pt,Pv⟩
      ·have Qj:ai (¬zd=0):=hz
       have f0:(zd != 0)=true:=by simpa using hz
       clear hz;have e0:=N9.c3
       gi_wp2
       have HKc0:=l;clear l;have l:=ah ((Kept.a_ N9.below).af N9.c3);clear e0;refine Rnd.wV (S:=fun W=>W.cell? ⟨gE,0,none⟩=some (.int .i64 zd)) (by kernel_rfl) (by kernel_rfl) (fun ⟨_,_,h⟩=>h) (by have J:=l.drew;exact J.c0) (fun d=>?_);obtain⟨v1,O7,u⟩:=mW V;obtain⟨l,N9,B,C⟩:=jb u l N9 B C;have A:=ah u;clear u;rw[← O7]at d ⊢;clear O7;have z0:=N9.c4;have z1:=N9.c5;have z2:=N9.c6;have z3:=N9.c7;have m0:=B.2 0;have m1:=B.2 1;have m2:=B.2 2;have m3:=C.2 0;refine T2 0 48 1 49 ?_;refine Tc 2 (fun K G=>?_);go_simp;refine Th G ?_ (fun m=>?_)
       ·(try dsimp only)
        have J:=l.tX (g:=r) NP (by simp;omega) (.slice none 0 0) (.slice none 0 0) (.slice none 0 0);exact J.c0
       clear G K d;have d:=m;clear m;refine Tc 3 (fun K G=>?_);go_simp;refine Th G ?_ (fun m=>?_)
       ·(try dsimp only)
        have J:=l.o;have J:=J.set (a:=⟨r,0,none⟩) NP (by simp;omega) (.slice none 0 0);have J:=J.set (a:=⟨r,1,none⟩) NP (by simp;omega) (.slice none 0 0);have J:=J.set (a:=⟨r,2,none⟩) NP (by simp;omega) (.slice none 0 0);have J:=J.set (a:=⟨g,0,none⟩) OD (by simp;omega) (.int .i64 zd);exact J.c0
       clear G K d;have d:=m;clear m;refine Td ?_;clear d;obtain⟨W9,X⟩:∃ W,W=((((v1.setCell ⟨r,0,none⟩ (.slice none 0 0)).setCell ⟨r,1,none⟩ (.slice none 0 0)).setCell ⟨r,2,none⟩ (.slice none 0 0)).setCell ⟨g,0,none⟩ (.int .i64 zd)):=⟨_,rfl⟩
       have OL:ai (KeepsFrom W8.heap.size V W9):=by
        unfold ai;rw[X];exact ((((oH A).trans (bX _ _ _)).trans (bX _ _ _)).trans (bX _ _ _)).trans (bX _ _ _)
       have OQ:av w W9:=by
        rw[X];exact (((N9.below.setCell (p:=⟨r,0,none⟩) NP _).setCell (p:=⟨r,1,none⟩) NP _).setCell (p:=⟨r,2,none⟩) NP _).setCell (p:=⟨g,0,none⟩) OD _
       have O_:ai (Kept [(⟨r,0,none⟩,.slice none 0 0),(⟨r,1,none⟩,.slice none 0 0),(⟨r,2,none⟩,.slice none 0 0),(⟨g,0,none⟩,.int .i64 zd)] w W9):=by
        refine ((((Kept.a_ OQ).af ?_).af ?_).af ?_).af ?_ <;> (rw[X];go_simp)
       have Q0:ai (iy xn (pre++[⟨i,hi⟩])→zd=er):=fun h=>by
        obtain⟨h1,h2,h3⟩:=(HU.2 h.pre.1).full Qj.o;rw[Px.o,if_pos h3];exact h1
       have OB:=ah X;clear X z0 z1 z2 z3 m0 m1 m2 m3 OQ
       gi_wp2
       rw[← OB.o];exact⟨OL,zd,rfl,Qj,Q0,O_⟩
     case done=>
      rintro D ys V hD ⟨Ql,Pp⟩ ⟨⟨⟨kd,⟨De,Ou,Ov⟩,⟨Dk,Ow,Ox⟩,⟨Dc,Oo,Ot⟩⟩,zd,hU,hN,G,OU,OV,Pg,Ph⟩,hB⟩ OP
      have N_:gF t ⟨xp,xa,xs,xv⟩ (a,n) 0 kd zd:=by
       have h:=hU.2 Ql;rw[Pp,Nat.sub_self]at h;exact h
      have O3:zd=er∧(er=0→kg t ⟨xp,xa,xs,xv⟩ (a,n) kd∧Oo≤4*nodes t+4)∧(¬er=0→kd=bH):=by
       by_cases hz:zd=0
       ·subst hz
        obtain⟨h1,h2⟩:=N_.top
        have h3:er=0:=by rw[Px.o,if_neg h2]
        refine⟨h3.symm,fun _=>⟨h1,?_⟩,fun h=>absurd h3 h⟩;have h4:=N_.len;have h5:=hN.len;dsimp only at h5;omega
       ·obtain⟨h1,h2,h3⟩:=N_.full hz
        have h4:er=4:=by rw[Px.o,if_pos h3]
        exact⟨h1.trans h4.symm,fun h=>(by rw[h4]at h;cases h),fun _=>h2⟩
      obtain⟨QF,O3⟩:=O3;obtain rfl:=QF;have P_:=ah O3;have N9:=ah G;have NS:=ah hN;have B:=ah OU;have C:=ah OV
      have Pw:ai (w.heap.size≤D):=FJ
      have Qa:=ah OP;have HBV0:=ah hB;obtain⟨QB,QC,QD,QE,-⟩:=N9.cj;clear O3 N_ hU hN G OU OV Pg Ph hB OP Ql Pp I0 Pe iB;go_wp2_with fail;clear QB QC QD QE;have l:=ah (((((Kept.a_ N9.below).af N9.c3).af N9.c2).af N9.c1).af N9.c0);refine Rg (S:=eB _) l.drew.cj (fun d=>?_);obtain⟨v1,O7,u⟩:=mW V;obtain⟨l,N9,NS,B,C⟩:=jo u l N9 NS B C;have A:=ah u;clear u;rw[← O7]at d ⊢;clear O7;have z0:=N9.c4;have z1:=N9.c5;have z2:=N9.c6;have z3:=N9.c7;have m0:=B.2 0;have m1:=B.2 1;have m2:=B.2 2;have m3:=C.2 0;refine T2 0 62 1 63 ?_;refine Tc 2 (fun K G=>?_);go_simp;refine Th G ?_ (fun m=>?_)
      ·(try dsimp only)
       have J:=l.tX (g:=r) NP (by simp;omega) (.slice De Ou Ov) (.slice Dk Ow Ox) (.slice Dc Oo Ot);exact J.cj
      clear G K d;have d:=m;clear m;refine Tc 3 (fun K G=>?_);go_simp;refine Th G ?_ (fun m=>?_)
      ·(try dsimp only)
       have J:=l.o;have J:=J.set (a:=⟨r,0,none⟩) NP (by simp;omega) (.slice De Ou Ov);have J:=J.set (a:=⟨r,1,none⟩) NP (by simp;omega) (.slice Dk Ow Ox);have J:=J.set (a:=⟨r,2,none⟩) NP (by simp;omega) (.slice Dc Oo Ot);have J:=J.set (a:=⟨g,0,none⟩) OD (by simp;omega) (.int .i64 zd);exact J.cj
      clear G K d;have d:=m;clear m;refine Td ?_;clear d;obtain⟨W7,NE⟩:∃ W,W=(((v1.setCell ⟨r,0,none⟩ (.slice De Ou Ov)).setCell ⟨r,1,none⟩ (.slice Dk Ow Ox)).setCell ⟨r,2,none⟩ (.slice Dc Oo Ot)):=⟨_,rfl⟩;obtain⟨W9,X⟩:∃ W,W=W7.setCell ⟨g,0,none⟩ (.int .i64 zd):=⟨_,rfl⟩;rw[← NE,← X]
      have O8:ai (W9.heap[D]?=some (.deferred (some []))):=by
       have h1:v1.heap[D]?=some (.deferred (some [])):=(A.block D (IA.1 Qa).1).trans Qa.o;unfold ai;rw[X,NE];exact (KeepsOthers.setCell _ _ _).same D _ ((KeepsOthers.setCell _ _ _).same D _ ((KeepsOthers.setCell _ _ _).same D _ ((KeepsOthers.setCell _ _ _).same D _ h1 rfl) rfl) rfl) rfl
      have OQ:av w W9:=by
       rw[X,NE];exact (((N9.below.setCell (p:=⟨r,0,none⟩) NP _).setCell (p:=⟨r,1,none⟩) NP _).setCell (p:=⟨r,2,none⟩) NP _).setCell (p:=⟨g,0,none⟩) OD _
      have HJ:ai (Kept [(⟨r,0,none⟩,.slice De Ou Ov),(⟨r,1,none⟩,.slice Dk Ow Ox),(⟨r,2,none⟩,.slice Dc Oo Ot),(⟨g,0,none⟩,.int .i64 zd)] w W9):=by
       refine ((((Kept.a_ OQ).af ?_).af ?_).af ?_).af ?_ <;> (rw[X,NE];go_simp)
      have OM:ai (dR W9 (fun b=>w.heap.size≤b∧b≠r∧b≠g∧b≠M∧b≠gE) ⟨kd,⟨De,Ou,Ov⟩,⟨Dk,Ow,Ox⟩,⟨Dc,Oo,Ot⟩⟩):=by
       refine dR.keep NS (by rw[X,NE];simp[World.setCell]) (fun b hb _=>?_);rw[X,NE];exact (cZ _ ⟨g,0,none⟩ _ b (fun e=>hb.2.2.1 e)).trans (bR b hb.2.1)
      clear z0 z1 z2 z3 m0 m1 m2 m3 X NE OQ;go_wp2_with fail;dsimp only[Rnd.still];refine⟨by simp,.inl ⟨_,_,rfl,run_takeDeferred O8,?_⟩⟩;have hg:=grownBy_putObj' W9 D (.deferred none)
      have hr:∀ r,some D=some r→∃ o:Obj,W9.heap[r]?=some o∧o.isCells=false:=fun r e=>by cases e;exact⟨_,O8,rfl⟩
      have PI:=cell_kept HJ.c0 hg hr;have PK:=cell_kept HJ.c1 hg hr;have PL:=cell_kept HJ.c2 hg hr;have PN:=cell_kept HJ.c3 hg hr;refine⟨.tuple #[.agg #[.slice De Ou Ov,.slice Dk Ow Ox,.slice Dc Oo Ot],.int .i64 zd],by simp[results,Tryz.f20,go_sem,PI,PK,PL,PN],kd,De,Ou,Ov,Dk,Ow,Ox,Dc,Oo,Ot,rfl,(by have h:=dR.grown OM hg hr;exact⟨aW.mono (fun b hb _=>hb.1) _ h.tree,h.len,h.ctx.mono fun b hb _=>hb.1⟩),P_,HJ.below.trans (belowK_b (w:=w) (bG) W9 D _ _ Pw O8 rfl rfl)⟩
     case stop=>
      rintro D c' pre W9 hD Q_ ⟨z,rfl,hz,Po,G⟩ OP;obtain rfl:=Po Q_;have HJ:=ah G;have O8:=ah OP
      have Pw:ai (w.heap.size≤D):=FJ
      have Q8:=ah hz;clear G OP I0 Pe iB Po hz
      gi_wp2
      dsimp only[Rnd.still];refine⟨by simp,.inl ⟨_,_,rfl,run_takeDeferred O8,?_⟩⟩;have hg:=grownBy_putObj' W9 D (.deferred none)
      have hr:∀ r,some D=some r→∃ o:Obj,W9.heap[r]?=some o∧o.isCells=false:=fun r e=>by cases e;exact⟨_,O8,rfl⟩
      have PI:=cell_kept HJ.c0 hg hr;have PK:=cell_kept HJ.c1 hg hr;have PL:=cell_kept HJ.c2 hg hr;have PN:=cell_kept HJ.c3 hg hr;refine⟨.tuple #[.agg #[.slice none 0 0,.slice none 0 0,.slice none 0 0],.int .i64 z],by simp[results,Tryz.f20,go_sem,PI,PK,PL,PN],bH,none,0,0,none,0,0,none,0,0,rfl,eP.no _ _,⟨fun h=>absurd h Q8,fun _=>rfl⟩,HJ.below.trans (belowK_b (w:=w) (bG) W9 D _ _ Pw O8 rfl rfl)⟩
  ·have Qh:ai (¬e0=0):=Pk
   have f0:(e0 != 0)=true:=by simpa using Pk
   clear Pk;obtain⟨c0,c1,c2,c3,c4,c5,c6,c7,-⟩:=l.cj;go_enter Tryz.func20,Tryz.ntmps20;go_wp2_with fail;rw[← HW.o,← HP.o]
   try rw[← OH.o]
   try rw[← Oy.o]
   try rw[← OO.o]
   try rw[← HQ.o]
   refine (bS t Ae Ak ne nk ce ck W N.2.2 R).mono ?_;rw[OC.o];rintro e v1 ⟨rfl,u⟩;obtain⟨l,R,RX,L,B,C⟩:=pO u l R RX L B C;clear u;clear c0 c1 c2 c3 c4 c5 c6 c7;obtain⟨c0,c1,c2,c3,c4,c5,c6,c7,-⟩:=l.cj;go_wp2_with fail;refine (rD xp xa xs xv xA xn xc v1 e0 O6 (by have:=N.o;omega) RX).mono ?_;rintro e v2 ⟨rfl,u⟩;obtain⟨l,R,RX,L,B,C⟩:=pO u l R RX L B C;clear u;clear c0 c1 c2 c3 c4 c5 c6 c7
   have OX:e0=er:=by
    rw[← OZ.o];unfold qK;rw[if_neg Pz.o,if_pos (by rw[O6.o];exact Qh.o)];exact O6.symm
   subst OX;obtain⟨z0,z1,z2,z3,-⟩:=L.cj;have m0:=B.2 0;have m1:=B.2 1;have m2:=B.2 2;have m3:=C.2 0;obtain⟨W9,X⟩:∃ W,W=(((v2.setCell ⟨r,0,none⟩ (.slice none 0 0)).setCell ⟨r,1,none⟩ (.slice none 0 0)).setCell ⟨r,2,none⟩ (.slice none 0 0)).setCell ⟨g,0,none⟩ (.int .i64 e0):=⟨_,rfl⟩
   have OI:ai (av w W9):=by
    unfold ai;rw[X];exact (((l.below.setCell (p:=⟨r,0,none⟩) NP _).setCell (p:=⟨r,1,none⟩) NP _).setCell (p:=⟨r,2,none⟩) NP _).setCell (p:=⟨g,0,none⟩) OD _
   have l0:W9.cell? ⟨r,0,none⟩=some (.slice none 0 0):=by rw[X];go_simp
   have l1:W9.cell? ⟨r,1,none⟩=some (.slice none 0 0):=by rw[X];go_simp
   have l2:W9.cell? ⟨r,2,none⟩=some (.slice none 0 0):=by rw[X];go_simp
   have l3:W9.cell? ⟨g,0,none⟩=some (.int .i64 e0):=by rw[X];go_simp
   have OB:=ah X;clear X;go_wp2_with fail;rw[← OB.o];refine bodyPost_ret (v:=.tuple #[.agg #[.slice none 0 0,.slice none 0 0,.slice none 0 0],.int .i64 e0]) (by simp[results,Tryz.results20,go_sem,l0,l1,l2,l3]) rfl ⟨bH,none,0,0,none,0,0,none,0,0,rfl,eP.no _ _,⟨fun h=>absurd h Qh,fun _=>rfl⟩,OI⟩
end Cs
end Go.Proofs.YtgeafpaognhokaaGreat
