/- Changes: a change of a tree: the program's. -/
import Derived.Test.YtgeafpaognhokaaGreatG00
import Derived.Test.YtgeafpaognhokaaGreatG80
import Derived.Test.YtgeafpaognhokaaGreatOpChg
import Derived.Test.YtgeafpaognhokaaGreatG70
import Derived.Test.YtgeafpaognhokaaGreatG60
import Derived.Test.YtgeafpaognhokaaGreatTreeRight
namespace Go.Proofs.YtgeafpaognhokaaGreat
open ChangeShapes WideShapes ChangeAt RowKit Go.Shelf
namespace Cs
open Tr Cx Sp Rw Classical
attribute [local go_sem] Oper.semAt_some
theorem Me (w:World) (Ae Ak:Option Addr) (ne nk ce ck:Nat) (b:Option Addr) (e d:Nat) (c:Int) (xs:ByteArray) (f a n:Int):∃ (W:World) (p q s r g:Nat),ai (W=((((w.alloc (.cells #[.slice Ae ne ce,.slice Ak nk ck] 35)).alloc (.cells #[.slice b e d,.int .i64 c,.string xs,.int .i64 f] 27)).alloc (.cells #[.int .i64 a,.int .i64 n] 37)).alloc (.cells #[.slice none 0 0,.slice none 0 0,.slice none 0 0] 42)).alloc (.cells #[.int .i64 0] 43))∧ai (p=w.heap.size)∧ai (q=p+1)∧ai (s=p+1+1)∧ai (r=p+1+1+1)∧ai (g=p+1+1+1+1)∧ai (Kept [(⟨p,0,none⟩,.slice Ae ne ce),(⟨p,1,none⟩,.slice Ak nk ck),(⟨q,0,none⟩,.slice b e d),(⟨q,1,none⟩,.int .i64 c),(⟨q,2,none⟩,.string xs),(⟨q,3,none⟩,.int .i64 f),(⟨s,0,none⟩,.int .i64 a),(⟨s,1,none⟩,.int .i64 n)] w W)∧ai (Kept [(⟨r,0,none⟩,.slice none 0 0),(⟨r,1,none⟩,.slice none 0 0),(⟨r,2,none⟩,.slice none 0 0),(⟨g,0,none⟩,.int .i64 0)] w W)∧ai (aA r W)∧ai (aA g W):=by
 refine⟨_,_,_,_,_,_,rfl,rfl,rfl,rfl,rfl,rfl,?_,?_,⟨by simp,fun j=>by go_simp⟩,⟨by simp,fun j=>by go_simp⟩⟩
 ·have h:=Kept.a_ (show av w (((((w.alloc (.cells #[.slice Ae ne ce,.slice Ak nk ck] 35)).alloc (.cells #[.slice b e d,.int .i64 c,.string xs,.int .i64 f] 27)).alloc (.cells #[.int .i64 a,.int .i64 n] 37)).alloc (.cells #[.slice none 0 0,.slice none 0 0,.slice none 0 0] 42)).alloc (.cells #[.int .i64 0] 43)) from (((((bN).alloc (bG) _).alloc (by simp) _).alloc (by simp;omega) _).alloc (by simp;omega) _).alloc (by simp;omega) _)
  refine ((((((((h).af ?_).af ?_).af ?_).af ?_).af ?_).af ?_).af ?_).af ?_ <;> go_simp
 ·have h:=Kept.a_ (show av w (((((w.alloc (.cells #[.slice Ae ne ce,.slice Ak nk ck] 35)).alloc (.cells #[.slice b e d,.int .i64 c,.string xs,.int .i64 f] 27)).alloc (.cells #[.int .i64 a,.int .i64 n] 37)).alloc (.cells #[.slice none 0 0,.slice none 0 0,.slice none 0 0] 42)).alloc (.cells #[.int .i64 0] 43)) from (((((bN).alloc (bG) _).alloc (by simp) _).alloc (by simp;omega) _).alloc (by simp;omega) _).alloc (by simp;omega) _)
  refine (((h.af ?_).af ?_).af ?_).af ?_ <;> go_simp
set_option maxRecDepth 100000 in
set_option maxHeartbeats 4000000 in
theorem rE (t:T) (Ae Ak:Option Addr) (ne nk ce ck:Nat) (xp:List ByteArray) (xa:Int) (xs:ByteArray) (xv:Int) (xA:Option Addr) (xn xc:Nat) (a n:Int) (w:World) (er:Int) (Ql:qM t ⟨xp,xa,xs,xv⟩ a n=er) (hl:LenT reachBytes t) (hn:nodes t≤1000) (hr:aF w w.heap.size t ⟨Ae,ne,ce⟩ ⟨Ak,nk,ck⟩) (Qq:nodes t≤240) (Qp:xn≤900) (Pm:Rd w w.heap.size 1 xA xn xc (strs xp)) :
  Calls Tryz.prog 20 #[.agg #[.slice Ae ne ce,.slice Ak nk ck],.agg #[.slice xA xn xc,.int .i64 xa,.string xs,.int .i64 xv],.agg #[.int .i64 a,.int .i64 n]] w (FM t ⟨xp,xa,xs,xv⟩ a n er w):=by
 obtain⟨W,p,q,s,r,g,HW,HP,HQ,OQ,O0,OJ,l,L,B,C⟩:=Me w Ae Ak ne nk ce ck xA xn xc xa xs xv a n
 have NR:w.heap.size≤r:=by have:=HP.o;have:=O0.o;omega
 have OG:w.heap.size≤g:=by have:=HP.o;have:=OJ.o;omega
 have hpr:p<r:=by have:=HP.o;have:=O0.o;omega
 have hqr:q<r:=by have:=HQ.o;have:=O0.o;omega
 have hsr:s<r:=by have:=OQ.o;have:=O0.o;omega
 have hrg:r<g:=by have:=O0.o;have:=OJ.o;omega
 have hgr:¬g=r:=by omega
 have hrg2:¬r=g:=by omega
 have hpg:p<g:=by omega
 have hqg:q<g:=by omega
 have hsg:s<g:=by omega
 have R:=ah (aF.later hr l.below);have RX:=ah (Pm.later l.below);have O4:=ah (bM Pm);have OH:=ah Pm;have Pp:=ah hr;have N:=ah (And.intro hn (And.intro Qp hl));have Pd:=ah Ql;have N2:=ah Qq;obtain⟨y1,Qv⟩:∃ y,Tr.ak 5 t=y:=⟨_,rfl⟩;obtain⟨y2,Qw⟩:∃ y,aY t a n=y:=⟨_,rfl⟩;obtain⟨e0,Qk⟩:∃ x,Ee ⟨xp,xa,xs,xv⟩=x:=⟨_,rfl⟩;have OE:=ah Qv;have NV:=ah Qw;have O8:=ah Qk;clear hl hn hr Pm Qp Qq Ql Qv Qw Qk
 cases y1 with
 | false=>
  obtain⟨c0,c1,c2,c3,c4,c5,c6,c7,-⟩:=l.cj;go_enter Tryz.func20,Tryz.ntmps20;go_wp2_with fail;rw[← HW.o,← HP.o]
  try rw[← OJ.o]
  try rw[← O0.o]
  try rw[← OQ.o]
  try rw[← HQ.o]
  refine (bS t Ae Ak ne nk ce ck W N.2.2 R).mono ?_;rw[OE.o];rintro e v1 ⟨rfl,u⟩;obtain⟨l,R,RX,L,B,C⟩:=pR u l R RX L B C;clear u;clear c0 c1 c2 c3 c4 c5 c6 c7
  have OZ:er=1:=by
   rw[← Pd.o];unfold qM;rw[if_pos OE.o]
  obtain rfl:=OZ;obtain⟨z0,z1,z2,z3,-⟩:=L.cj;have m0:=B.2 0;have m1:=B.2 1;have m2:=B.2 2;have m3:=C.2 0;obtain⟨W9,X⟩:∃ W,W=(((v1.setCell ⟨r,0,none⟩ (.slice none 0 0)).setCell ⟨r,1,none⟩ (.slice none 0 0)).setCell ⟨r,2,none⟩ (.slice none 0 0)).setCell ⟨g,0,none⟩ (.int .i64 1):=⟨_,rfl⟩
  have OL:ai (av w W9):=by
   unfold ai;rw[X];exact (((l.below.setCell (p:=⟨r,0,none⟩) NR _).setCell (p:=⟨r,1,none⟩) NR _).setCell (p:=⟨r,2,none⟩) NR _).setCell (p:=⟨g,0,none⟩) OG _
  have l0:W9.cell? ⟨r,0,none⟩=some (.slice none 0 0):=by rw[X];go_simp
  have l1:W9.cell? ⟨r,1,none⟩=some (.slice none 0 0):=by rw[X];go_simp
  have l2:W9.cell? ⟨r,2,none⟩=some (.slice none 0 0):=by rw[X];go_simp
  have l3:W9.cell? ⟨g,0,none⟩=some (.int .i64 1):=by rw[X];go_simp
  have OD:=ah X;clear X;go_wp2_with fail;rw[← OD.o];refine bodyPost_ret (v:=.tuple #[.agg #[.slice none 0 0,.slice none 0 0,.slice none 0 0],.int .i64 1]) (by simp[results,Tryz.results20,go_sem,l0,l1,l2,l3]) rfl ⟨bH,none,0,0,none,0,0,none,0,0,rfl,eH.no _ _,⟨fun h=>absurd h (by omega),fun _=>rfl⟩,OL⟩
 | true=>
  have P6:ai (¬Tr.ak 5 t=false):=ah (by rw[OE.o];decide)
  have OC:ai (Tr.ak 5 t=true):=OE.o
  by_cases Pn:e0=0
  ·subst Pn
   have Oq:ai (jM ⟨xp,xa,xs,xv⟩):=xJ.1 O8
   cases y2 with
   | false=>
    obtain⟨c0,c1,c2,c3,c4,c5,c6,c7,-⟩:=l.cj;go_enter Tryz.func20,Tryz.ntmps20;go_wp2_with fail;rw[← HW.o,← HP.o]
    try rw[← OJ.o]
    try rw[← O0.o]
    try rw[← OQ.o]
    try rw[← HQ.o]
    refine (bS t Ae Ak ne nk ce ck W N.2.2 R).mono ?_;rw[OE.o];rintro e v1 ⟨rfl,u⟩;obtain⟨l,R,RX,L,B,C⟩:=pR u l R RX L B C;clear u;clear c0 c1 c2 c3 c4 c5 c6 c7;obtain⟨c0,c1,c2,c3,c4,c5,c6,c7,-⟩:=l.cj;go_wp2_with fail;refine (rF xp xa xs xv xA xn xc v1 0 O8 (by have:=N.o;omega) RX).mono ?_;rintro e v2 ⟨rfl,u⟩;obtain⟨l,R,RX,L,B,C⟩:=pR u l R RX L B C;clear u;clear c0 c1 c2 c3 c4 c5 c6 c7;obtain⟨c0,c1,c2,c3,c4,c5,c6,c7,-⟩:=l.cj;go_wp2_with fail;refine (lJ t Ae Ak ne nk ce ck a n v2 false NV N.2.2 N.1 R).mono ?_;rintro e v3 ⟨rfl,u⟩;obtain⟨l,R,RX,L,B,C⟩:=pR u l R RX L B C;clear u;clear c0 c1 c2 c3 c4 c5 c6 c7
    have OZ:er=1:=by
     rw[← Pd.o];unfold qM;rw[if_neg P6.o,if_neg (fun h=>h O8.o),if_pos NV.o]
    obtain rfl:=OZ;obtain⟨z0,z1,z2,z3,-⟩:=L.cj;have m0:=B.2 0;have m1:=B.2 1;have m2:=B.2 2;have m3:=C.2 0;obtain⟨W9,X⟩:∃ W,W=(((v3.setCell ⟨r,0,none⟩ (.slice none 0 0)).setCell ⟨r,1,none⟩ (.slice none 0 0)).setCell ⟨r,2,none⟩ (.slice none 0 0)).setCell ⟨g,0,none⟩ (.int .i64 1):=⟨_,rfl⟩
    have OL:ai (av w W9):=by
     unfold ai;rw[X];exact (((l.below.setCell (p:=⟨r,0,none⟩) NR _).setCell (p:=⟨r,1,none⟩) NR _).setCell (p:=⟨r,2,none⟩) NR _).setCell (p:=⟨g,0,none⟩) OG _
    have l0:W9.cell? ⟨r,0,none⟩=some (.slice none 0 0):=by rw[X];go_simp
    have l1:W9.cell? ⟨r,1,none⟩=some (.slice none 0 0):=by rw[X];go_simp
    have l2:W9.cell? ⟨r,2,none⟩=some (.slice none 0 0):=by rw[X];go_simp
    have l3:W9.cell? ⟨g,0,none⟩=some (.int .i64 1):=by rw[X];go_simp
    have OD:=ah X;clear X;go_wp2_with fail;rw[← OD.o];refine bodyPost_ret (v:=.tuple #[.agg #[.slice none 0 0,.slice none 0 0,.slice none 0 0],.int .i64 1]) (by simp[results,Tryz.results20,go_sem,l0,l1,l2,l3]) rfl ⟨bH,none,0,0,none,0,0,none,0,0,rfl,eH.no _ _,⟨fun h=>absurd h (by omega),fun _=>rfl⟩,OL⟩
   | true=>
    have HT:ai (au 5 t):=(dD.1 NV).1;have HD:ai (Dt.ak a n=true):=(dD.1 NV).2.1
    have Q0:ai (¬aY t a n=false):=ah (by rw[NV.o];decide)
    have Q5:ai (xn≤3∧1≤xn):=by
     have h1:=Oq.path.few;have h2:=O4.o;have h3:=List.length_pos_iff.2 Oq.path.some;dsimp only at h1 h3;unfold ai;omega
    have Pz:ai (er=if pV t ⟨xp,xa,xs,xv⟩=true then 4 else 0):=by
     unfold ai;rw[← Pd.o];unfold qM;rw[if_neg P6.o,if_neg (fun h=>h O8.o),if_neg Q0.o]
    obtain⟨c0,c1,c2,c3,c4,c5,c6,c7,-⟩:=l.cj;refine (callsIn_wide (n:=6)).1 ?_;refine callsIn_of_wp_marks Tryz.func20 rfl trivial ?_ rfl;simp only[Tryz.ntmps20,List.size_toArray,lY,List.length_nil,Nat.reduceAdd,Nat.reduceSub,Array.replicate_succ,Array.replicate_zero,List.push_toArray,List.append_toArray,List.nil_append,List.cons_append];refine wpIn_wide.2 ?_;refine Rnd.K5 ?_;go_wp2_with fail;rw[← HW.o,← HP.o]
    try rw[← OJ.o]
    try rw[← O0.o]
    try rw[← OQ.o]
    try rw[← HQ.o]
    refine (bS t Ae Ak ne nk ce ck W N.2.2 R).mono ?_;rw[OE.o];rintro e v1 ⟨rfl,u⟩;obtain⟨l,R,RX,L,B,C⟩:=pR u l R RX L B C;clear u;clear c0 c1 c2 c3 c4 c5 c6 c7;obtain⟨c0,c1,c2,c3,c4,c5,c6,c7,-⟩:=l.cj;go_wp2_with fail;refine (rF xp xa xs xv xA xn xc v1 0 O8 (by have:=N.o;omega) RX).mono ?_;rintro e v2 ⟨rfl,u⟩;obtain⟨l,R,RX,L,B,C⟩:=pR u l R RX L B C;clear u;clear c0 c1 c2 c3 c4 c5 c6 c7;obtain⟨c0,c1,c2,c3,c4,c5,c6,c7,-⟩:=l.cj;go_wp2_with fail;refine (lJ t Ae Ak ne nk ce ck a n v2 true NV N.2.2 N.1 R).mono ?_;rintro e v3 ⟨rfl,u⟩;obtain⟨l,R,RX,L,B,C⟩:=pR u l R RX L B C;clear u;clear c0 c1 c2 c3 c4 c5 c6 c7;have Qa:=B;have PZ:=C;obtain⟨c0,c1,c2,c3,c4,c5,c6,c7,-⟩:=l.cj
    go_wp2_with fail;clear c0 c1 c2 c3 c4 c5 c6 c7
    go_cut [10,11] from 31 to 40 (fun s9 e9 wx=>∃ (M gE:Nat) (p9:CP) (z9:Int),s9 = .pointer (some ⟨M,0,none⟩)∧e9 = .pointer (some ⟨gE,0,none⟩)∧ai (ME v3 M gE p9 z9 wx)∧ai (gG t ⟨xp,xa,xs,xv⟩ (a,n) xp.length p9.k z9))
    case first=>
     refine Rg (S:=eB _) l.drew.cj (fun d=>?_);obtain⟨v4,PS,u⟩:=mW v3;obtain⟨l,R,RX,L,B,C⟩:=pR u l R RX L B C;clear u;have Po:ai (v3.drew=v4):=PS.symm;rw[← PS]at d ⊢;clear PS
     have A:ai (av v3 v4):=ah (by rw[← Po.o];exact (bN).drew)
     clear Po;refine T4 0 32 1 33 2 34 4 36 ?_;refine Tk 5 37 ?_;refine wpAnyH_ready (rs:=[3,10,11]) (by kernel_rfl) (by simp) ?_;refine AllReadyH.cons (o:=⟨some 35,_,_,_,_,_⟩) rfl (fun K G=>?_) (AllReadyH.cons (o:=⟨some 10,_,_,_,_,_⟩) rfl (fun K G=>?_) (AllReadyH.cons (o:=⟨some 11,_,_,_,_,_⟩) rfl (fun K G=>?_) (AllReadyH.nil)))
     ·go_simp
      (go_at_call 49;refine (j6 t Ae Ak ne nk ce ck v4 xp xA xn xc O4 (by have:=N.o;omega) RX N.2.2 (by have:=N.o;omega) R).mono ?_);rintro e v5 ⟨Ge,gn,gc,Gk,gm,gd,rfl,NN,u⟩;rw[if_pos OC.o]at NN;have RG:ai (aF v5 v5.heap.size (aI t xp) ⟨Ge,gn,gc⟩ ⟨Gk,gm,gd⟩):=NN.rd;clear NN;obtain⟨l,R,RX,L,B,C,A⟩:=Ed u l R RX L B C A;clear u;clear d;refine Th G ?_ (fun d=>?_)
      ·exact l.cj
      clear G K;refine wpAnyH_ready (rs:=[6,10,11]) (by kernel_rfl) (by simp) ?_;refine AllReadyH.cons (o:=⟨some 38,_,_,_,_,_⟩) rfl (fun K G=>?_) (AllReadyH.cons (o:=⟨some 10,_,_,_,_,_⟩) rfl (fun K G=>?_) (AllReadyH.cons (o:=⟨some 11,_,_,_,_,_⟩) rfl (fun K G=>?_) (AllReadyH.nil)))
      ·go_simp
       (go_at_call 48;refine (dX t xp xa xs xv xA xn xc a n Ge Gk gn gm gc gd v5 HT Oq NV N2 RG).mono ?_);rintro e v6 ⟨kx,zx,Xe,Ny,Nz,Xk,N7,N8,Xc,Y,Z,rfl,NE,NC,u⟩;have HN:ai (dQ v6 (fun b=>v3.heap.size≤b) ⟨kx,⟨Xe,Ny,Nz⟩,⟨Xk,N7,N8⟩,⟨Xc,Y,Z⟩⟩):=dQ.b_ NE (fun b hb _=>aN A.size hb);have NQ:=ah NC.o;clear NE NC;obtain⟨l,R,RX,L,B,C,A,RG⟩:=lZ u l R RX L B C A RG;clear u;clear d;refine Th G ?_ (fun d=>?_)
       ·exact l.cj
       clear G K;refine T3 7 31 8 39 9 40 ?_;refine wpAnyH_ready (rs:=[10,11]) (by kernel_rfl) (by simp) ?_;refine AllReadyH.cons (o:=⟨some 10,_,_,_,_,_⟩) rfl (fun K G=>?_) (AllReadyH.cons (o:=⟨some 11,_,_,_,_,_⟩) rfl (fun K G=>?_) (AllReadyH.nil))
       ·go_simp
        clear d;refine Th G ?_ (fun d=>?_)
        ·exact (l.alloc _).cj
        clear G K;obtain⟨M,v7,Q,NK,u,b0,b1,b2⟩:=rW v6 (.slice none 0 0) (.slice none 0 0) (.slice none 0 0) 42;have NH:=jy Q A.o;have O:=jy Q l.below;have Oa:=fU Q l.c0;have Oc:=fU Q l.c2;have Oe:=fU Q l.c6;have HN:=ah (HN.mono (ok':=fun b=>v3.heap.size≤b∧b≠M) (fun b hb O1=>⟨hb,by omega⟩));obtain⟨l,R,RX,L,B,C,A,RG⟩:=lZ u l R RX L B C A RG;have HN:=ah (HN.later u);have HZ:=ah ((((Kept.a_ A).af b2).af b1).af b0);have HF:=p_ Q NK;have NW:M<v7.heap.size:=HF.1;(try rw[← NK]at d);rw[← NK];rw[← Q];clear Q NK u b0 b1 b2;refine Tc 11 (fun K G=>?_);go_simp;clear d;refine Th G ?_ (fun d=>?_)
        ·exact (l.alloc _).cj
        clear G K;obtain⟨gE,v8,U,NM,u,b0⟩:=Er v7 (.int .i64 0) 43;have NI:=jy U A.o;have NJ:=jy U l.below;have Ob:=fU U l.c0;have Od:=fU U l.c2;have Og:=fU U l.c6
        have N9:M≠gE:=by have h:=HF.1;omega
        have NZ:¬gE=M:=fun h=>N9 h.symm;have HN:=ah (HN.mono (ok':=fun b=>v3.heap.size≤b∧b≠M∧b≠gE) (fun b hb O1=>⟨hb.1,hb.2,by omega⟩));obtain⟨l,R,RX,L,B,C,A,RG⟩:=lZ u l R RX L B C A RG;obtain⟨HN,HZ,HF⟩:=kX u HN HZ HF;have HY:=ah ((Kept.a_ A).af b0);have H:=p_ U NM;have NY:gE<v8.heap.size:=H.1;(try rw[← NM]at d);rw[← NM];rw[← U];clear U NM u b0;obtain⟨z0,z1,z2,-⟩:=HZ.cj;have z3:=HY.c0;have m0:=HF.2 0;have m1:=HF.2 1;have m2:=HF.2 2;have m3:=H.2 0;refine Tc 12 (fun K G=>?_);go_simp;refine Th G ?_ (fun m=>?_)
        ·(try dsimp only)
         have J:=l.tZ (g:=M) O (by simp;omega) (.slice Xe Ny Nz) (.slice Xk N7 N8) (.slice Xc Y Z);exact J.cj
        clear G K d;have d:=m;clear m;refine Tc 13 (fun K G=>?_);go_simp;refine Th G ?_ (fun m=>?_)
        ·(try dsimp only)
         have J:=l.o;have J:=J.set (a:=⟨M,0,none⟩) O (by simp;omega) (.slice Xe Ny Nz);have J:=J.set (a:=⟨M,1,none⟩) O (by simp;omega) (.slice Xk N7 N8);have J:=J.set (a:=⟨M,2,none⟩) O (by simp;omega) (.slice Xc Y Z);have J:=J.set (a:=⟨gE,0,none⟩) NJ (by simp;omega) (.int .i64 zx);exact J.cj
        clear G K d;have d:=m;clear m;refine Td ?_;clear d;have NF:=IG zx A NH NI N9 HN HF H z0 z1 z2 z3;clear z0 z1 z2 z3 m0 m1 m2 m3;go_wp2_with fail;go_meet;exact⟨M,gE,⟨kx,⟨Xe,Ny,Nz⟩,⟨Xk,N7,N8⟩,⟨Xc,Y,Z⟩⟩,zx,rfl,rfl,NF,NQ⟩
       ·go_simp
        clear d;refine Th G ?_ (fun d=>?_)
        ·exact (l.alloc _).cj
        clear G K;obtain⟨gE,v7,U,NK,u,b0⟩:=Er v6 (.int .i64 0) 43;have NI:=jy U A.o;have NJ:=jy U l.below;have Ob:=fU U l.c0;have Od:=fU U l.c2;have Og:=fU U l.c6;have HN:=ah (HN.mono (ok':=fun b=>v3.heap.size≤b∧b≠gE) (fun b hb O1=>⟨hb,by omega⟩));obtain⟨l,R,RX,L,B,C,A,RG⟩:=lZ u l R RX L B C A RG;have HN:=ah (HN.later u);have HY:=ah ((Kept.a_ A).af b0);have H:=p_ U NK;have NY:gE<v7.heap.size:=H.1;(try rw[← NK]at d);rw[← NK];rw[← U];clear U NK u b0;refine Tc 10 (fun K G=>?_);go_simp;clear d;refine Th G ?_ (fun d=>?_)
        ·exact (l.alloc _).cj
        clear G K;obtain⟨M,v8,Q,NM,u,b0,b1,b2⟩:=rW v7 (.slice none 0 0) (.slice none 0 0) (.slice none 0 0) 42;have NH:=jy Q A.o;have O:=jy Q l.below;have Oa:=fU Q l.c0;have Oc:=fU Q l.c2;have Oe:=fU Q l.c6
        have N9:M≠gE:=by have h:=H.1;omega
        have NZ:¬gE=M:=fun h=>N9 h.symm;have HN:=ah (HN.mono (ok':=fun b=>v3.heap.size≤b∧b≠M∧b≠gE) (fun b hb O1=>⟨hb.1,by omega,hb.2⟩));obtain⟨l,R,RX,L,B,C,A,RG⟩:=lZ u l R RX L B C A RG;obtain⟨HN,HY,H⟩:=kX u HN HY H;have HZ:=ah ((((Kept.a_ A).af b2).af b1).af b0);have HF:=p_ Q NM;have NW:M<v8.heap.size:=HF.1;(try rw[← NM]at d);rw[← NM];rw[← Q];clear Q NM u b0 b1 b2;obtain⟨z0,z1,z2,-⟩:=HZ.cj;have z3:=HY.c0;have m0:=HF.2 0;have m1:=HF.2 1;have m2:=HF.2 2;have m3:=H.2 0;refine Tc 12 (fun K G=>?_);go_simp;refine Th G ?_ (fun m=>?_)
        ·(try dsimp only)
         have J:=l.tZ (g:=M) O (by simp;omega) (.slice Xe Ny Nz) (.slice Xk N7 N8) (.slice Xc Y Z);exact J.cj
        clear G K d;have d:=m;clear m;refine Tc 13 (fun K G=>?_);go_simp;refine Th G ?_ (fun m=>?_)
        ·(try dsimp only)
         have J:=l.o;have J:=J.set (a:=⟨M,0,none⟩) O (by simp;omega) (.slice Xe Ny Nz);have J:=J.set (a:=⟨M,1,none⟩) O (by simp;omega) (.slice Xk N7 N8);have J:=J.set (a:=⟨M,2,none⟩) O (by simp;omega) (.slice Xc Y Z);have J:=J.set (a:=⟨gE,0,none⟩) NJ (by simp;omega) (.int .i64 zx);exact J.cj
        clear G K d;have d:=m;clear m;refine Td ?_;clear d;have NF:=IG zx A NH NI N9 HN HF H z0 z1 z2 z3;clear z0 z1 z2 z3 m0 m1 m2 m3;go_wp2_with fail;go_meet;exact⟨M,gE,⟨kx,⟨Xe,Ny,Nz⟩,⟨Xk,N7,N8⟩,⟨Xc,Y,Z⟩⟩,zx,rfl,rfl,NF,NQ⟩
      ·go_simp
       clear d;refine Th G ?_ (fun d=>?_)
       ·exact (l.alloc _).cj
       clear G K;obtain⟨M,v6,Q,NS,u,b0,b1,b2⟩:=rW v5 (.slice none 0 0) (.slice none 0 0) (.slice none 0 0) 42;have NH:=jy Q A.o;have O:=jy Q l.below;have Oa:=fU Q l.c0;have Oc:=fU Q l.c2;have Oe:=fU Q l.c6;obtain⟨l,R,RX,L,B,C,A,RG⟩:=lZ u l R RX L B C A RG;have HZ:=ah ((((Kept.a_ A).af b2).af b1).af b0);have HF:=p_ Q NS;have NW:M<v6.heap.size:=HF.1;(try rw[← NS]at d);rw[← NS];rw[← Q];clear Q NS u b0 b1 b2;refine wpAnyH_ready (rs:=[6,11]) (by kernel_rfl) (by simp) ?_;refine AllReadyH.cons (o:=⟨some 38,_,_,_,_,_⟩) rfl (fun K G=>?_) (AllReadyH.cons (o:=⟨some 11,_,_,_,_,_⟩) rfl (fun K G=>?_) (AllReadyH.nil))
       ·go_simp
        (go_at_call 48;refine (dX t xp xa xs xv xA xn xc a n Ge Gk gn gm gc gd v6 HT Oq NV N2 RG).mono ?_);rintro e v7 ⟨kx,zx,Xe,Ny,Nz,Xk,N7,N8,Xc,Y,Z,rfl,NE,NC,u⟩;have HN:ai (dQ v7 (fun b=>v3.heap.size≤b∧b≠M) ⟨kx,⟨Xe,Ny,Nz⟩,⟨Xk,N7,N8⟩,⟨Xc,Y,Z⟩⟩):=dQ.b_ NE (fun b hb _=>⟨aN A.size hb,by have h:=HF.1;omega⟩);have NQ:=ah NC.o;clear NE NC;obtain⟨l,R,RX,L,B,C,A,RG⟩:=lZ u l R RX L B C A RG;obtain⟨HZ,HF⟩:=gI u HZ HF;clear u;clear d;refine Th G ?_ (fun d=>?_)
        ·exact l.cj
        clear G K;refine T3 7 31 8 39 9 40 ?_;refine Tc 11 (fun K G=>?_);go_simp;clear d;refine Th G ?_ (fun d=>?_)
        ·exact (l.alloc _).cj
        clear G K;obtain⟨gE,v8,U,NM,u,b0⟩:=Er v7 (.int .i64 0) 43;have NI:=jy U A.o;have NJ:=jy U l.below;have Ob:=fU U l.c0;have Od:=fU U l.c2;have Og:=fU U l.c6
        have N9:M≠gE:=by have h:=HF.1;omega
        have NZ:¬gE=M:=fun h=>N9 h.symm;have HN:=ah (HN.mono (ok':=fun b=>v3.heap.size≤b∧b≠M∧b≠gE) (fun b hb O1=>⟨hb.1,hb.2,by omega⟩));obtain⟨l,R,RX,L,B,C,A,RG⟩:=lZ u l R RX L B C A RG;obtain⟨HZ,HF,HN⟩:=kX u HZ HF HN;have HY:=ah ((Kept.a_ A).af b0);have H:=p_ U NM;have NY:gE<v8.heap.size:=H.1;(try rw[← NM]at d);rw[← NM];rw[← U];clear U NM u b0;obtain⟨z0,z1,z2,-⟩:=HZ.cj;have z3:=HY.c0;have m0:=HF.2 0;have m1:=HF.2 1;have m2:=HF.2 2;have m3:=H.2 0;refine Tc 12 (fun K G=>?_);go_simp;refine Th G ?_ (fun m=>?_)
        ·(try dsimp only)
         have J:=l.tZ (g:=M) O (by simp;omega) (.slice Xe Ny Nz) (.slice Xk N7 N8) (.slice Xc Y Z);exact J.cj
        clear G K d;have d:=m;clear m;refine Tc 13 (fun K G=>?_);go_simp;refine Th G ?_ (fun m=>?_)
        ·(try dsimp only)
         have J:=l.o;have J:=J.set (a:=⟨M,0,none⟩) O (by simp;omega) (.slice Xe Ny Nz);have J:=J.set (a:=⟨M,1,none⟩) O (by simp;omega) (.slice Xk N7 N8);have J:=J.set (a:=⟨M,2,none⟩) O (by simp;omega) (.slice Xc Y Z);have J:=J.set (a:=⟨gE,0,none⟩) NJ (by simp;omega) (.int .i64 zx);exact J.cj
        clear G K d;have d:=m;clear m;refine Td ?_;clear d;have NF:=IG zx A NH NI N9 HN HF H z0 z1 z2 z3;clear z0 z1 z2 z3 m0 m1 m2 m3;go_wp2_with fail;go_meet;exact⟨M,gE,⟨kx,⟨Xe,Ny,Nz⟩,⟨Xk,N7,N8⟩,⟨Xc,Y,Z⟩⟩,zx,rfl,rfl,NF,NQ⟩
       ·go_simp
        clear d;refine Th G ?_ (fun d=>?_)
        ·exact (l.alloc _).cj
        clear G K;obtain⟨gE,v7,U,NK,u,b0⟩:=Er v6 (.int .i64 0) 43;have NI:=jy U A.o;have NJ:=jy U l.below;have Ob:=fU U l.c0;have Od:=fU U l.c2;have Og:=fU U l.c6
        have N9:M≠gE:=by have h:=HF.1;omega
        have NZ:¬gE=M:=fun h=>N9 h.symm;obtain⟨l,R,RX,L,B,C,A,RG⟩:=lZ u l R RX L B C A RG;obtain⟨HZ,HF⟩:=gI u HZ HF;have HY:=ah ((Kept.a_ A).af b0);have H:=p_ U NK;have NY:gE<v7.heap.size:=H.1;(try rw[← NK]at d);rw[← NK];rw[← U];clear U NK u b0;refine Tc 6 (fun K G=>?_);go_simp;(go_at_call 48;refine (dX t xp xa xs xv xA xn xc a n Ge Gk gn gm gc gd v7 HT Oq NV N2 RG).mono ?_);rintro e v8 ⟨kx,zx,Xe,Ny,Nz,Xk,N7,N8,Xc,Y,Z,rfl,NE,NC,u⟩;have HN:ai (dQ v8 (fun b=>v3.heap.size≤b∧b≠M∧b≠gE) ⟨kx,⟨Xe,Ny,Nz⟩,⟨Xk,N7,N8⟩,⟨Xc,Y,Z⟩⟩):=dQ.b_ NE (fun b hb _=>⟨aN A.size hb,by have h:=HF.1;omega,by have h:=H.1;omega⟩);have NQ:=ah NC.o
        clear NE NC;obtain⟨l,R,RX,L,B,C,A,RG⟩:=lZ u l R RX L B C A RG;obtain⟨HZ,HF,HY,H⟩:=iR u HZ HF HY H;clear u;obtain⟨z0,z1,z2,-⟩:=HZ.cj;have z3:=HY.c0;have m0:=HF.2 0;have m1:=HF.2 1;have m2:=HF.2 2;have m3:=H.2 0;clear d;refine Th G ?_ (fun d=>?_)
        ·exact l.cj
        clear G K;refine T3 7 31 8 39 9 40 ?_;refine Tc 12 (fun K G=>?_);go_simp;refine Th G ?_ (fun m=>?_)
        ·(try dsimp only)
         have J:=l.tZ (g:=M) O (by simp;omega) (.slice Xe Ny Nz) (.slice Xk N7 N8) (.slice Xc Y Z);exact J.cj
        clear G K d;have d:=m;clear m;refine Tc 13 (fun K G=>?_);go_simp;refine Th G ?_ (fun m=>?_)
        ·(try dsimp only)
         have J:=l.o;have J:=J.set (a:=⟨M,0,none⟩) O (by simp;omega) (.slice Xe Ny Nz);have J:=J.set (a:=⟨M,1,none⟩) O (by simp;omega) (.slice Xk N7 N8);have J:=J.set (a:=⟨M,2,none⟩) O (by simp;omega) (.slice Xc Y Z);have J:=J.set (a:=⟨gE,0,none⟩) NJ (by simp;omega) (.int .i64 zx);exact J.cj
        clear G K d;have d:=m;clear m;refine Td ?_;clear d;have NF:=IG zx A NH NI N9 HN HF H z0 z1 z2 z3;clear z0 z1 z2 z3 m0 m1 m2 m3;go_wp2_with fail;go_meet;exact⟨M,gE,⟨kx,⟨Xe,Ny,Nz⟩,⟨Xk,N7,N8⟩,⟨Xc,Y,Z⟩⟩,zx,rfl,rfl,NF,NQ⟩
      ·go_simp
       clear d;refine Th G ?_ (fun d=>?_)
       ·exact (l.alloc _).cj
       clear G K;obtain⟨gE,v6,U,NS,u,b0⟩:=Er v5 (.int .i64 0) 43;have NI:=jy U A.o;have NJ:=jy U l.below;have Ob:=fU U l.c0;have Od:=fU U l.c2;have Og:=fU U l.c6;obtain⟨l,R,RX,L,B,C,A,RG⟩:=lZ u l R RX L B C A RG;have HY:=ah ((Kept.a_ A).af b0);have H:=p_ U NS;have NY:gE<v6.heap.size:=H.1;(try rw[← NS]at d);rw[← NS];rw[← U];clear U NS u b0;refine wpAnyH_ready (rs:=[6,10]) (by kernel_rfl) (by simp) ?_;refine AllReadyH.cons (o:=⟨some 38,_,_,_,_,_⟩) rfl (fun K G=>?_) (AllReadyH.cons (o:=⟨some 10,_,_,_,_,_⟩) rfl (fun K G=>?_) (AllReadyH.nil))
       ·go_simp
        (go_at_call 48;refine (dX t xp xa xs xv xA xn xc a n Ge Gk gn gm gc gd v6 HT Oq NV N2 RG).mono ?_);rintro e v7 ⟨kx,zx,Xe,Ny,Nz,Xk,N7,N8,Xc,Y,Z,rfl,NE,NC,u⟩;have HN:ai (dQ v7 (fun b=>v3.heap.size≤b∧b≠gE) ⟨kx,⟨Xe,Ny,Nz⟩,⟨Xk,N7,N8⟩,⟨Xc,Y,Z⟩⟩):=dQ.b_ NE (fun b hb _=>⟨aN A.size hb,by have h:=H.1;omega⟩);have NQ:=ah NC.o;clear NE NC;obtain⟨l,R,RX,L,B,C,A,RG⟩:=lZ u l R RX L B C A RG;obtain⟨HY,H⟩:=gI u HY H;clear u;clear d;refine Th G ?_ (fun d=>?_)
        ·exact l.cj
        clear G K;refine T3 7 31 8 39 9 40 ?_;refine Tc 10 (fun K G=>?_);go_simp;clear d;refine Th G ?_ (fun d=>?_)
        ·exact (l.alloc _).cj
        clear G K;obtain⟨M,v8,Q,NM,u,b0,b1,b2⟩:=rW v7 (.slice none 0 0) (.slice none 0 0) (.slice none 0 0) 42;have NH:=jy Q A.o;have O:=jy Q l.below;have Oa:=fU Q l.c0;have Oc:=fU Q l.c2;have Oe:=fU Q l.c6
        have N9:M≠gE:=by have h:=H.1;omega
        have NZ:¬gE=M:=fun h=>N9 h.symm;have HN:=ah (HN.mono (ok':=fun b=>v3.heap.size≤b∧b≠M∧b≠gE) (fun b hb O1=>⟨hb.1,by omega,hb.2⟩));obtain⟨l,R,RX,L,B,C,A,RG⟩:=lZ u l R RX L B C A RG;obtain⟨HY,H,HN⟩:=kX u HY H HN;have HZ:=ah ((((Kept.a_ A).af b2).af b1).af b0);have HF:=p_ Q NM;have NW:M<v8.heap.size:=HF.1;(try rw[← NM]at d);rw[← NM];rw[← Q];clear Q NM u b0 b1 b2;obtain⟨z0,z1,z2,-⟩:=HZ.cj;have z3:=HY.c0;have m0:=HF.2 0;have m1:=HF.2 1;have m2:=HF.2 2;have m3:=H.2 0;refine Tc 12 (fun K G=>?_);go_simp;refine Th G ?_ (fun m=>?_)
        ·(try dsimp only)
         have J:=l.tZ (g:=M) O (by simp;omega) (.slice Xe Ny Nz) (.slice Xk N7 N8) (.slice Xc Y Z);exact J.cj
        clear G K d;have d:=m;clear m;refine Tc 13 (fun K G=>?_);go_simp;refine Th G ?_ (fun m=>?_)
        ·(try dsimp only)
         have J:=l.o;have J:=J.set (a:=⟨M,0,none⟩) O (by simp;omega) (.slice Xe Ny Nz);have J:=J.set (a:=⟨M,1,none⟩) O (by simp;omega) (.slice Xk N7 N8);have J:=J.set (a:=⟨M,2,none⟩) O (by simp;omega) (.slice Xc Y Z);have J:=J.set (a:=⟨gE,0,none⟩) NJ (by simp;omega) (.int .i64 zx);exact J.cj
        clear G K d;have d:=m;clear m;refine Td ?_;clear d;have NF:=IG zx A NH NI N9 HN HF H z0 z1 z2 z3;clear z0 z1 z2 z3 m0 m1 m2 m3;go_wp2_with fail;go_meet;exact⟨M,gE,⟨kx,⟨Xe,Ny,Nz⟩,⟨Xk,N7,N8⟩,⟨Xc,Y,Z⟩⟩,zx,rfl,rfl,NF,NQ⟩
       ·go_simp
        clear d;refine Th G ?_ (fun d=>?_)
        ·exact (l.alloc _).cj
        clear G K;obtain⟨M,v7,Q,NK,u,b0,b1,b2⟩:=rW v6 (.slice none 0 0) (.slice none 0 0) (.slice none 0 0) 42;have NH:=jy Q A.o;have O:=jy Q l.below;have Oa:=fU Q l.c0;have Oc:=fU Q l.c2;have Oe:=fU Q l.c6
        have N9:M≠gE:=by have h:=H.1;omega
        have NZ:¬gE=M:=fun h=>N9 h.symm;obtain⟨l,R,RX,L,B,C,A,RG⟩:=lZ u l R RX L B C A RG;obtain⟨HY,H⟩:=gI u HY H;have HZ:=ah ((((Kept.a_ A).af b2).af b1).af b0);have HF:=p_ Q NK;have NW:M<v7.heap.size:=HF.1;(try rw[← NK]at d);rw[← NK];rw[← Q];clear Q NK u b0 b1 b2;refine Tc 6 (fun K G=>?_);go_simp;(go_at_call 48;refine (dX t xp xa xs xv xA xn xc a n Ge Gk gn gm gc gd v7 HT Oq NV N2 RG).mono ?_);rintro e v8 ⟨kx,zx,Xe,Ny,Nz,Xk,N7,N8,Xc,Y,Z,rfl,NE,NC,u⟩;have HN:ai (dQ v8 (fun b=>v3.heap.size≤b∧b≠M∧b≠gE) ⟨kx,⟨Xe,Ny,Nz⟩,⟨Xk,N7,N8⟩,⟨Xc,Y,Z⟩⟩):=dQ.b_ NE (fun b hb _=>⟨aN A.size hb,by have h:=HF.1;omega,by have h:=H.1;omega⟩)
        have NQ:=ah NC.o;clear NE NC;obtain⟨l,R,RX,L,B,C,A,RG⟩:=lZ u l R RX L B C A RG;obtain⟨HY,H,HZ,HF⟩:=iR u HY H HZ HF;clear u;obtain⟨z0,z1,z2,-⟩:=HZ.cj;have z3:=HY.c0;have m0:=HF.2 0;have m1:=HF.2 1;have m2:=HF.2 2;have m3:=H.2 0;clear d;refine Th G ?_ (fun d=>?_)
        ·exact l.cj
        clear G K;refine T3 7 31 8 39 9 40 ?_;refine Tc 12 (fun K G=>?_);go_simp;refine Th G ?_ (fun m=>?_)
        ·(try dsimp only)
         have J:=l.tZ (g:=M) O (by simp;omega) (.slice Xe Ny Nz) (.slice Xk N7 N8) (.slice Xc Y Z);exact J.cj
        clear G K d;have d:=m;clear m;refine Tc 13 (fun K G=>?_);go_simp;refine Th G ?_ (fun m=>?_)
        ·(try dsimp only)
         have J:=l.o;have J:=J.set (a:=⟨M,0,none⟩) O (by simp;omega) (.slice Xe Ny Nz);have J:=J.set (a:=⟨M,1,none⟩) O (by simp;omega) (.slice Xk N7 N8);have J:=J.set (a:=⟨M,2,none⟩) O (by simp;omega) (.slice Xc Y Z);have J:=J.set (a:=⟨gE,0,none⟩) NJ (by simp;omega) (.int .i64 zx);exact J.cj
        clear G K d;have d:=m;clear m;refine Td ?_;clear d;have NF:=IG zx A NH NI N9 HN HF H z0 z1 z2 z3;clear z0 z1 z2 z3 m0 m1 m2 m3;go_wp2_with fail;go_meet;exact⟨M,gE,⟨kx,⟨Xe,Ny,Nz⟩,⟨Xk,N7,N8⟩,⟨Xc,Y,Z⟩⟩,zx,rfl,rfl,NF,NQ⟩
     ·go_simp
      clear d;refine Th G ?_ (fun d=>?_)
      ·exact (l.alloc _).cj
      clear G K;obtain⟨M,v5,Q,O6,u,b0,b1,b2⟩:=rW v4 (.slice none 0 0) (.slice none 0 0) (.slice none 0 0) 42;have NH:=jy Q A.o;have O:=jy Q l.below;have Oa:=fU Q l.c0;have Oc:=fU Q l.c2;have Oe:=fU Q l.c6;obtain⟨l,R,RX,L,B,C,A⟩:=Ed u l R RX L B C A;have HZ:=ah ((((Kept.a_ A).af b2).af b1).af b0);have HF:=p_ Q O6;have NW:M<v5.heap.size:=HF.1;(try rw[← O6]at d);rw[← O6];rw[← Q];clear Q O6 u b0 b1 b2;refine wpAnyH_ready (rs:=[3,11]) (by kernel_rfl) (by simp) ?_;refine AllReadyH.cons (o:=⟨some 35,_,_,_,_,_⟩) rfl (fun K G=>?_) (AllReadyH.cons (o:=⟨some 11,_,_,_,_,_⟩) rfl (fun K G=>?_) (AllReadyH.nil))
      ·go_simp
       (go_at_call 49;refine (j6 t Ae Ak ne nk ce ck v5 xp xA xn xc O4 (by have:=N.o;omega) RX N.2.2 (by have:=N.o;omega) R).mono ?_);rintro e v6 ⟨Ge,gn,gc,Gk,gm,gd,rfl,NN,u⟩;rw[if_pos OC.o]at NN;have RG:ai (aF v6 v6.heap.size (aI t xp) ⟨Ge,gn,gc⟩ ⟨Gk,gm,gd⟩):=NN.rd;clear NN;obtain⟨l,R,RX,L,B,C,A,HZ⟩:=lZ u l R RX L B C A HZ;have HF:=ah (HF.later u);clear u;clear d;refine Th G ?_ (fun d=>?_)
       ·exact l.cj
       clear G K;refine wpAnyH_ready (rs:=[6,11]) (by kernel_rfl) (by simp) ?_;refine AllReadyH.cons (o:=⟨some 38,_,_,_,_,_⟩) rfl (fun K G=>?_) (AllReadyH.cons (o:=⟨some 11,_,_,_,_,_⟩) rfl (fun K G=>?_) (AllReadyH.nil))
       ·go_simp
        (go_at_call 48;refine (dX t xp xa xs xv xA xn xc a n Ge Gk gn gm gc gd v6 HT Oq NV N2 RG).mono ?_);rintro e v7 ⟨kx,zx,Xe,Ny,Nz,Xk,N7,N8,Xc,Y,Z,rfl,NE,NC,u⟩;have HN:ai (dQ v7 (fun b=>v3.heap.size≤b∧b≠M) ⟨kx,⟨Xe,Ny,Nz⟩,⟨Xk,N7,N8⟩,⟨Xc,Y,Z⟩⟩):=dQ.b_ NE (fun b hb _=>⟨aN A.size hb,by have h:=HF.1;omega⟩);have NQ:=ah NC.o;clear NE NC;obtain⟨l,R,RX,L,B,C,A,HZ⟩:=lZ u l R RX L B C A HZ;obtain⟨HF,RG⟩:=gI u HF RG;clear u;clear d;refine Th G ?_ (fun d=>?_)
        ·exact l.cj
        clear G K;refine T3 7 31 8 39 9 40 ?_;refine Tc 11 (fun K G=>?_);go_simp;clear d;refine Th G ?_ (fun d=>?_)
        ·exact (l.alloc _).cj
        clear G K;obtain⟨gE,v8,U,NM,u,b0⟩:=Er v7 (.int .i64 0) 43;have NI:=jy U A.o;have NJ:=jy U l.below;have Ob:=fU U l.c0;have Od:=fU U l.c2;have Og:=fU U l.c6
        have N9:M≠gE:=by have h:=HF.1;omega
        have NZ:¬gE=M:=fun h=>N9 h.symm;have HN:=ah (HN.mono (ok':=fun b=>v3.heap.size≤b∧b≠M∧b≠gE) (fun b hb O1=>⟨hb.1,hb.2,by omega⟩));obtain⟨l,R,RX,L,B,C,A,HZ⟩:=lZ u l R RX L B C A HZ;obtain⟨HF,RG,HN⟩:=kX u HF RG HN;have HY:=ah ((Kept.a_ A).af b0);have H:=p_ U NM;have NY:gE<v8.heap.size:=H.1;(try rw[← NM]at d);rw[← NM];rw[← U];clear U NM u b0;obtain⟨z0,z1,z2,-⟩:=HZ.cj;have z3:=HY.c0;have m0:=HF.2 0;have m1:=HF.2 1;have m2:=HF.2 2;have m3:=H.2 0;refine Tc 12 (fun K G=>?_);go_simp;refine Th G ?_ (fun m=>?_)
        ·(try dsimp only)
         have J:=l.tZ (g:=M) O (by simp;omega) (.slice Xe Ny Nz) (.slice Xk N7 N8) (.slice Xc Y Z);exact J.cj
        clear G K d;have d:=m;clear m;refine Tc 13 (fun K G=>?_);go_simp;refine Th G ?_ (fun m=>?_)
        ·(try dsimp only)
         have J:=l.o;have J:=J.set (a:=⟨M,0,none⟩) O (by simp;omega) (.slice Xe Ny Nz);have J:=J.set (a:=⟨M,1,none⟩) O (by simp;omega) (.slice Xk N7 N8);have J:=J.set (a:=⟨M,2,none⟩) O (by simp;omega) (.slice Xc Y Z);have J:=J.set (a:=⟨gE,0,none⟩) NJ (by simp;omega) (.int .i64 zx);exact J.cj
        clear G K d;have d:=m;clear m;refine Td ?_;clear d;have NF:=IG zx A NH NI N9 HN HF H z0 z1 z2 z3;clear z0 z1 z2 z3 m0 m1 m2 m3;go_wp2_with fail;go_meet;exact⟨M,gE,⟨kx,⟨Xe,Ny,Nz⟩,⟨Xk,N7,N8⟩,⟨Xc,Y,Z⟩⟩,zx,rfl,rfl,NF,NQ⟩
       ·go_simp
        clear d;refine Th G ?_ (fun d=>?_)
        ·exact (l.alloc _).cj
        clear G K;obtain⟨gE,v7,U,NK,u,b0⟩:=Er v6 (.int .i64 0) 43;have NI:=jy U A.o;have NJ:=jy U l.below;have Ob:=fU U l.c0;have Od:=fU U l.c2;have Og:=fU U l.c6
        have N9:M≠gE:=by have h:=HF.1;omega
        have NZ:¬gE=M:=fun h=>N9 h.symm;obtain⟨l,R,RX,L,B,C,A,HZ⟩:=lZ u l R RX L B C A HZ;obtain⟨HF,RG⟩:=gI u HF RG;have HY:=ah ((Kept.a_ A).af b0);have H:=p_ U NK;have NY:gE<v7.heap.size:=H.1;(try rw[← NK]at d);rw[← NK];rw[← U];clear U NK u b0;refine Tc 6 (fun K G=>?_);go_simp;(go_at_call 48;refine (dX t xp xa xs xv xA xn xc a n Ge Gk gn gm gc gd v7 HT Oq NV N2 RG).mono ?_);rintro e v8 ⟨kx,zx,Xe,Ny,Nz,Xk,N7,N8,Xc,Y,Z,rfl,NE,NC,u⟩;have HN:ai (dQ v8 (fun b=>v3.heap.size≤b∧b≠M∧b≠gE) ⟨kx,⟨Xe,Ny,Nz⟩,⟨Xk,N7,N8⟩,⟨Xc,Y,Z⟩⟩):=dQ.b_ NE (fun b hb _=>⟨aN A.size hb,by have h:=HF.1;omega,by have h:=H.1;omega⟩);have NQ:=ah NC.o
        clear NE NC;obtain⟨l,R,RX,L,B,C,A,HZ⟩:=lZ u l R RX L B C A HZ;obtain⟨HF,RG,HY,H⟩:=iR u HF RG HY H;clear u;obtain⟨z0,z1,z2,-⟩:=HZ.cj;have z3:=HY.c0;have m0:=HF.2 0;have m1:=HF.2 1;have m2:=HF.2 2;have m3:=H.2 0;clear d;refine Th G ?_ (fun d=>?_)
        ·exact l.cj
        clear G K;refine T3 7 31 8 39 9 40 ?_;refine Tc 12 (fun K G=>?_);go_simp;refine Th G ?_ (fun m=>?_)
        ·(try dsimp only)
         have J:=l.tZ (g:=M) O (by simp;omega) (.slice Xe Ny Nz) (.slice Xk N7 N8) (.slice Xc Y Z);exact J.cj
        clear G K d;have d:=m;clear m;refine Tc 13 (fun K G=>?_);go_simp;refine Th G ?_ (fun m=>?_)
        ·(try dsimp only)
         have J:=l.o;have J:=J.set (a:=⟨M,0,none⟩) O (by simp;omega) (.slice Xe Ny Nz);have J:=J.set (a:=⟨M,1,none⟩) O (by simp;omega) (.slice Xk N7 N8);have J:=J.set (a:=⟨M,2,none⟩) O (by simp;omega) (.slice Xc Y Z);have J:=J.set (a:=⟨gE,0,none⟩) NJ (by simp;omega) (.int .i64 zx);exact J.cj
        clear G K d;have d:=m;clear m;refine Td ?_;clear d;have NF:=IG zx A NH NI N9 HN HF H z0 z1 z2 z3;clear z0 z1 z2 z3 m0 m1 m2 m3;go_wp2_with fail;go_meet;exact⟨M,gE,⟨kx,⟨Xe,Ny,Nz⟩,⟨Xk,N7,N8⟩,⟨Xc,Y,Z⟩⟩,zx,rfl,rfl,NF,NQ⟩
      ·go_simp
       clear d;refine Th G ?_ (fun d=>?_)
       ·exact (l.alloc _).cj
       clear G K;obtain⟨gE,v6,U,NS,u,b0⟩:=Er v5 (.int .i64 0) 43;have NI:=jy U A.o;have NJ:=jy U l.below;have Ob:=fU U l.c0;have Od:=fU U l.c2;have Og:=fU U l.c6
       have N9:M≠gE:=by have h:=HF.1;omega
       have NZ:¬gE=M:=fun h=>N9 h.symm;obtain⟨l,R,RX,L,B,C,A,HZ⟩:=lZ u l R RX L B C A HZ;have HF:=ah (HF.later u);have HY:=ah ((Kept.a_ A).af b0);have H:=p_ U NS;have NY:gE<v6.heap.size:=H.1;(try rw[← NS]at d);rw[← NS];rw[← U];clear U NS u b0;refine Tc 3 (fun K G=>?_);go_simp;(go_at_call 49;refine (j6 t Ae Ak ne nk ce ck v6 xp xA xn xc O4 (by have:=N.o;omega) RX N.2.2 (by have:=N.o;omega) R).mono ?_);rintro e v7 ⟨Ge,gn,gc,Gk,gm,gd,rfl,NN,u⟩;rw[if_pos OC.o]at NN;have RG:ai (aF v7 v7.heap.size (aI t xp) ⟨Ge,gn,gc⟩ ⟨Gk,gm,gd⟩):=NN.rd;clear NN;obtain⟨l,R,RX,L,B,C,A,HZ⟩:=lZ u l R RX L B C A HZ;obtain⟨HF,HY,H⟩:=kX u HF HY H;clear u
       clear d;refine Th G ?_ (fun d=>?_)
       ·exact l.cj
       clear G K;refine Tc 6 (fun K G=>?_);go_simp;(go_at_call 48;refine (dX t xp xa xs xv xA xn xc a n Ge Gk gn gm gc gd v7 HT Oq NV N2 RG).mono ?_);rintro e v8 ⟨kx,zx,Xe,Ny,Nz,Xk,N7,N8,Xc,Y,Z,rfl,NE,NC,u⟩;have HN:ai (dQ v8 (fun b=>v3.heap.size≤b∧b≠M∧b≠gE) ⟨kx,⟨Xe,Ny,Nz⟩,⟨Xk,N7,N8⟩,⟨Xc,Y,Z⟩⟩):=dQ.b_ NE (fun b hb _=>⟨aN A.size hb,by have h:=HF.1;omega,by have h:=H.1;omega⟩);have NQ:=ah NC.o;clear NE NC;obtain⟨l,R,RX,L,B,C,A,HZ⟩:=lZ u l R RX L B C A HZ;obtain⟨HF,HY,H,RG⟩:=iR u HF HY H RG;clear u;obtain⟨z0,z1,z2,-⟩:=HZ.cj;have z3:=HY.c0;have m0:=HF.2 0;have m1:=HF.2 1;have m2:=HF.2 2;have m3:=H.2 0;clear d
       refine Th G ?_ (fun d=>?_)
       ·exact l.cj
       clear G K;refine T3 7 31 8 39 9 40 ?_;refine Tc 12 (fun K G=>?_);go_simp;refine Th G ?_ (fun m=>?_)
       ·(try dsimp only)
        have J:=l.tZ (g:=M) O (by simp;omega) (.slice Xe Ny Nz) (.slice Xk N7 N8) (.slice Xc Y Z);exact J.cj
       clear G K d;have d:=m;clear m;refine Tc 13 (fun K G=>?_);go_simp;refine Th G ?_ (fun m=>?_)
       ·(try dsimp only)
        have J:=l.o;have J:=J.set (a:=⟨M,0,none⟩) O (by simp;omega) (.slice Xe Ny Nz);have J:=J.set (a:=⟨M,1,none⟩) O (by simp;omega) (.slice Xk N7 N8);have J:=J.set (a:=⟨M,2,none⟩) O (by simp;omega) (.slice Xc Y Z);have J:=J.set (a:=⟨gE,0,none⟩) NJ (by simp;omega) (.int .i64 zx);exact J.cj
       clear G K d;have d:=m;clear m;refine Td ?_;clear d;have NF:=IG zx A NH NI N9 HN HF H z0 z1 z2 z3;clear z0 z1 z2 z3 m0 m1 m2 m3;go_wp2_with fail;go_meet;exact⟨M,gE,⟨kx,⟨Xe,Ny,Nz⟩,⟨Xk,N7,N8⟩,⟨Xc,Y,Z⟩⟩,zx,rfl,rfl,NF,NQ⟩
     ·go_simp
      clear d;refine Th G ?_ (fun d=>?_)
      ·exact (l.alloc _).cj
      clear G K;obtain⟨gE,v5,U,O6,u,b0⟩:=Er v4 (.int .i64 0) 43;have NI:=jy U A.o;have NJ:=jy U l.below;have Ob:=fU U l.c0;have Od:=fU U l.c2;have Og:=fU U l.c6;obtain⟨l,R,RX,L,B,C,A⟩:=Ed u l R RX L B C A;have HY:=ah ((Kept.a_ A).af b0);have H:=p_ U O6;have NY:gE<v5.heap.size:=H.1;(try rw[← O6]at d);rw[← O6];rw[← U];clear U O6 u b0;refine wpAnyH_ready (rs:=[3,10]) (by kernel_rfl) (by simp) ?_;refine AllReadyH.cons (o:=⟨some 35,_,_,_,_,_⟩) rfl (fun K G=>?_) (AllReadyH.cons (o:=⟨some 10,_,_,_,_,_⟩) rfl (fun K G=>?_) (AllReadyH.nil))
      ·go_simp
       (go_at_call 49;refine (j6 t Ae Ak ne nk ce ck v5 xp xA xn xc O4 (by have:=N.o;omega) RX N.2.2 (by have:=N.o;omega) R).mono ?_);rintro e v6 ⟨Ge,gn,gc,Gk,gm,gd,rfl,NN,u⟩;rw[if_pos OC.o]at NN;have RG:ai (aF v6 v6.heap.size (aI t xp) ⟨Ge,gn,gc⟩ ⟨Gk,gm,gd⟩):=NN.rd;clear NN;obtain⟨l,R,RX,L,B,C,A,HY⟩:=lZ u l R RX L B C A HY;have H:=ah (H.later u);clear u;clear d;refine Th G ?_ (fun d=>?_)
       ·exact l.cj
       clear G K;refine wpAnyH_ready (rs:=[6,10]) (by kernel_rfl) (by simp) ?_;refine AllReadyH.cons (o:=⟨some 38,_,_,_,_,_⟩) rfl (fun K G=>?_) (AllReadyH.cons (o:=⟨some 10,_,_,_,_,_⟩) rfl (fun K G=>?_) (AllReadyH.nil))
       ·go_simp
        (go_at_call 48;refine (dX t xp xa xs xv xA xn xc a n Ge Gk gn gm gc gd v6 HT Oq NV N2 RG).mono ?_);rintro e v7 ⟨kx,zx,Xe,Ny,Nz,Xk,N7,N8,Xc,Y,Z,rfl,NE,NC,u⟩;have HN:ai (dQ v7 (fun b=>v3.heap.size≤b∧b≠gE) ⟨kx,⟨Xe,Ny,Nz⟩,⟨Xk,N7,N8⟩,⟨Xc,Y,Z⟩⟩):=dQ.b_ NE (fun b hb _=>⟨aN A.size hb,by have h:=H.1;omega⟩);have NQ:=ah NC.o;clear NE NC;obtain⟨l,R,RX,L,B,C,A,HY⟩:=lZ u l R RX L B C A HY;obtain⟨H,RG⟩:=gI u H RG;clear u;clear d;refine Th G ?_ (fun d=>?_)
        ·exact l.cj
        clear G K;refine T3 7 31 8 39 9 40 ?_;refine Tc 10 (fun K G=>?_);go_simp;clear d;refine Th G ?_ (fun d=>?_)
        ·exact (l.alloc _).cj
        clear G K;obtain⟨M,v8,Q,NM,u,b0,b1,b2⟩:=rW v7 (.slice none 0 0) (.slice none 0 0) (.slice none 0 0) 42;have NH:=jy Q A.o;have O:=jy Q l.below;have Oa:=fU Q l.c0;have Oc:=fU Q l.c2;have Oe:=fU Q l.c6
        have N9:M≠gE:=by have h:=H.1;omega
        have NZ:¬gE=M:=fun h=>N9 h.symm;have HN:=ah (HN.mono (ok':=fun b=>v3.heap.size≤b∧b≠M∧b≠gE) (fun b hb O1=>⟨hb.1,by omega,hb.2⟩));obtain⟨l,R,RX,L,B,C,A,HY⟩:=lZ u l R RX L B C A HY;obtain⟨H,RG,HN⟩:=kX u H RG HN;have HZ:=ah ((((Kept.a_ A).af b2).af b1).af b0);have HF:=p_ Q NM;have NW:M<v8.heap.size:=HF.1;(try rw[← NM]at d);rw[← NM];rw[← Q];clear Q NM u b0 b1 b2;obtain⟨z0,z1,z2,-⟩:=HZ.cj;have z3:=HY.c0;have m0:=HF.2 0;have m1:=HF.2 1;have m2:=HF.2 2;have m3:=H.2 0;refine Tc 12 (fun K G=>?_);go_simp;refine Th G ?_ (fun m=>?_)
        ·(try dsimp only)
         have J:=l.tZ (g:=M) O (by simp;omega) (.slice Xe Ny Nz) (.slice Xk N7 N8) (.slice Xc Y Z);exact J.cj
        clear G K d;have d:=m;clear m;refine Tc 13 (fun K G=>?_);go_simp;refine Th G ?_ (fun m=>?_)
        ·(try dsimp only)
         have J:=l.o;have J:=J.set (a:=⟨M,0,none⟩) O (by simp;omega) (.slice Xe Ny Nz);have J:=J.set (a:=⟨M,1,none⟩) O (by simp;omega) (.slice Xk N7 N8);have J:=J.set (a:=⟨M,2,none⟩) O (by simp;omega) (.slice Xc Y Z);have J:=J.set (a:=⟨gE,0,none⟩) NJ (by simp;omega) (.int .i64 zx);exact J.cj
        clear G K d;have d:=m;clear m;refine Td ?_;clear d;have NF:=IG zx A NH NI N9 HN HF H z0 z1 z2 z3;clear z0 z1 z2 z3 m0 m1 m2 m3;go_wp2_with fail;go_meet;exact⟨M,gE,⟨kx,⟨Xe,Ny,Nz⟩,⟨Xk,N7,N8⟩,⟨Xc,Y,Z⟩⟩,zx,rfl,rfl,NF,NQ⟩
       ·go_simp
        clear d;refine Th G ?_ (fun d=>?_)
        ·exact (l.alloc _).cj
        clear G K;obtain⟨M,v7,Q,NK,u,b0,b1,b2⟩:=rW v6 (.slice none 0 0) (.slice none 0 0) (.slice none 0 0) 42;have NH:=jy Q A.o;have O:=jy Q l.below;have Oa:=fU Q l.c0;have Oc:=fU Q l.c2;have Oe:=fU Q l.c6
        have N9:M≠gE:=by have h:=H.1;omega
        have NZ:¬gE=M:=fun h=>N9 h.symm;obtain⟨l,R,RX,L,B,C,A,HY⟩:=lZ u l R RX L B C A HY;obtain⟨H,RG⟩:=gI u H RG;have HZ:=ah ((((Kept.a_ A).af b2).af b1).af b0);have HF:=p_ Q NK;have NW:M<v7.heap.size:=HF.1;(try rw[← NK]at d);rw[← NK];rw[← Q];clear Q NK u b0 b1 b2;refine Tc 6 (fun K G=>?_);go_simp;(go_at_call 48;refine (dX t xp xa xs xv xA xn xc a n Ge Gk gn gm gc gd v7 HT Oq NV N2 RG).mono ?_);rintro e v8 ⟨kx,zx,Xe,Ny,Nz,Xk,N7,N8,Xc,Y,Z,rfl,NE,NC,u⟩;have HN:ai (dQ v8 (fun b=>v3.heap.size≤b∧b≠M∧b≠gE) ⟨kx,⟨Xe,Ny,Nz⟩,⟨Xk,N7,N8⟩,⟨Xc,Y,Z⟩⟩):=dQ.b_ NE (fun b hb _=>⟨aN A.size hb,by have h:=HF.1;omega,by have h:=H.1;omega⟩)
        have NQ:=ah NC.o;clear NE NC;obtain⟨l,R,RX,L,B,C,A,HY⟩:=lZ u l R RX L B C A HY;obtain⟨H,RG,HZ,HF⟩:=iR u H RG HZ HF;clear u;obtain⟨z0,z1,z2,-⟩:=HZ.cj;have z3:=HY.c0;have m0:=HF.2 0;have m1:=HF.2 1;have m2:=HF.2 2;have m3:=H.2 0;clear d;refine Th G ?_ (fun d=>?_)
        ·exact l.cj
        clear G K;refine T3 7 31 8 39 9 40 ?_;refine Tc 12 (fun K G=>?_);go_simp;refine Th G ?_ (fun m=>?_)
        ·(try dsimp only)
         have J:=l.tZ (g:=M) O (by simp;omega) (.slice Xe Ny Nz) (.slice Xk N7 N8) (.slice Xc Y Z);exact J.cj
        clear G K d;have d:=m;clear m;refine Tc 13 (fun K G=>?_);go_simp;refine Th G ?_ (fun m=>?_)
        ·(try dsimp only)
         have J:=l.o;have J:=J.set (a:=⟨M,0,none⟩) O (by simp;omega) (.slice Xe Ny Nz);have J:=J.set (a:=⟨M,1,none⟩) O (by simp;omega) (.slice Xk N7 N8);have J:=J.set (a:=⟨M,2,none⟩) O (by simp;omega) (.slice Xc Y Z);have J:=J.set (a:=⟨gE,0,none⟩) NJ (by simp;omega) (.int .i64 zx);exact J.cj
        clear G K d;have d:=m;clear m;refine Td ?_;clear d;have NF:=IG zx A NH NI N9 HN HF H z0 z1 z2 z3;clear z0 z1 z2 z3 m0 m1 m2 m3;go_wp2_with fail;go_meet;exact⟨M,gE,⟨kx,⟨Xe,Ny,Nz⟩,⟨Xk,N7,N8⟩,⟨Xc,Y,Z⟩⟩,zx,rfl,rfl,NF,NQ⟩
      ·go_simp
       clear d;refine Th G ?_ (fun d=>?_)
       ·exact (l.alloc _).cj
       clear G K;obtain⟨M,v6,Q,NS,u,b0,b1,b2⟩:=rW v5 (.slice none 0 0) (.slice none 0 0) (.slice none 0 0) 42;have NH:=jy Q A.o;have O:=jy Q l.below;have Oa:=fU Q l.c0;have Oc:=fU Q l.c2;have Oe:=fU Q l.c6
       have N9:M≠gE:=by have h:=H.1;omega
       have NZ:¬gE=M:=fun h=>N9 h.symm;obtain⟨l,R,RX,L,B,C,A,HY⟩:=lZ u l R RX L B C A HY;have H:=ah (H.later u);have HZ:=ah ((((Kept.a_ A).af b2).af b1).af b0);have HF:=p_ Q NS;have NW:M<v6.heap.size:=HF.1;(try rw[← NS]at d);rw[← NS];rw[← Q];clear Q NS u b0 b1 b2;refine Tc 3 (fun K G=>?_);go_simp;(go_at_call 49;refine (j6 t Ae Ak ne nk ce ck v6 xp xA xn xc O4 (by have:=N.o;omega) RX N.2.2 (by have:=N.o;omega) R).mono ?_);rintro e v7 ⟨Ge,gn,gc,Gk,gm,gd,rfl,NN,u⟩;rw[if_pos OC.o]at NN;have RG:ai (aF v7 v7.heap.size (aI t xp) ⟨Ge,gn,gc⟩ ⟨Gk,gm,gd⟩):=NN.rd;clear NN;obtain⟨l,R,RX,L,B,C,A,HY⟩:=lZ u l R RX L B C A HY;obtain⟨H,HZ,HF⟩:=kX u H HZ HF
       clear u;clear d;refine Th G ?_ (fun d=>?_)
       ·exact l.cj
       clear G K;refine Tc 6 (fun K G=>?_);go_simp;(go_at_call 48;refine (dX t xp xa xs xv xA xn xc a n Ge Gk gn gm gc gd v7 HT Oq NV N2 RG).mono ?_);rintro e v8 ⟨kx,zx,Xe,Ny,Nz,Xk,N7,N8,Xc,Y,Z,rfl,NE,NC,u⟩;have HN:ai (dQ v8 (fun b=>v3.heap.size≤b∧b≠M∧b≠gE) ⟨kx,⟨Xe,Ny,Nz⟩,⟨Xk,N7,N8⟩,⟨Xc,Y,Z⟩⟩):=dQ.b_ NE (fun b hb _=>⟨aN A.size hb,by have h:=HF.1;omega,by have h:=H.1;omega⟩);have NQ:=ah NC.o;clear NE NC;obtain⟨l,R,RX,L,B,C,A,HY⟩:=lZ u l R RX L B C A HY;obtain⟨H,HZ,HF,RG⟩:=iR u H HZ HF RG;clear u;obtain⟨z0,z1,z2,-⟩:=HZ.cj;have z3:=HY.c0;have m0:=HF.2 0;have m1:=HF.2 1;have m2:=HF.2 2;have m3:=H.2 0;clear d
       refine Th G ?_ (fun d=>?_)
       ·exact l.cj
       clear G K;refine T3 7 31 8 39 9 40 ?_;refine Tc 12 (fun K G=>?_);go_simp;refine Th G ?_ (fun m=>?_)
       ·(try dsimp only)
        have J:=l.tZ (g:=M) O (by simp;omega) (.slice Xe Ny Nz) (.slice Xk N7 N8) (.slice Xc Y Z);exact J.cj
       clear G K d;have d:=m;clear m;refine Tc 13 (fun K G=>?_);go_simp;refine Th G ?_ (fun m=>?_)
       ·(try dsimp only)
        have J:=l.o;have J:=J.set (a:=⟨M,0,none⟩) O (by simp;omega) (.slice Xe Ny Nz);have J:=J.set (a:=⟨M,1,none⟩) O (by simp;omega) (.slice Xk N7 N8);have J:=J.set (a:=⟨M,2,none⟩) O (by simp;omega) (.slice Xc Y Z);have J:=J.set (a:=⟨gE,0,none⟩) NJ (by simp;omega) (.int .i64 zx);exact J.cj
       clear G K d;have d:=m;clear m;refine Td ?_;clear d;have NF:=IG zx A NH NI N9 HN HF H z0 z1 z2 z3;clear z0 z1 z2 z3 m0 m1 m2 m3;go_wp2_with fail;go_meet;exact⟨M,gE,⟨kx,⟨Xe,Ny,Nz⟩,⟨Xk,N7,N8⟩,⟨Xc,Y,Z⟩⟩,zx,rfl,rfl,NF,NQ⟩
    case rest=>
     obtain⟨Qx,Qt⟩:∃ W,W=wc:=⟨_,rfl⟩;subst Qt;obtain⟨M,gE,⟨kx,⟨Xe,Ny,Nz⟩,⟨Xk,N7,N8⟩,⟨Xc,Y,Z⟩⟩,zx,rfl,rfl,Pt,NC⟩:=hcut;obtain⟨hvD,hvE,Q7,Qr,PN,Qm,Qn⟩:=Pt.o;have u:=PN.below;obtain⟨l,R,RX,L,B,C⟩:=pR u l R RX L B C;clear u;have NQ:=ah NC.o;have Pe:=ah Qr;have OA:=ah PN;have NP:=ah Qm;have H:=ah Qn;have hDE2:¬gE=M:=fun h=>Q7 h.symm;have Qs:r<v3.heap.size∧g<v3.heap.size:=⟨Qa.1,PZ.1⟩;clear NC Pt Qr PN Qm Qn;obtain⟨c0,c1,c2,c3,c4,c5,c6,c7,-⟩:=l.cj;go_wp2_with fail;refine (rY xA xn xc Qx).mono ?_;rintro e w7 ⟨rfl,rfl⟩;obtain⟨gB,W8,PL,P_,u,iB⟩:=Er Qx (.slice xA xn xc) 25
     have hs8:W8.heap.size=gB+1:=by rw[P_,PL];simp
     have N_:p<M∧q<M∧r<M∧g<M∧M<gB∧gE<gB∧p<gE∧q<gE∧r<gE∧g<gE∧w.heap.size≤M∧w.heap.size≤gE:=by
      have h1:=NP.1;have h2:=H.1;have h3:=Qs.1;have h4:=Qs.2;omega
     have Pe:=ah (dQ.later Pe u);obtain⟨OA,NP,H,l,R,RX,L,B⟩:=lZ u OA NP H l R RX L B;have C:=ah (C.later u);clear u;clear c0 c1 c2 c3 c4 c5 c6 c7;rw[← PL,← P_];clear PL P_;go_wp2_with fail;have O7:=l.below
     have I0:LC w [(⟨p,0,none⟩,.slice Ae ne ce),(⟨p,1,none⟩,.slice Ak nk ck),(⟨q,0,none⟩,.slice xA xn xc),(⟨gB,0,none⟩,.slice xA xn xc)] r g M gE (KG t ⟨xp,xa,xs,xv⟩ (a,n) xn []) W8:=by
      have h1:=NQ.o;have h2:xp.length=xn:=O4.o;refine⟨⟨kx,⟨Xe,Ny,Nz⟩,⟨Xk,N7,N8⟩,⟨Xc,Y,Z⟩⟩,zx,⟨⟨?_,h1.len⟩,fun _=>?_⟩,Pe.mono fun b hb _=>?_,?_,B,C,NP,H⟩
      ·have h3:=h1.nodes Oq
       simpa using h3
      ·show gG t ⟨xp,xa,xs,xv⟩ (a,n) (xn-0) kx zx
       rw[Nat.sub_zero,← h2];exact h1
      ·obtain⟨h3,h4,h5⟩:=hb
       exact⟨by omega,by omega,by omega,h4,h5⟩
      ·exact (((((((((((((Kept.a_ O7).af iB).af l.c2).af l.c1).af l.c0).af L.c3).af L.c2).af L.c1).af L.c0).af OA.c3).af OA.c2).af OA.c1).af OA.c0)
     have Pg:fG w.heap.size W8 xA xn (fun j=>xp[j]?.getD ByteArray.empty):=(fG.xI OH).below O7;have hx3:=Q5.o;have Pv:w.heap.size≤W8.heap.size:=O7.size;have PW:ai (∀ (i:Nat) (W:World),i≤xn→(Instr.slice 25 (.slice xA xn xc) none (some (.int .i64 (i:Nat))) none).run Tryz.prog W = .ok (.slice xA i xc) W):=fun i W hi=>wR xA xn xc i (aN hi OH.cap) W;have O0:=ah (aF.more O7.size _ (aF.below Pp O7));have HRX8:=ah ((OH.below O7).more O7.size);clear NQ Pe OA NP H l L B C R RX;refine (wpIn_wide (n:=6)).1 ?_
     refine' wpIn_rangeFunc_ownG (F:=Fence.wide) (n:=6) rfl (by omega) (gf:=104) (lb:=#[.pointer (some ⟨gB,0,none⟩)]) rfl trivial (enters_of Tryz.func104 (by kernel_rfl) rfl)
      (vV Fence.wide 5 trivial rfl (by omega) gB w.heap.size xn xc xA (fun j=>xp[j]?.getD ByteArray.empty) (by omega) W8 (by omega) (by omega) iB Pg) Gi (LH (by omega) (by omega)) (bN) (fun _=>rfl)
      (fun pre W=>LC w [(⟨p,0,none⟩,.slice Ae ne ce),(⟨p,1,none⟩,.slice Ak nk ck),(⟨q,0,none⟩,.slice xA xn xc),(⟨gB,0,none⟩,.slice xA xn xc)] r g M gE (KG t ⟨xp,xa,xs,xv⟩ (a,n) xn pre) W∧av w W)
      (fun c pre W=>∃ z:Int,c = .ret∧¬z=0∧(iA xn pre→z=er)∧Kept [(⟨r,0,none⟩,.slice none 0 0),(⟨r,1,none⟩,.slice none 0 0),(⟨r,2,none⟩,.slice none 0 0),(⟨g,0,none⟩,.int .i64 z)] w W)
      (fun pre W W' PV hs hg hr=>by
       have Ph:=ownFrom_below (β:=Unit) (n₀:=w.heap.size) (w₀:=w) (bG) Pv () W W' PV hs.2 hg hr
       exact⟨LC.grown hs.1 hg (fun r' e=>(hr r' e).2) Ph,Ph⟩)
      (fun c pre W W' PV hs hg hr=>by
       obtain⟨z,h1,h2,h3,h4⟩:=hs;have Ph:=ownFrom_below (β:=Unit) (n₀:=w.heap.size) (w₀:=w) (bG) Pv () W W' PV h4.below hg hr
       exact⟨z,h1,h2,h3,Kept.grown h4 hg (fun r' e=>(hr r' e).2) Ph⟩)
      ⟨I0,O7⟩ _ ?assign ?body ?done ?stop
     case assign=>
      intro l' x W K G
      gi_wp2
      exact G
     case body=>
      rintro l' pre ⟨i,hi⟩ V ⟨⟨⟨kd,⟨De,Ow,Ox⟩,⟨Dk,Oy,Oz⟩,⟨Dc,Ot,Ov⟩⟩,zd,hU,hN,G,OW,OX,Pj,Pk⟩,hB⟩ O1
      have Qu:i<xp.length:=by rw[O4.o];exact hi
      obtain⟨Pb,OY⟩:∃ k,k=xp[i]:=⟨_,rfl⟩
      have Qo:xp[i]?.getD ByteArray.empty=Pb:=by rw[v_ Qu,OY];rfl
      simp only[Qo];have NA:ai (Kept [(⟨M,0,none⟩,.slice De Ow Ox),(⟨M,1,none⟩,.slice Dk Oy Oz),(⟨M,2,none⟩,.slice Dc Ot Ov),(⟨gE,0,none⟩,.int .i64 zd),(⟨r,0,none⟩,.slice none 0 0),(⟨r,1,none⟩,.slice none 0 0),(⟨r,2,none⟩,.slice none 0 0),(⟨g,0,none⟩,.int .i64 0),(⟨p,0,none⟩,.slice Ae ne ce),(⟨p,1,none⟩,.slice Ak nk ck),(⟨q,0,none⟩,.slice xA xn xc),(⟨gB,0,none⟩,.slice xA xn xc)] w V):=G;have NU:=ah hN;have HU:=ah hU;have B:=ah OW;have C:=ah OX;have NP:=ah Pj;have H:=ah Pk;have l:ai (Kept [(⟨r,0,none⟩,.slice none 0 0),(⟨r,1,none⟩,.slice none 0 0),(⟨r,2,none⟩,.slice none 0 0),(⟨g,0,none⟩,.int .i64 0),(⟨p,0,none⟩,.slice Ae ne ce),(⟨p,1,none⟩,.slice Ak nk ck),(⟨q,0,none⟩,.slice xA xn xc),(⟨gB,0,none⟩,.slice xA xn xc)] w V):=NA.tail.tail.tail.tail
      have Qz:=ah OY;have HB:=ah hB;have Qe:=ah O1;have HI:=ah hi;clear G hN hU OW OX Pj Pk Qo OY hB I0 Pg O1 iB
      by_cases hz:zd=0
      ·subst hz
       have e0:=NA.c3
       gi_wp2
       clear e0
       have OI:ai (nodes kd.1≤8∧Ot≤964):=by
        have h1:=HU.1;have h2:=NU.len;have h3:=Qe.o;have h4:=N2.o;dsimp only at h2;unfold ai;omega
       obtain⟨x,hx⟩:∃ x,x=aI t (xp.take i):=⟨_,rfl⟩;obtain⟨ky,PO⟩:∃ k,vw x Pb kd=k:=⟨_,rfl⟩;obtain⟨zy,PU⟩:∃ z,rR x Pb kd=z:=⟨_,rfl⟩
       have Qg:ai (KG t ⟨xp,xa,xs,xv⟩ (a,n) xn (pre++[⟨i,hi⟩]) ky zy):=by
        have h:=KG.step (x:=⟨i,hi⟩) HT Oq HD O4 HU Qu Qe.o;dsimp only at h;rw[← hx,← Qz.o,PO,PU]at h;exact h
       have HX:=ah hx;have Qb:=ah PO;have Qi:=ah PU
       have Pf:ai (nodes x≤240):=ah (by rw[hx];exact aN (fP t _) N2)
       have OV:=fun W=>PW.o i W (oZ hi);have Ou:=ah (aF.more HB.size _ (aF.below Pp HB));have NT:=ah ((OH.below HB).more HB.size)
       have Qd:ai ((xp.take i).length=i):=ah (by rw[l7];omega)
       clear hx PO PU;have Qc:ai (V.cell? ⟨gB,0,none⟩=some (.slice xA xn xc)):=l.c7;refine Rnd.wX (S:=eB _) (by kernel_rfl) (by kernel_rfl) (fun ⟨_,_,h⟩=>h) l.drew.cj (fun d=>?_);obtain⟨v1,O9,u⟩:=mW V;obtain⟨l,NA,NU,B,C,NP,H,Ou⟩:=lZ u l NA NU B C NP H Ou;have NT:=ah (NT.later u);have A:=ah u;clear u;rw[← O9]at d ⊢;clear O9;obtain⟨d0,d1,d2,-⟩:=NA.cj;refine T4 0 51 1 52 2 53 3 54 ?_;refine T2 4 55 6 57 ?_;refine wpAnyH_ready (rs:=[5,7]) (by kernel_rfl) (by simp) ?_;refine AllReadyH.cons (o:=⟨some 56,_,_,_,_,_⟩) rfl (fun K G=>?_) (AllReadyH.cons (o:=⟨some 58,_,_,_,_,_⟩) rfl (fun K G=>?_) (AllReadyH.nil))
       ·go_simp
        clear d0 d1 d2;(go_at_call 49;refine (j6 t Ae Ak ne nk ce ck v1 (xp.take i) xA i xc Qd (by omega) (Br NT (oZ HI)) N.2.2 (by have:=N.o;omega) Ou).mono ?_);rintro e v2 ⟨Ge,gn,gc,Gk,gm,gd,rfl,NN,u⟩;rw[if_pos OC.o,← HX.o]at NN;have RG:ai (aF v2 v2.heap.size x ⟨Ge,gn,gc⟩ ⟨Gk,gm,gd⟩):=NN.rd;clear NN;obtain⟨l,NA,NU,B,C,NP,H,Ou⟩:=lZ u l NA NU B C NP H Ou;obtain⟨NT,A⟩:=gI u NT A;clear u;obtain⟨d0,d1,d2,-⟩:=NA.cj;clear d;refine Th G ?_ (fun d=>?_)
        ·exact l.cj
        clear G K;refine Tc 7 (fun K G=>?_);go_simp;clear d;refine Th G ?_ (fun d=>?_)
        ·exact l.cj
        clear G K;clear d0 d1 d2;refine Tc 8 (fun K G=>?_);go_simp;(go_at_call 51;refine (yC x Ge Gk gn gm gc gd Pb kd De Dk Dc Ow Ox Oy Oz Ot Ov v2 (LenT.few (by have:=Pf.o;omega)) (by have:=Pf.o;omega) RG (LenT.few (by have:=OI.o;omega)) (by have:=OI.o;omega) (by have:=OI.o;omega) NU.rd).mono ?_);rw[Qb.o,Qi.o];rintro e v3 ⟨Ye,Oj,Ol,Yk,Om,Oo,Yc,Oh,Oi,rfl,NE,u⟩;have P7:ai (dQ v3 (fun b=>v2.heap.size≤b) ⟨ky,⟨Ye,Oj,Ol⟩,⟨Yk,Om,Oo⟩,⟨Yc,Oh,Oi⟩⟩):=dQ.b_ NE (fun b hb _=>hb);have P9:ai (w.heap.size≤v2.heap.size∧r<v2.heap.size∧g<v2.heap.size∧M<v2.heap.size∧gE<v2.heap.size):=⟨l.below.size,B.1,C.1,NP.1,H.1⟩;clear NE;obtain⟨l,NA,NU,B,C,NP,H,Ou⟩:=lZ u l NA NU B C NP H Ou
        obtain⟨NT,A,RG⟩:=kX u NT A RG;clear u;obtain⟨z0,z1,z2,z3,-⟩:=NA.cj;have m0:=NP.2 0;have m1:=NP.2 1;have m2:=NP.2 2;have m3:=H.2 0;clear d;refine Th G ?_ (fun d=>?_)
        ·exact l.cj
        clear G K;refine T3 9 50 10 60 11 61 ?_;refine Tc 12 (fun K G=>?_);go_simp;refine Th G ?_ (fun m=>?_)
        ·(try dsimp only)
         have J:=l.o;have J:=J.set (a:=⟨M,0,none⟩) N_.2.2.2.2.2.2.2.2.2.2.1 (by simp;omega) (.slice Ye Oj Ol);have J:=J.set (a:=⟨M,1,none⟩) N_.2.2.2.2.2.2.2.2.2.2.1 (by simp;omega) (.slice Yk Om Oo);have J:=J.set (a:=⟨M,2,none⟩) N_.2.2.2.2.2.2.2.2.2.2.1 (by simp;omega) (.slice Yc Oh Oi);exact J.cj
        clear G K d;have d:=m;clear m;refine Tc 13 (fun K G=>?_);go_simp;refine Th G ?_ (fun m=>?_)
        ·(try dsimp only)
         have J:=l.o;have J:=J.set (a:=⟨M,0,none⟩) N_.2.2.2.2.2.2.2.2.2.2.1 (by simp;omega) (.slice Ye Oj Ol);have J:=J.set (a:=⟨M,1,none⟩) N_.2.2.2.2.2.2.2.2.2.2.1 (by simp;omega) (.slice Yk Om Oo);have J:=J.set (a:=⟨M,2,none⟩) N_.2.2.2.2.2.2.2.2.2.2.1 (by simp;omega) (.slice Yc Oh Oi);have J:=J.set (a:=⟨gE,0,none⟩) N_.2.2.2.2.2.2.2.2.2.2.2 (by simp;omega) (.int .i64 zy);exact J.cj
        clear G K d;have d:=m;clear m;refine Td ?_;clear d;obtain⟨W7,NG⟩:∃ W,W=(((v3.setCell ⟨M,0,none⟩ (.slice Ye Oj Ol)).setCell ⟨M,1,none⟩ (.slice Yk Om Oo)).setCell ⟨M,2,none⟩ (.slice Yc Oh Oi)):=⟨_,rfl⟩;obtain⟨W9,X⟩:∃ W,W=W7.setCell ⟨gE,0,none⟩ (.int .i64 zy):=⟨_,rfl⟩;rw[← NG,← X]
        have OO:ai (KeepsFrom W8.heap.size V W9):=by
         unfold ai;rw[X,NG];exact ((((oI A).trans (bX _ _ _)).trans (bX _ _ _)).trans (bX _ _ _)).trans (bX _ _ _)
        have OM:ai (Below w.heap.size V W9):=by
         unfold ai;rw[X,NG];exact ((((A.mono HB.size).setCell (p:=⟨M,0,none⟩) N_.2.2.2.2.2.2.2.2.2.2.1 _).setCell (p:=⟨M,1,none⟩) N_.2.2.2.2.2.2.2.2.2.2.1 _).setCell (p:=⟨M,2,none⟩) N_.2.2.2.2.2.2.2.2.2.2.1 _).setCell (p:=⟨gE,0,none⟩) N_.2.2.2.2.2.2.2.2.2.2.2 _
        have Px:ai (av w W9):=HB.trans OM
        have OB:ai (Kept [(⟨r,0,none⟩,.slice none 0 0),(⟨r,1,none⟩,.slice none 0 0),(⟨r,2,none⟩,.slice none 0 0),(⟨g,0,none⟩,.int .i64 0),(⟨p,0,none⟩,.slice Ae ne ce),(⟨p,1,none⟩,.slice Ak nk ck),(⟨q,0,none⟩,.slice xA xn xc),(⟨gB,0,none⟩,.slice xA xn xc)] w W9):=by
         unfold ai;rw[X,NG];(try dsimp only);have J:=l.o;have J:=J.set (a:=⟨M,0,none⟩) N_.2.2.2.2.2.2.2.2.2.2.1 (by simp;omega) (.slice Ye Oj Ol);have J:=J.set (a:=⟨M,1,none⟩) N_.2.2.2.2.2.2.2.2.2.2.1 (by simp;omega) (.slice Yk Om Oo);have J:=J.set (a:=⟨M,2,none⟩) N_.2.2.2.2.2.2.2.2.2.2.1 (by simp;omega) (.slice Yc Oh Oi);have J:=J.set (a:=⟨gE,0,none⟩) N_.2.2.2.2.2.2.2.2.2.2.2 (by simp;omega) (.int .i64 zy);exact J
        have q0:W9.cell? ⟨M,0,none⟩=some (.slice Ye Oj Ol):=by rw[X,NG];go_simp
        have q1:W9.cell? ⟨M,1,none⟩=some (.slice Yk Om Oo):=by rw[X,NG];go_simp
        have q2:W9.cell? ⟨M,2,none⟩=some (.slice Yc Oh Oi):=by rw[X,NG];go_simp
        have q3:W9.cell? ⟨gE,0,none⟩=some (.int .i64 zy):=by rw[X,NG];go_simp
        have OP:ai (dQ W9 (fun b=>w.heap.size≤b∧b≠r∧b≠g∧b≠M∧b≠gE) ⟨ky,⟨Ye,Oj,Ol⟩,⟨Yk,Om,Oo⟩,⟨Yc,Oh,Oi⟩⟩):=by
         have h:=P9.o;refine (dQ.keep P7 (w':=W9) (by rw[X,NG];simp[World.setCell]) (fun b hb _=>?_)).mono fun b hb _=>⟨by omega,by omega,by omega,by omega,by omega⟩;rw[X,NG];exact (cZ _ ⟨gE,0,none⟩ _ b (fun e=>by have h2:b=gE:=e;omega)).trans (bR b (by omega))
        have O3:ai (aA r W9∧aA g W9∧aA M W9∧aA gE W9):=by
         unfold ai;rw[X,NG];exact⟨(((B.set _ _).set _ _).set _ _).set _ _,(((C.set _ _).set _ _).set _ _).set _ _,(((NP.set _ _).set _ _).set _ _).set _ _,(((H.set _ _).set _ _).set _ _).set _ _⟩
        have Pw:ai (LC w [(⟨p,0,none⟩,.slice Ae ne ce),(⟨p,1,none⟩,.slice Ak nk ck),(⟨q,0,none⟩,.slice xA xn xc),(⟨gB,0,none⟩,.slice xA xn xc)] r g M gE (KG t ⟨xp,xa,xs,xv⟩ (a,n) xn (pre++[⟨i,hi⟩])) W9):=
         ⟨⟨ky,⟨Ye,Oj,Ol⟩,⟨Yk,Om,Oo⟩,⟨Yc,Oh,Oi⟩⟩,zy,Qg,OP,(((OB.af q3).af q2).af q1).af q0,O3.1,O3.2.1,O3.2.2.1,O3.2.2.2⟩
        have P5:ai (W9.cell? ⟨gB,0,none⟩=V.cell? ⟨gB,0,none⟩):=OB.c7.trans Qc.symm;clear z0 z1 z2 z3 m0 m1 m2 m3 q0 q1 q2 q3 OV X NG
        gi_wp2
        exact⟨OO,⟨OM,P5⟩,Pw,Px⟩
       ·go_simp
        clear d;refine Th G ?_ (fun d=>?_)
        ·exact l.cj
        clear G K;clear d0 d1 d2;refine Tc 5 (fun K G=>?_);go_simp;(go_at_call 49;refine (j6 t Ae Ak ne nk ce ck v1 (xp.take i) xA i xc Qd (by omega) (Br NT (oZ HI)) N.2.2 (by have:=N.o;omega) Ou).mono ?_);rintro e v2 ⟨Ge,gn,gc,Gk,gm,gd,rfl,NN,u⟩;rw[if_pos OC.o,← HX.o]at NN;have RG:ai (aF v2 v2.heap.size x ⟨Ge,gn,gc⟩ ⟨Gk,gm,gd⟩):=NN.rd;clear NN;obtain⟨l,NA,NU,B,C,NP,H,Ou⟩:=lZ u l NA NU B C NP H Ou;obtain⟨NT,A⟩:=gI u NT A;clear u;clear d;refine Th G ?_ (fun d=>?_)
        ·exact l.cj
        clear G K;refine Tc 8 (fun K G=>?_);go_simp;(go_at_call 51;refine (yC x Ge Gk gn gm gc gd Pb kd De Dk Dc Ow Ox Oy Oz Ot Ov v2 (LenT.few (by have:=Pf.o;omega)) (by have:=Pf.o;omega) RG (LenT.few (by have:=OI.o;omega)) (by have:=OI.o;omega) (by have:=OI.o;omega) NU.rd).mono ?_);rw[Qb.o,Qi.o];rintro e v3 ⟨Ye,Oj,Ol,Yk,Om,Oo,Yc,Oh,Oi,rfl,NE,u⟩;have P7:ai (dQ v3 (fun b=>v2.heap.size≤b) ⟨ky,⟨Ye,Oj,Ol⟩,⟨Yk,Om,Oo⟩,⟨Yc,Oh,Oi⟩⟩):=dQ.b_ NE (fun b hb _=>hb);have P9:ai (w.heap.size≤v2.heap.size∧r<v2.heap.size∧g<v2.heap.size∧M<v2.heap.size∧gE<v2.heap.size):=⟨l.below.size,B.1,C.1,NP.1,H.1⟩;clear NE;obtain⟨l,NA,NU,B,C,NP,H,Ou⟩:=lZ u l NA NU B C NP H Ou
        obtain⟨NT,A,RG⟩:=kX u NT A RG;clear u;obtain⟨z0,z1,z2,z3,-⟩:=NA.cj;have m0:=NP.2 0;have m1:=NP.2 1;have m2:=NP.2 2;have m3:=H.2 0;clear d;refine Th G ?_ (fun d=>?_)
        ·exact l.cj
        clear G K;refine T3 9 50 10 60 11 61 ?_;refine Tc 12 (fun K G=>?_);go_simp;refine Th G ?_ (fun m=>?_)
        ·(try dsimp only)
         have J:=l.o;have J:=J.set (a:=⟨M,0,none⟩) N_.2.2.2.2.2.2.2.2.2.2.1 (by simp;omega) (.slice Ye Oj Ol);have J:=J.set (a:=⟨M,1,none⟩) N_.2.2.2.2.2.2.2.2.2.2.1 (by simp;omega) (.slice Yk Om Oo);have J:=J.set (a:=⟨M,2,none⟩) N_.2.2.2.2.2.2.2.2.2.2.1 (by simp;omega) (.slice Yc Oh Oi);exact J.cj
        clear G K d;have d:=m;clear m;refine Tc 13 (fun K G=>?_);go_simp;refine Th G ?_ (fun m=>?_)
        ·(try dsimp only)
         have J:=l.o;have J:=J.set (a:=⟨M,0,none⟩) N_.2.2.2.2.2.2.2.2.2.2.1 (by simp;omega) (.slice Ye Oj Ol);have J:=J.set (a:=⟨M,1,none⟩) N_.2.2.2.2.2.2.2.2.2.2.1 (by simp;omega) (.slice Yk Om Oo);have J:=J.set (a:=⟨M,2,none⟩) N_.2.2.2.2.2.2.2.2.2.2.1 (by simp;omega) (.slice Yc Oh Oi);have J:=J.set (a:=⟨gE,0,none⟩) N_.2.2.2.2.2.2.2.2.2.2.2 (by simp;omega) (.int .i64 zy);exact J.cj
        clear G K d;have d:=m;clear m;refine Td ?_;clear d;obtain⟨W7,NG⟩:∃ W,W=(((v3.setCell ⟨M,0,none⟩ (.slice Ye Oj Ol)).setCell ⟨M,1,none⟩ (.slice Yk Om Oo)).setCell ⟨M,2,none⟩ (.slice Yc Oh Oi)):=⟨_,rfl⟩;obtain⟨W9,X⟩:∃ W,W=W7.setCell ⟨gE,0,none⟩ (.int .i64 zy):=⟨_,rfl⟩;rw[← NG,← X]
        have OO:ai (KeepsFrom W8.heap.size V W9):=by
         unfold ai;rw[X,NG];exact ((((oI A).trans (bX _ _ _)).trans (bX _ _ _)).trans (bX _ _ _)).trans (bX _ _ _)
        have OM:ai (Below w.heap.size V W9):=by
         unfold ai;rw[X,NG];exact ((((A.mono HB.size).setCell (p:=⟨M,0,none⟩) N_.2.2.2.2.2.2.2.2.2.2.1 _).setCell (p:=⟨M,1,none⟩) N_.2.2.2.2.2.2.2.2.2.2.1 _).setCell (p:=⟨M,2,none⟩) N_.2.2.2.2.2.2.2.2.2.2.1 _).setCell (p:=⟨gE,0,none⟩) N_.2.2.2.2.2.2.2.2.2.2.2 _
        have Px:ai (av w W9):=HB.trans OM
        have OB:ai (Kept [(⟨r,0,none⟩,.slice none 0 0),(⟨r,1,none⟩,.slice none 0 0),(⟨r,2,none⟩,.slice none 0 0),(⟨g,0,none⟩,.int .i64 0),(⟨p,0,none⟩,.slice Ae ne ce),(⟨p,1,none⟩,.slice Ak nk ck),(⟨q,0,none⟩,.slice xA xn xc),(⟨gB,0,none⟩,.slice xA xn xc)] w W9):=by
         unfold ai;rw[X,NG];(try dsimp only);have J:=l.o;have J:=J.set (a:=⟨M,0,none⟩) N_.2.2.2.2.2.2.2.2.2.2.1 (by simp;omega) (.slice Ye Oj Ol);have J:=J.set (a:=⟨M,1,none⟩) N_.2.2.2.2.2.2.2.2.2.2.1 (by simp;omega) (.slice Yk Om Oo);have J:=J.set (a:=⟨M,2,none⟩) N_.2.2.2.2.2.2.2.2.2.2.1 (by simp;omega) (.slice Yc Oh Oi);have J:=J.set (a:=⟨gE,0,none⟩) N_.2.2.2.2.2.2.2.2.2.2.2 (by simp;omega) (.int .i64 zy);exact J
        have q0:W9.cell? ⟨M,0,none⟩=some (.slice Ye Oj Ol):=by rw[X,NG];go_simp
        have q1:W9.cell? ⟨M,1,none⟩=some (.slice Yk Om Oo):=by rw[X,NG];go_simp
        have q2:W9.cell? ⟨M,2,none⟩=some (.slice Yc Oh Oi):=by rw[X,NG];go_simp
        have q3:W9.cell? ⟨gE,0,none⟩=some (.int .i64 zy):=by rw[X,NG];go_simp
        have OP:ai (dQ W9 (fun b=>w.heap.size≤b∧b≠r∧b≠g∧b≠M∧b≠gE) ⟨ky,⟨Ye,Oj,Ol⟩,⟨Yk,Om,Oo⟩,⟨Yc,Oh,Oi⟩⟩):=by
         have h:=P9.o;refine (dQ.keep P7 (w':=W9) (by rw[X,NG];simp[World.setCell]) (fun b hb _=>?_)).mono fun b hb _=>⟨by omega,by omega,by omega,by omega,by omega⟩;rw[X,NG];exact (cZ _ ⟨gE,0,none⟩ _ b (fun e=>by have h2:b=gE:=e;omega)).trans (bR b (by omega))
        have O3:ai (aA r W9∧aA g W9∧aA M W9∧aA gE W9):=by
         unfold ai;rw[X,NG];exact⟨(((B.set _ _).set _ _).set _ _).set _ _,(((C.set _ _).set _ _).set _ _).set _ _,(((NP.set _ _).set _ _).set _ _).set _ _,(((H.set _ _).set _ _).set _ _).set _ _⟩
        have Pw:ai (LC w [(⟨p,0,none⟩,.slice Ae ne ce),(⟨p,1,none⟩,.slice Ak nk ck),(⟨q,0,none⟩,.slice xA xn xc),(⟨gB,0,none⟩,.slice xA xn xc)] r g M gE (KG t ⟨xp,xa,xs,xv⟩ (a,n) xn (pre++[⟨i,hi⟩])) W9):=
         ⟨⟨ky,⟨Ye,Oj,Ol⟩,⟨Yk,Om,Oo⟩,⟨Yc,Oh,Oi⟩⟩,zy,Qg,OP,(((OB.af q3).af q2).af q1).af q0,O3.1,O3.2.1,O3.2.2.1,O3.2.2.2⟩
        have P5:ai (W9.cell? ⟨gB,0,none⟩=V.cell? ⟨gB,0,none⟩):=OB.c7.trans Qc.symm;clear z0 z1 z2 z3 m0 m1 m2 m3 q0 q1 q2 q3 OV X NG
        gi_wp2
        exact⟨OO,⟨OM,P5⟩,Pw,Px⟩
      ·have Qh:ai (¬zd=0):=hz
       have f0:(zd != 0)=true:=by simpa using hz
       clear hz;have e0:=NA.c3
       gi_wp2
       have HKc0:=l;clear l;have l:=ah ((Kept.a_ NA.below).af NA.c3);clear e0;refine Rnd.wX (S:=fun W=>W.cell? ⟨gE,0,none⟩=some (.int .i64 zd)) (by kernel_rfl) (by kernel_rfl) (fun ⟨_,_,h⟩=>h) (by have J:=l.drew;exact J.c0) (fun d=>?_);obtain⟨v1,O9,u⟩:=mW V;obtain⟨l,NA,B,C⟩:=iR u l NA B C;have A:=ah u;clear u;rw[← O9]at d ⊢;clear O9;have z0:=NA.c4;have z1:=NA.c5;have z2:=NA.c6;have z3:=NA.c7;have m0:=B.2 0;have m1:=B.2 1;have m2:=B.2 2;have m3:=C.2 0;refine T2 0 48 1 49 ?_;refine Tc 2 (fun K G=>?_);go_simp;refine Th G ?_ (fun m=>?_)
       ·(try dsimp only)
        have J:=l.tZ (g:=r) NR (by simp;omega) (.slice none 0 0) (.slice none 0 0) (.slice none 0 0);exact J.c0
       clear G K d;have d:=m;clear m;refine Tc 3 (fun K G=>?_);go_simp;refine Th G ?_ (fun m=>?_)
       ·(try dsimp only)
        have J:=l.o;have J:=J.set (a:=⟨r,0,none⟩) NR (by simp;omega) (.slice none 0 0);have J:=J.set (a:=⟨r,1,none⟩) NR (by simp;omega) (.slice none 0 0);have J:=J.set (a:=⟨r,2,none⟩) NR (by simp;omega) (.slice none 0 0);have J:=J.set (a:=⟨g,0,none⟩) OG (by simp;omega) (.int .i64 zd);exact J.c0
       clear G K d;have d:=m;clear m;refine Td ?_;clear d;obtain⟨W9,X⟩:∃ W,W=((((v1.setCell ⟨r,0,none⟩ (.slice none 0 0)).setCell ⟨r,1,none⟩ (.slice none 0 0)).setCell ⟨r,2,none⟩ (.slice none 0 0)).setCell ⟨g,0,none⟩ (.int .i64 zd)):=⟨_,rfl⟩
       have OO:ai (KeepsFrom W8.heap.size V W9):=by
        unfold ai;rw[X];exact ((((oI A).trans (bX _ _ _)).trans (bX _ _ _)).trans (bX _ _ _)).trans (bX _ _ _)
       have OU:av w W9:=by
        rw[X];exact (((NA.below.setCell (p:=⟨r,0,none⟩) NR _).setCell (p:=⟨r,1,none⟩) NR _).setCell (p:=⟨r,2,none⟩) NR _).setCell (p:=⟨g,0,none⟩) OG _
       have OB:ai (Kept [(⟨r,0,none⟩,.slice none 0 0),(⟨r,1,none⟩,.slice none 0 0),(⟨r,2,none⟩,.slice none 0 0),(⟨g,0,none⟩,.int .i64 zd)] w W9):=by
        refine ((((Kept.a_ OU).af ?_).af ?_).af ?_).af ?_ <;> (rw[X];go_simp)
       have Qy:ai (iA xn (pre++[⟨i,hi⟩])→zd=er):=fun h=>by
        obtain⟨h1,h2,h3⟩:=(HU.2 h.pre.1).full Qh.o;rw[Pz.o,if_pos h3];exact h1
       have OD:=ah X;clear X z0 z1 z2 z3 m0 m1 m2 m3 OU
       gi_wp2
       rw[← OD.o];exact⟨OO,zd,rfl,Qh,Qy,OB⟩
     case done=>
      rintro D ys V hD ⟨Qj,Ps⟩ ⟨⟨⟨kd,⟨De,Ow,Ox⟩,⟨Dk,Oy,Oz⟩,⟨Dc,Ot,Ov⟩⟩,zd,hU,hN,G,OW,OX,Pj,Pk⟩,hB⟩ OT
      have NC:gG t ⟨xp,xa,xs,xv⟩ (a,n) 0 kd zd:=by
       have h:=hU.2 Qj;rw[Ps,Nat.sub_self]at h;exact h
      have O5:zd=er∧(er=0→kg t ⟨xp,xa,xs,xv⟩ (a,n) kd∧Ot≤4*nodes t+4)∧(¬er=0→kd=bH):=by
       by_cases hz:zd=0
       ·subst hz
        obtain⟨h1,h2⟩:=NC.top
        have h3:er=0:=by rw[Pz.o,if_neg h2]
        refine⟨h3.symm,fun _=>⟨h1,?_⟩,fun h=>absurd h3 h⟩;have h4:=NC.len;have h5:=hN.len;dsimp only at h5;omega
       ·obtain⟨h1,h2,h3⟩:=NC.full hz
        have h4:er=4:=by rw[Pz.o,if_pos h3]
        exact⟨h1.trans h4.symm,fun h=>(by rw[h4]at h;cases h),fun _=>h2⟩
      obtain⟨QD,O5⟩:=O5;obtain rfl:=QD;have P8:=ah O5;have NA:=ah G;have NU:=ah hN;have B:=ah OW;have C:=ah OX
      have Py:ai (w.heap.size≤D):=FL
      have PX:=ah OT;have HBV0:=ah hB;obtain⟨Q9,Q_,QB,QC,-⟩:=NA.cj;clear O5 NC hU hN G OW OX Pj Pk hB OT Qj Ps I0 Pg iB;go_wp2_with fail;clear Q9 Q_ QB QC;have l:=ah (((((Kept.a_ NA.below).af NA.c3).af NA.c2).af NA.c1).af NA.c0);refine Rg (S:=eB _) l.drew.cj (fun d=>?_);obtain⟨v1,O9,u⟩:=mW V;obtain⟨l,NA,NU,B,C⟩:=jo u l NA NU B C;have A:=ah u;clear u;rw[← O9]at d ⊢;clear O9;have z0:=NA.c4;have z1:=NA.c5;have z2:=NA.c6;have z3:=NA.c7;have m0:=B.2 0;have m1:=B.2 1;have m2:=B.2 2;have m3:=C.2 0;refine T2 0 62 1 63 ?_;refine Tc 2 (fun K G=>?_);go_simp;refine Th G ?_ (fun m=>?_)
      ·(try dsimp only)
       have J:=l.tZ (g:=r) NR (by simp;omega) (.slice De Ow Ox) (.slice Dk Oy Oz) (.slice Dc Ot Ov);exact J.cj
      clear G K d;have d:=m;clear m;refine Tc 3 (fun K G=>?_);go_simp;refine Th G ?_ (fun m=>?_)
      ·(try dsimp only)
       have J:=l.o;have J:=J.set (a:=⟨r,0,none⟩) NR (by simp;omega) (.slice De Ow Ox);have J:=J.set (a:=⟨r,1,none⟩) NR (by simp;omega) (.slice Dk Oy Oz);have J:=J.set (a:=⟨r,2,none⟩) NR (by simp;omega) (.slice Dc Ot Ov);have J:=J.set (a:=⟨g,0,none⟩) OG (by simp;omega) (.int .i64 zd);exact J.cj
      clear G K d;have d:=m;clear m;refine Td ?_;clear d;obtain⟨W7,NG⟩:∃ W,W=(((v1.setCell ⟨r,0,none⟩ (.slice De Ow Ox)).setCell ⟨r,1,none⟩ (.slice Dk Oy Oz)).setCell ⟨r,2,none⟩ (.slice Dc Ot Ov)):=⟨_,rfl⟩;obtain⟨W9,X⟩:∃ W,W=W7.setCell ⟨g,0,none⟩ (.int .i64 zd):=⟨_,rfl⟩;rw[← NG,← X]
      have O_:ai (W9.heap[D]?=some (.deferred (some []))):=by
       have h1:v1.heap[D]?=some (.deferred (some [])):=(A.block D (IC.1 PX).1).trans PX.o;unfold ai;rw[X,NG];exact (KeepsOthers.setCell _ _ _).same D _ ((KeepsOthers.setCell _ _ _).same D _ ((KeepsOthers.setCell _ _ _).same D _ ((KeepsOthers.setCell _ _ _).same D _ h1 rfl) rfl) rfl) rfl
      have OU:av w W9:=by
       rw[X,NG];exact (((NA.below.setCell (p:=⟨r,0,none⟩) NR _).setCell (p:=⟨r,1,none⟩) NR _).setCell (p:=⟨r,2,none⟩) NR _).setCell (p:=⟨g,0,none⟩) OG _
      have HJ:ai (Kept [(⟨r,0,none⟩,.slice De Ow Ox),(⟨r,1,none⟩,.slice Dk Oy Oz),(⟨r,2,none⟩,.slice Dc Ot Ov),(⟨g,0,none⟩,.int .i64 zd)] w W9):=by
       refine ((((Kept.a_ OU).af ?_).af ?_).af ?_).af ?_ <;> (rw[X,NG];go_simp)
      have OP:ai (dQ W9 (fun b=>w.heap.size≤b∧b≠r∧b≠g∧b≠M∧b≠gE) ⟨kd,⟨De,Ow,Ox⟩,⟨Dk,Oy,Oz⟩,⟨Dc,Ot,Ov⟩⟩):=by
       refine dQ.keep NU (by rw[X,NG];simp[World.setCell]) (fun b hb _=>?_);rw[X,NG];exact (cZ _ ⟨g,0,none⟩ _ b (fun e=>hb.2.2.1 e)).trans (bR b hb.2.1)
      clear z0 z1 z2 z3 m0 m1 m2 m3 X NG OU;go_wp2_with fail;dsimp only[Rnd.still];refine⟨by simp,.inl ⟨_,_,rfl,run_takeDeferred O_,?_⟩⟩;have hg:=grownBy_putObj' W9 D (.deferred none)
      have hr:∀ r,some D=some r→∃ o:Obj,W9.heap[r]?=some o∧o.isCells=false:=fun r e=>by cases e;exact⟨_,O_,rfl⟩
      have PE:=cell_kept HJ.c0 hg hr;have PG:=cell_kept HJ.c1 hg hr;have PI:=cell_kept HJ.c2 hg hr;have PK:=cell_kept HJ.c3 hg hr;refine⟨.tuple #[.agg #[.slice De Ow Ox,.slice Dk Oy Oz,.slice Dc Ot Ov],.int .i64 zd],by simp[results,Tryz.f20,go_sem,PE,PG,PI,PK],kd,De,Ow,Ox,Dk,Oy,Oz,Dc,Ot,Ov,rfl,(by have h:=dQ.grown OP hg hr;exact⟨aX.mono (fun b hb _=>hb.1) _ h.tree,h.len,h.ctx.mono fun b hb _=>hb.1⟩),P8,HJ.below.trans (belowK_b (w:=w) (bG) W9 D _ _ Py O_ rfl rfl)⟩
     case stop=>
      rintro D c' pre W9 hD Q8 ⟨z,rfl,hz,Pq,G⟩ OT;obtain rfl:=Pq Q8;have HJ:=ah G;have O_:=ah OT
      have Py:ai (w.heap.size≤D):=FL
      have Q6:=ah hz;clear G OT I0 Pg iB Pq hz
      gi_wp2
      dsimp only[Rnd.still];refine⟨by simp,.inl ⟨_,_,rfl,run_takeDeferred O_,?_⟩⟩;have hg:=grownBy_putObj' W9 D (.deferred none)
      have hr:∀ r,some D=some r→∃ o:Obj,W9.heap[r]?=some o∧o.isCells=false:=fun r e=>by cases e;exact⟨_,O_,rfl⟩
      have PE:=cell_kept HJ.c0 hg hr;have PG:=cell_kept HJ.c1 hg hr;have PI:=cell_kept HJ.c2 hg hr;have PK:=cell_kept HJ.c3 hg hr;refine⟨.tuple #[.agg #[.slice none 0 0,.slice none 0 0,.slice none 0 0],.int .i64 z],by simp[results,Tryz.f20,go_sem,PE,PG,PI,PK],bH,none,0,0,none,0,0,none,0,0,rfl,eH.no _ _,⟨fun h=>absurd h Q6,fun _=>rfl⟩,HJ.below.trans (belowK_b (w:=w) (bG) W9 D _ _ Py O_ rfl rfl)⟩
  ·have Qf:ai (¬e0=0):=Pn
   have f0:(e0 != 0)=true:=by simpa using Pn
   clear Pn;obtain⟨c0,c1,c2,c3,c4,c5,c6,c7,-⟩:=l.cj;go_enter Tryz.func20,Tryz.ntmps20;go_wp2_with fail;rw[← HW.o,← HP.o]
   try rw[← OJ.o]
   try rw[← O0.o]
   try rw[← OQ.o]
   try rw[← HQ.o]
   refine (bS t Ae Ak ne nk ce ck W N.2.2 R).mono ?_;rw[OE.o];rintro e v1 ⟨rfl,u⟩;obtain⟨l,R,RX,L,B,C⟩:=pR u l R RX L B C;clear u;clear c0 c1 c2 c3 c4 c5 c6 c7;obtain⟨c0,c1,c2,c3,c4,c5,c6,c7,-⟩:=l.cj;go_wp2_with fail;refine (rF xp xa xs xv xA xn xc v1 e0 O8 (by have:=N.o;omega) RX).mono ?_;rintro e v2 ⟨rfl,u⟩;obtain⟨l,R,RX,L,B,C⟩:=pR u l R RX L B C;clear u;clear c0 c1 c2 c3 c4 c5 c6 c7
   have OZ:e0=er:=by
    rw[← Pd.o];unfold qM;rw[if_neg P6.o,if_pos (by rw[O8.o];exact Qf.o)];exact O8.symm
   subst OZ;obtain⟨z0,z1,z2,z3,-⟩:=L.cj;have m0:=B.2 0;have m1:=B.2 1;have m2:=B.2 2;have m3:=C.2 0;obtain⟨W9,X⟩:∃ W,W=(((v2.setCell ⟨r,0,none⟩ (.slice none 0 0)).setCell ⟨r,1,none⟩ (.slice none 0 0)).setCell ⟨r,2,none⟩ (.slice none 0 0)).setCell ⟨g,0,none⟩ (.int .i64 e0):=⟨_,rfl⟩
   have OL:ai (av w W9):=by
    unfold ai;rw[X];exact (((l.below.setCell (p:=⟨r,0,none⟩) NR _).setCell (p:=⟨r,1,none⟩) NR _).setCell (p:=⟨r,2,none⟩) NR _).setCell (p:=⟨g,0,none⟩) OG _
   have l0:W9.cell? ⟨r,0,none⟩=some (.slice none 0 0):=by rw[X];go_simp
   have l1:W9.cell? ⟨r,1,none⟩=some (.slice none 0 0):=by rw[X];go_simp
   have l2:W9.cell? ⟨r,2,none⟩=some (.slice none 0 0):=by rw[X];go_simp
   have l3:W9.cell? ⟨g,0,none⟩=some (.int .i64 e0):=by rw[X];go_simp
   have OD:=ah X;clear X;go_wp2_with fail;rw[← OD.o];refine bodyPost_ret (v:=.tuple #[.agg #[.slice none 0 0,.slice none 0 0,.slice none 0 0],.int .i64 e0]) (by simp[results,Tryz.results20,go_sem,l0,l1,l2,l3]) rfl ⟨bH,none,0,0,none,0,0,none,0,0,rfl,eH.no _ _,⟨fun h=>absurd h Qf,fun _=>rfl⟩,OL⟩
end Cs
end Go.Proofs.YtgeafpaognhokaaGreat
