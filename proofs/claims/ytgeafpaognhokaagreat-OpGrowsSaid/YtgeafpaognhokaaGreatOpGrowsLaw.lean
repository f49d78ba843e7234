/- Proved: the law OpGrows answers true for every list of acts that can be handed in, and leaves its arguments as they were. Conditions: none. -/
import Derived.Test.YtgeafpaognhokaaGreatG00
import Derived.Test.YtgeafpaognhokaaGreatExtraOpGrows
import Derived.Test.YtgeafpaognhokaaGreatG1110
import Derived.Test.YtgeafpaognhokaaGreatG50
import Derived.Test.YtgeafpaognhokaaGreatG60
namespace Go.Proofs.YtgeafpaognhokaaGreat
open ChangeShapes WideShapes ChangeAt RowKit
namespace lawOpGrows
open Tr Cx Cs Sp Rw Classical
set_option maxRecDepth 100000 in
set_option maxHeartbeats 4000000 in
theorem walk_any (l:List uf) (n:Nat) (A:Option Addr) (c:Nat) (w:World) (hl:pu w w.heap.size A n c l) :
  Calls Tryz.prog 11 #[.slice A n c] w fun e w'=>e = .returned (.bool true)∧av w w':=by
 have HA:=ah hl;have a:ai (Kept [] w w):=Kept.a_ (bN);clear hl;go_enter Tryz.func11,Tryz.ntmps11;go_wp2_with fail;refine (mE w).mono ?_;rintro e v1 ⟨rfl,r⟩;obtain⟨a,HA⟩:=gI r a HA;clear r;go_wp2_with fail;refine (uZ l n A c v1 HA).mono ?_;rintro e v2 ⟨b,rfl,Ot,r⟩;have Og:=ah Ot.o;clear Ot;obtain⟨a,HA⟩:=gI r a HA;clear r
 cases b with
 | false=>
  go_wp2_with fail;refine (mE _).mono ?_;rintro e v99 ⟨rfl,r⟩;have a:=ah (a.later r);clear r;go_wp2_with fail;go_ret;exact⟨by first | rfl | simp,a.below⟩
 | true=>
  have NP:=ah (Og.o rfl);clear Og;obtain⟨g,hg⟩:∃ g,g=v2.heap.size:=⟨_,rfl⟩;obtain⟨W,hW⟩:∃ W,W=v2.alloc (.cells #[.slice none 0 0,.slice none 0 0,.slice none 0 0,.slice none 0 0,.slice none 0 0,.slice none 0 0,.slice none 0 0,.slice none 0 0,.slice none 0 0,.int .i64 0,.int .i64 0,.int .i64 0,.slice none 0 0] 67):=⟨_,rfl⟩;have NU:=pK.zero v2;rw[← hg,← hW]at NU;have O1:=ah NU;have HG:=ah hg;have HW:=ah hW;have Oa:ai (av w v2):=a.below;clear NU hg hW a;go_wp2_with fail;rw[← HG.o,← HW.o]
  go_loopw [17] (fun i wr=>∃ (k:Nat) (s:SM),k≤n∧i = .int .i64 k∧ai (pK g v2 s wr)∧ai (rV s)∧ai (s.ev.length≤k)) (fun i _=>n-(intOf i).toNat)
  case atStart=>exact⟨0,Ar,by omega,rfl,O1,rV.zero,bG⟩
  case round=>
   obtain⟨k,s,hk,rfl,G,HK,HE⟩:=hrel;obtain⟨Y,OG⟩:∃ W,W=wr:=⟨_,rfl⟩;subst OG;have hn30:=NP.1
   by_cases NW:k<n
   ·have Om:k<l.length:=by rw[HA.o.len];exact NW
    obtain⟨R,U,rfl,L,hc⟩:=HA.at_ (by omega);obtain⟨a0,a1,a2,a3,a4,a5,a6⟩:=hc k Om;have a9:=a0;have a0:=(G.below.cell (p:=⟨R,U+k*7,none⟩) L).trans a0;have a1:=(G.below.cell (p:=⟨R,U+k*7+1,none⟩) L).trans a1;have a2:=(G.below.cell (p:=⟨R,U+k*7+2,none⟩) L).trans a2;have a3:=(G.below.cell (p:=⟨R,U+k*7+3,none⟩) L).trans a3;have a4:=(G.below.cell (p:=⟨R,U+k*7+4,none⟩) L).trans a4;have a5:=(G.below.cell (p:=⟨R,U+k*7+5,none⟩) L).trans a5;have a6:=(G.below.cell (p:=⟨R,U+k*7+6,none⟩) L).trans a6;obtain⟨NN,NA⟩:∃ x,x=l[k]:=⟨_,rfl⟩
    have N_:NN∈l:=by rw[NA];exact bT Om
    rw[← NA]at a9 a0 a1 a2 a3 a4 a5 a6;have N9:=HA.each NN N_;have Ou:=NP.2 NN N_;clear hc NA N_;obtain⟨wh,fr,he,⟨xp,xa,xs,xv⟩,⟨xA,xn,xc⟩⟩:=NN;dsimp only at a0 a1 a2 a3 a4 a5 a6 a9 N9 Ou;obtain⟨Oq,Nz,Oj⟩:=N9;obtain⟨i,hi,NV⟩:∃ i:Nat,wh % 3=((i:Nat):Int)∧i<3:=⟨(wh % 3).toNat,by omega,by omega⟩;obtain⟨j,hj,Ol⟩:∃ j:Nat,fr % 3=((j:Nat):Int)∧j<3:=⟨(fr % 3).toNat,by omega,by omega⟩;have NZ:=ah (And.intro L a9);have HI:=ah (And.intro hi NV);have O5:=ah Nz;obtain⟨X,NM⟩:∃ z,z=Y.heap.size:=⟨_,rfl⟩;obtain⟨W1,C⟩:∃ Z,Z=Y.alloc (.cells #[.slice (s.know 0).e.A (s.know 0).e.n (s.know 0).e.c,.slice (s.know 0).d.A (s.know 0).d.n (s.know 0).d.c,.slice (s.know 0).c.A (s.know 0).c.n (s.know 0).c.c,.slice (s.know 1).e.A (s.know 1).e.n (s.know 1).e.c,.slice (s.know 1).d.A (s.know 1).d.n (s.know 1).d.c,.slice (s.know 1).c.A (s.know 1).c.n (s.know 1).c.c,.slice (s.know 2).e.A (s.know 2).e.n (s.know 2).e.c,.slice (s.know 2).d.A (s.know 2).d.n (s.know 2).d.c,.slice (s.know 2).c.A (s.know 2).c.n (s.know 2).c.c,.int .i64 ((s.num 0:Nat):Int),.int .i64 ((s.num 1:Nat):Int),.int .i64 ((s.num 2:Nat):Int),.slice s.A s.n s.c] 67):=⟨_,rfl⟩
    have D:av Y W1:=by rw[C];exact Dt.ay _ _ _
    have Oc:=ah (G.later D);have Oe:=ah (yj g v2 s wh fr he xp xa xs xv xA xn xc i j W1 hi NV hj Ol Nz Oj Oc HK (by have:=HE.o;omega) (by omega) Oq);obtain⟨d0,d1,d2⟩:=G.ck 0 (by omega);obtain⟨d3,d4,d5⟩:=G.ck 1 (by omega);obtain⟨d6,d7,d8⟩:=G.ck 2 (by omega);have d0:Y.cell? ⟨g,0,none⟩=some (.slice (s.know 0).e.A (s.know 0).e.n (s.know 0).e.c):=d0;have d1:Y.cell? ⟨g,1,none⟩=some (.slice (s.know 0).d.A (s.know 0).d.n (s.know 0).d.c):=d1;have d2:Y.cell? ⟨g,2,none⟩=some (.slice (s.know 0).c.A (s.know 0).c.n (s.know 0).c.c):=d2;have d3:Y.cell? ⟨g,3,none⟩=some (.slice (s.know 1).e.A (s.know 1).e.n (s.know 1).e.c):=d3;have d4:Y.cell? ⟨g,4,none⟩=some (.slice (s.know 1).d.A (s.know 1).d.n (s.know 1).d.c):=d4;have d5:Y.cell? ⟨g,5,none⟩=some (.slice (s.know 1).c.A (s.know 1).c.n (s.know 1).c.c):=d5
    have d6:Y.cell? ⟨g,6,none⟩=some (.slice (s.know 2).e.A (s.know 2).e.n (s.know 2).e.c):=d6;have d7:Y.cell? ⟨g,7,none⟩=some (.slice (s.know 2).d.A (s.know 2).d.n (s.know 2).d.c):=d7;have d8:Y.cell? ⟨g,8,none⟩=some (.slice (s.know 2).c.A (s.know 2).c.n (s.know 2).c.c):=d8;have d9:Y.cell? ⟨g,9,none⟩=some (.int .i64 ((s.num 0:Nat):Int)):=G.cn 0 (by omega);have O7:Y.cell? ⟨g,10,none⟩=some (.int .i64 ((s.num 1:Nat):Int)):=G.cn 1 (by omega);have O8:Y.cell? ⟨g,11,none⟩=some (.int .i64 ((s.num 2:Nat):Int)):=G.cn 2 (by omega);have O9:=G.ca;have e0:=(D.cell (p:=⟨R,U+k*7,none⟩) (aL _ _ a0)).trans a0;rw[C]at e0;have e1:=(D.cell (p:=⟨R,U+k*7+1,none⟩) (aL _ _ a1)).trans a1;rw[C]at e1;have e2:=(D.cell (p:=⟨R,U+k*7+2,none⟩) (aL _ _ a2)).trans a2
    rw[C]at e2;have e3:=(D.cell (p:=⟨R,U+k*7+3,none⟩) (aL _ _ a3)).trans a3;rw[C]at e3;have e4:=(D.cell (p:=⟨R,U+k*7+4,none⟩) (aL _ _ a4)).trans a4;rw[C]at e4;have e5:=(D.cell (p:=⟨R,U+k*7+5,none⟩) (aL _ _ a5)).trans a5;rw[C]at e5;have e6:=(D.cell (p:=⟨R,U+k*7+6,none⟩) (aL _ _ a6)).trans a6;rw[C]at e6;have NT:=ah NM;have O4:=ah C
    have N:∀ q v,(#[.slice (s.know 0).e.A (s.know 0).e.n (s.know 0).e.c,.slice (s.know 0).d.A (s.know 0).d.n (s.know 0).d.c,.slice (s.know 0).c.A (s.know 0).c.n (s.know 0).c.c,.slice (s.know 1).e.A (s.know 1).e.n (s.know 1).e.c,.slice (s.know 1).d.A (s.know 1).d.n (s.know 1).d.c,.slice (s.know 1).c.A (s.know 1).c.n (s.know 1).c.c,.slice (s.know 2).e.A (s.know 2).e.n (s.know 2).e.c,.slice (s.know 2).d.A (s.know 2).d.n (s.know 2).d.c,.slice (s.know 2).c.A (s.know 2).c.n (s.know 2).c.c,.int .i64 ((s.num 0:Nat):Int),.int .i64 ((s.num 1:Nat):Int),.int .i64 ((s.num 2:Nat):Int),.slice s.A s.n s.c]:Array Value)[q]?=some v→W1.cell? ⟨X,q,none⟩=some v:=fun q v h=>by
     rw[C,NM,cell_of_row _ _ q _ _ (0,0) (heap_alloc_new _ _)];exact h
    have Ob:=ah N;have Od:ai (∀ q,q<3→dQ W1 (fun b=>g<b∧s.own≠some b) (s.know q)):=fun q hq=>(G.know q hq).later D;have NF:ai (s.own≠some X∧X≠g∧X<W1.heap.size):=⟨fun e=>by have h:=(G.row.row.lt X e).2;have:=NT.o;omega,by have h:=G.free.1;have:=NT.o;omega,by rw[C,NM];simp⟩;clear Oq Oj hi hj Ol Ou a9 L NM C D N Nz NV;go_wp2_with fail;rw[← NT.o,← O4.o];refine Oe.mono ?_;rintro e w2 ⟨rfl,t,N7,M,NS,NI⟩;clear Oe d0 d1 d2 d3 d4 d5 d6 d7 d8 d9 O7 O8 O9 e0 a0 e1 a1 e2 a2 e3 a3 e4 a4 e5 a5 e6 a6
    have NR:ai (t.ev.length≤k+1):=by
     rcases NS.ev with h | ⟨x,h,_⟩
     ·unfold ai;rw[h];have:=HE.o;omega
     ·unfold ai;rw[h,bP];have:=HE.o;simp;omega
    have NC:ai (∀ q v,(#[.slice (s.know 0).e.A (s.know 0).e.n (s.know 0).e.c,.slice (s.know 0).d.A (s.know 0).d.n (s.know 0).d.c,.slice (s.know 0).c.A (s.know 0).c.n (s.know 0).c.c,.slice (s.know 1).e.A (s.know 1).e.n (s.know 1).e.c,.slice (s.know 1).d.A (s.know 1).d.n (s.know 1).d.c,.slice (s.know 1).c.A (s.know 1).c.n (s.know 1).c.c,.slice (s.know 2).e.A (s.know 2).e.n (s.know 2).e.c,.slice (s.know 2).d.A (s.know 2).d.n (s.know 2).d.c,.slice (s.know 2).c.A (s.know 2).c.n (s.know 2).c.c,.int .i64 ((s.num 0:Nat):Int),.int .i64 ((s.num 1:Nat):Int),.int .i64 ((s.num 2:Nat):Int),.slice s.A s.n s.c]:Array Value)[q]?=some v→w2.cell? ⟨X,q,none⟩=some v):=fun q v h=>(bU (NI.keep X NF.2.2 NF.2.1 NF.1)).trans (Ob.o q v h);have O3:ai (∀ q,q<3→dQ w2 (fun b=>g<b∧s.own≠some b) (s.know q)):=fun q hq=>(Od.o q hq).keep NI.size (fun b hb NW=>NI.keep b NW (by omega) hb.2)
    have Q:ai (t.evs.length≤31):=by have:=NR.o;unfold ai SM.evs;rw[eP];omega
    have F:ai (s.evs.length≤31):=by have:=HE.o;unfold ai SM.evs;rw[eP];omega
    clear Ob Od Oc;go_wp2_with fail
    go_loopw [27] (fun i wr=>∃ (m:Nat),m≤3∧i = .int .i64 m∧ai (av w2 wr)) (fun i _=>3-(intOf i).toNat)
    case atStart=>exact⟨0,by omega,rfl,bN⟩
    case round=>
     obtain⟨m,hm,rfl,B⟩:=hrel
     by_cases y:m<3
     ·have OE:((m:Nat):Int)<3:=by omega
      have V:=N7.ck m y
      have N:w2.cell? ⟨X,m*3,none⟩=some (.slice (s.know m).e.A (s.know m).e.n (s.know m).e.c)∧w2.cell? ⟨X,m*3+1,none⟩=some (.slice (s.know m).d.A (s.know m).d.n (s.know m).d.c)∧w2.cell? ⟨X,m*3+2,none⟩=some (.slice (s.know m).c.A (s.know m).c.n (s.know m).c.c):=by
       have h9:m=0∨m=1∨m=2:=by omega
       rcases h9 with rfl | rfl | rfl <;> exact⟨NC _ _ rfl,NC _ _ rfl,NC _ _ rfl⟩
      have NJ:=N7.free.1;have NK:=aL _ _ N.1;have a:=ah (((((((Kept.nil wr).af ((B.cell (p:=⟨g,m*3+2,none⟩) NJ).trans V.2.2)).af ((B.cell (p:=⟨g,m*3+1,none⟩) NJ).trans V.2.1)).af ((B.cell (p:=⟨g,m*3,none⟩) NJ).trans V.1)).af ((B.cell (p:=⟨X,m*3+2,none⟩) NK).trans N.2.2)).af ((B.cell (p:=⟨X,m*3+1,none⟩) NK).trans N.2.1)).af ((B.cell (p:=⟨X,m*3,none⟩) NK).trans N.1));have H:=ah ((O3.o m y).rd.later B);have J:=ah ((N7.know m y).rd.later B);have NG:=ah (And.intro (eU (HK.knows m y)) (fZ (HK.knows m y)));have NH:=ah (And.intro (eU (M.knows m y)) (fZ (M.knows m y)))
      have O0:ai ((bB (s.know m).k&&bB (t.know m).k&&x_ (s.know m).k (t.know m).k)=true):=by
       unfold ai;rw[bI.2 (HK.o.knows m y).right,bI.2 (M.o.knows m y).right,NS.o.leq m y];rfl
      clear V N NJ NK;obtain⟨c0,c1,c2,c3,c4,c5,-⟩:=a.cj;go_wp2_with fail;clear c0 c1 c2 c3 c4 c5;refine Rg (S:=eB _) a.drew.cj (fun f=>?_);obtain⟨OH,NQ,r⟩:=mW wr;obtain⟨a,H,J,B⟩:=iR r a H J B;clear r;rw[← NQ]at f ⊢;clear NQ;refine T4 0 30 1 31 2 32 3 33 ?_;refine T4 4 34 5 35 6 36 7 37 ?_;refine Tc 8 (fun K hK=>?_);go_simp;(go_at_call 38;refine (JH (s.know m).k.1 (t.know m).k.1 (s.know m).k.2 (t.know m).k.2 (s.know m).e.A (s.know m).d.A (s.know m).c.A (t.know m).e.A (t.know m).d.A (t.know m).c.A (s.know m).e.n (s.know m).d.n (s.know m).e.c (s.know m).d.c (s.know m).c.n (s.know m).c.c (t.know m).e.n (t.know m).d.n (t.know m).e.c (t.know m).d.c (t.know m).c.n (t.know m).c.c OH (by have h1:=NG.1;have h2:=Q.o;have N8:=F.o;omega) H.len (by have h1:=NG.2;have h2:=Q.o;have N8:=F.o;have h3:(s.know m).k.2.length=(s.know m).c.n:=H.len;omega) H.tree H.ctx (by have h1:=NH.1;have h2:=Q.o;have N8:=F.o;omega) J.len (by have h1:=NH.2;have h2:=Q.o;have N8:=F.o;have h3:(t.know m).k.2.length=(t.know m).c.n:=J.len;omega) J.tree J.ctx (by have h1:=NG.1;have h3:=NH.1;have h2:=Q.o;have N8:=F.o;omega) (by have h1:=NG.2;have h4:=NH.2;have h2:=Q.o;have N8:=F.o;have h3:(s.know m).k.2.length=(s.know m).c.n:=H.len;have h5:(t.know m).k.2.length=(t.know m).c.n:=J.len;omega) true O0).mono ?_)
      rintro e v42 ⟨rfl,r⟩;obtain⟨a,H,J,B⟩:=iR r a H J B;clear r;clear f;refine Th hK ?_ (fun f=>?_)
      ·exact a.cj
      clear hK K;refine Tk 9 39 ?_;refine Td ?_;clear f OE;go_wp2_with fail;go_roundw
      case rel=>exact⟨m+1,by omega,by go_num,B⟩
      case measure=>simp[intOf];omega
     ·obtain rfl:m=3:=by omega
      have u:=ah (N7.later B);have Oh:ai (wr.cell? ⟨X,12,none⟩=some (.slice s.A s.n s.c)):=(B.cell (p:=⟨X,12,none⟩) (cO NF.2.2 NI.size)).trans (NC.o _ _ rfl);have NE:ai (s.ev.length=s.n∧t.ev.length=t.n):=⟨G.len,N7.len⟩
      rcases NS.ev with Ny | ⟨xe,Ny,Ov⟩
      ·have NY:t.n=s.n:=by have h:=NE.o;rw[Ny]at h;omega
       have f1:decide ((s.n:Int)<(t.n:Int))=false:=aM (by omega);have f2:decide (s.n<t.n)=false:=aM (by omega);clear Ny NY;have a:=ah (((Kept.nil wr).af Oh).af u.ca);have c0:=a.c0;have c1:=a.c1;go_wp2_with fail;clear c0 c1;refine Rg (S:=eB _) a.drew.cj (fun f=>?_);obtain⟨Ox,O,r⟩:=mW wr;obtain⟨a,u⟩:=gI r a u;clear r;rw[← O]at f ⊢;clear O;refine T4 0 41 1 42 2 43 3 44 ?_;refine T4 4 45 5 46 6 47 7 48 ?_;refine U4 8 49 9 50 10 51 11 52 ?_;refine U4 12 53 13 54 14 55 15 56 ?_;refine U3 16 57 17 58 18 59 ?_
       refine U4 19 60 20 61 21 62 22 63 ?_;refine U4 23 64 24 65 25 66 26 67 ?_;refine U2 27 68 28 69 ?_;refine Tk 29 70 ?_;refine Td ?_;clear f f1 f2;go_wp2_with fail;go_roundw
       case rel=>exact⟨k+1,t,by omega,by go_num,u,M,NR⟩
       case measure=>simp[intOf];omega
      ·have NY:t.n=s.n+1:=by
        have h:=NE.o
        have h1:t.ev.length=s.ev.length+1:=by rw[Ny,bP];rfl
        omega
       have f1:decide ((s.n:Int)<(t.n:Int))=true:=aJ (by omega);have f2:decide (s.n<t.n)=true:=aJ (by omega)
       have f3:(s.n:Int)<(t.n:Int):=by omega
       have N9:=u.evs;obtain⟨eb,eo,hA,OD,Oi⟩:=N9.at_ (by omega)
       have Oo:s.n<t.ev.length:=by have h:=NE.o;omega
       obtain⟨e0,e1,-⟩:=Oi s.n Oo
       have Ow:t.ev[s.n]=xe:=by
        have h:=NE.1;simp only[Ny];rw[BM (by omega)];simp[h]
       rw[Ow]at e0 e1;have a0:=(u.below.cell (p:=⟨R,U+k*7,none⟩) NZ.1).trans NZ.2;have V:=(u.ck i HI.2).2.2;have a:=ah (((((((Kept.nil wr).af e1).af e0).af V).af Oh).af u.ca).af a0)
       have O6:ai (fH (t.know i).k.2 xe.ev.d.1 xe.ev.d.2=true):=ah (by rw[nI (M.o.knows i HI.o.2).right.ctx];exact Ov)
       have Oz:=ah (fZ (M.knows i HI.2));have Oy:=ah hA;clear Ny NY N9 OD Oi Oo Ow e0 e1 a0 V Ov hA;have Nz:=O5.o
       have fi:IntKind.u8.wrap wh=wh:=by rw[IntKind.wrap_u8];omega
       have O_:IntKind.i64.wrap ((i:Nat):Int)=((i:Nat):Int):=by have:=HI.2;rw[iN];omega
       have OA:IntKind.u8.wrap ((i:Nat):Int)=((i:Nat):Int):=by have:=HI.2;rw[IntKind.wrap_u8];omega
       have OB:wh.tmod 3=((i:Nat):Int):=by rw[← HI.o.1];exact IE Nz.1
       have OC:((i:Nat):Int)<3:=by have:=HI.2;omega
       have hA:=Oy.o;obtain⟨c0,c1,c2,c3,c4,c5,-⟩:=a.cj;go_wp2_with fail;clear c0 c1 c2 c3 c4 c5;refine Rg (S:=eB _) a.drew.cj (fun f=>?_);obtain⟨Ox,O,r⟩:=mW wr;obtain⟨a,u⟩:=gI r a u;clear r;rw[← O]at f ⊢;clear O;refine T4 0 41 1 42 2 43 3 44 ?_;refine T4 4 45 5 46 6 47 7 48 ?_;refine T4 8 49 9 50 10 51 11 52 ?_;refine T4 12 53 13 54 14 55 15 56 ?_;refine T4 16 57 17 58 18 59 19 60 ?_;refine T4 20 61 21 62 22 63 23 64 ?_;refine T3 24 65 25 66 26 67 ?_;refine Tc 27 (fun K hK=>?_);go_simp
       (go_at_call 39;refine (iK (t.know i).k.2 (t.know i).c.n (t.know i).c.A (t.know i).c.c xe.ev.d.1 xe.ev.d.2 Ox (u.know i HI.2).len (by have h1:=Oz.o;have h2:=Q.o;have h3:(t.know i).k.2.length=(t.know i).c.n:=(u.know i HI.2).len;omega) (u.know i HI.2).rd.ctx (aJ (M.knows i HI.2).right.ctx) true O6).mono ?_);rintro e v62 ⟨rfl,r⟩;obtain⟨a,u⟩:=gI r a u;clear r;clear f;refine Th hK ?_ (fun f=>?_)
       ·exact a.cj
       clear hK K;refine T2 28 69 29 70 ?_;refine Td ?_;clear f f1 f2 f3 fi O_ OA OB OC Nz hA;go_wp2_with fail;go_roundw
       case rel=>exact⟨k+1,t,by omega,by go_num,u,M,NR⟩
       case measure=>simp[intOf];omega
   ·obtain rfl:k=n:=by omega
    go_wp2_with fail;go_ret;exact⟨rfl,Oa.trans (G.below.mono Oa.size)⟩
set_option maxRecDepth 100000 in
theorem lifted (os:Os) (started:os.Started) (H:Type) (enc:TypeId×Value→H) :
  ReturnsInHanded {} Tryz.checked os 11 .any (Rows.opGrowsSpec.pre6 enc Tryz.prog Tryz.f11 Rows.opGrowsRow.domain false) (Rows.opGrowsSpec.post enc Tryz.prog Tryz.f11 false true false false):=by
 refine returnsInHanded_of_change_sized (C:=Tryz.checked) own started (by kernel_rfl) Tryz.func11
  (ChangeSpec.witness6 (enc:=enc) (C:=Tryz.checked) false ⟨#[],#[.slice none 0 0],[]⟩ 8 (by kernel_rfl) (by kernel_rfl) (by kernel_rfl) (by kernel_rfl)) ?_
 intro W base args m gs before b k _ hsz0 _;have a:∀ (j:Nat) t v,Tryz.f11.params[j]?=some t→args[j]?=some v→Value.okWide Tryz.prog W .any base t v:=b;have d:=k;obtain⟨p,q,c,r,rfl,hfz,hnd⟩:=k;have i:DataW.TrodAll enc Tryz.prog W 0 (fun _=>true) true Tryz.f11.params.toList args.toList m p:=c;rw[Tryz.params11]at i a;obtain⟨y,d0,rfl,rfl,n⟩:=trodAll_one i;obtain⟨rfl,rfl⟩:=trodVars_none r;obtain⟨l,x,c0,rfl⟩:=okWide_slice Tryz.underlying61 (a 0 61 y rfl rfl);obtain⟨f0,g⟩:=n;obtain⟨w,h⟩:=Cs.ou g;refine (walk_any w x l c0 W h).mono fun e W' ⟨u,s⟩=>?_;subst u;exact⟨_,rfl,law_post d (by kernel_rfl) rfl rfl rfl s⟩
theorem proved:Rows.OpGrowsSaid:=
 OpenClaim.holds_of_wide 11 Tryz.f11 rfl rfl rfl rfl rfl rfl rfl ⟨rfl,rfl,rfl,rfl,rfl⟩ rfl rfl rfl rfl rfl (by kernel_rfl) Tryz.func11 (by kernel_rfl)
  (jH (by kernel_rfl)) (by unfold Func.isWrapper;first | (rw[if_pos (by decide +kernel)];kernel_rfl) | (rw[if_neg (by decide +kernel)];exact⟨rfl,rfl⟩))
  (fun os started H a _=>lifted os started H a)
#print axioms proved
end lawOpGrows
end Go.Proofs.YtgeafpaognhokaaGreat
