/- Proved: the law OpMeets answers true for every list of acts that can be handed in, and leaves its arguments as they were. Conditions: none. -/
import Derived.Test.YtgeafpaognhokaaGreatG00
import Derived.Test.YtgeafpaognhokaaGreatExtraOpMeets
import Derived.Test.YtgeafpaognhokaaGreatG1110
import Derived.Test.YtgeafpaognhokaaGreatG50
import Derived.Test.YtgeafpaognhokaaGreatG10
import Derived.Test.YtgeafpaognhokaaGreatG60
import Derived.RegionTactic
namespace Go.Proofs.YtgeafpaognhokaaGreat
open ChangeShapes WideShapes ChangeAt RowKit
namespace lawOpMeets
open Tr Cx Cs Sp Rw Classical
theorem mx_no {x y:Option (Option E)} (h:mx x y=none):x=none∧y=none:=by
 rcases x with _ | _ | x <;> rcases y with _ | _ | y <;> first | exact⟨rfl,rfl⟩ | cases h
theorem stAll_no {l:List K} {p:List ByteArray} {q:Int×Int} (h:lX l p q=none):∀ k∈l,Cs.st k p q=none:=by
 induction l with
 | nil=>intro k b;cases b
 | cons a l e=>
  intro k b;obtain⟨c,d⟩:=mx_no (show mx (Cs.st a p q) (lX l p q)=none from h)
  rcases jJ.1 b with rfl | b
  ·exact c
  ·exact e d k b
theorem AllJ.has {l:List K} {x k:K} (h:AllJ l x) (e:k∈l) {a n:Int} (d:aD k.2 a n=true):aD x.2 a n=true:=by
 cases c:aD x.2 a n with
 | true=>rfl
 | false=>
  have b:=stAll_no ((h.st [] (a,n)).symm.trans (ja (k:=x) (q:=(a,n)) c)) k e;rw[iw (k:=k) (q:=(a,n)) d]at b
  cases b
theorem sameK_yes (t u:T) (d p:List S3) (Ae Ak k i j l:Option Addr) (ne nk ce ck f a x mk m n g b:Nat) (w:World) (c:((t,d):K)=(u,p)) (z:RK (t,d)) (y:nodes t≤1000) (s:f≤1000) (v:g≤1000) (q:vB w ⟨(t,d),⟨Ae,ne,ce⟩,⟨Ak,nk,ck⟩,⟨k,f,a⟩⟩) (r:vB w ⟨(u,p),⟨i,x,m⟩,⟨j,mk,n⟩,⟨l,g,b⟩⟩) :
  Calls Tryz.prog 36 #[.agg #[.slice Ae ne ce,.slice Ak nk ck,.slice k f a],.agg #[.slice i x m,.slice j mk n,.slice l g b]] w fun e w'=>e = .returned (.bool true)∧av w w':=by
 have h:=qI t u d p Ae Ak k i j l ne nk ce ck f a x mk m n g b w y q.len s q.tree q.ctx (by have:=congrArg Prod.fst c;dsimp only at this;rw[← this];exact y) r.len v r.tree r.ctx;rw[Ad z c]at h;exact h
set_option maxRecDepth 100000 in
set_option maxHeartbeats 4000000 in
theorem walk_any (l:List uf) (n:Nat) (A:Option Addr) (c:Nat) (w:World) (hl:pu w w.heap.size A n c l) :
  Calls Tryz.prog 10 #[.slice A n c] w fun e w'=>e = .returned (.bool true)∧av w w':=by
 have HA:=ah hl;have a:ai (Kept [] w w):=Kept.a_ (bN);clear hl;go_enter Tryz.func10,Tryz.ntmps10;go_wp2_with fail;refine (mE w).mono ?_;rintro e v1 ⟨rfl,f⟩;obtain⟨a,HA⟩:=gI f a HA;clear f;go_wp2_with fail;refine (uZ l n A c v1 HA).mono ?_;rintro e v2 ⟨b,rfl,O_,f⟩;have Ou:=ah O_.o;clear O_;obtain⟨a,HA⟩:=gI f a HA;clear f
 cases b with
 | false=>
  go_wp2_with fail;refine (mE _).mono ?_;rintro e v99 ⟨rfl,f⟩;have a:=ah (a.later f);clear f;go_wp2_with fail;go_ret;exact⟨by first | rfl | simp,a.below⟩
 | true=>
  have NQ:=ah (Ou.o rfl);clear Ou;obtain⟨g,hg⟩:∃ g,g=v2.heap.size:=⟨_,rfl⟩;obtain⟨W,hW⟩:∃ W,W=v2.alloc (.cells #[.slice none 0 0,.slice none 0 0,.slice none 0 0,.slice none 0 0,.slice none 0 0,.slice none 0 0,.slice none 0 0,.slice none 0 0,.slice none 0 0,.int .i64 0,.int .i64 0,.int .i64 0,.slice none 0 0] 67):=⟨_,rfl⟩;have NZ:=pK.zero v2;rw[← hg,← hW]at NZ;have OV:=ah NZ;have HG:=ah hg;have HW:=ah hW;have Oj:ai (av w v2):=a.below;clear NZ hg hW a;go_wp2_with fail;rw[← HG.o,← HW.o]
  go_loopw [23] (fun i wr=>∃ (k:Nat) (s:SM),k≤n∧i = .int .i64 k∧ai (pK g v2 s wr)∧ai (rV s)∧ai (s.ev.length≤k)) (fun i _=>n-(intOf i).toNat)
  case atStart=>exact⟨0,Ar,by omega,rfl,OV,rV.zero,bG⟩
  case round=>
   obtain⟨k,s,hk,rfl,v,X,HE⟩:=hrel;obtain⟨O,Ph⟩:∃ W,W=wr:=⟨_,rfl⟩;subst Ph;have hn30:=NQ.1
   by_cases Pd:k<n
   ·have O8:k<l.length:=by rw[HA.o.len];exact Pd
    obtain⟨ab,ao,rfl,G,hc⟩:=HA.at_ (by omega);obtain⟨a0,a1,a2,a3,a4,a5,a6⟩:=hc k O8;have a9:=a0;have a0:=(v.below.cell (p:=⟨ab,ao+k*7,none⟩) G).trans a0;have a1:=(v.below.cell (p:=⟨ab,ao+k*7+1,none⟩) G).trans a1;have a2:=(v.below.cell (p:=⟨ab,ao+k*7+2,none⟩) G).trans a2;have a3:=(v.below.cell (p:=⟨ab,ao+k*7+3,none⟩) G).trans a3;have a4:=(v.below.cell (p:=⟨ab,ao+k*7+4,none⟩) G).trans a4;have a5:=(v.below.cell (p:=⟨ab,ao+k*7+5,none⟩) G).trans a5;have a6:=(v.below.cell (p:=⟨ab,ao+k*7+6,none⟩) G).trans a6;obtain⟨NM,NG⟩:∃ x,x=l[k]:=⟨_,rfl⟩
    have NC:NM∈l:=by rw[NG];exact bT O8
    rw[← NG]at a9 a0 a1 a2 a3 a4 a5 a6;have O5:=HA.each NM NC;have OD:=NQ.2 NM NC;clear hc NG NC;obtain⟨wh,fr,he,⟨xp,xa,xs,xv⟩,⟨xA,xn,xc⟩⟩:=NM;dsimp only at a0 a1 a2 a3 a4 a5 a6 a9 O5 OD;obtain⟨O9,Ob,O6⟩:=O5;obtain⟨i,hi,Oa⟩:∃ i:Nat,wh % 3=((i:Nat):Int)∧i<3:=⟨(wh % 3).toNat,by omega,by omega⟩;obtain⟨j,hj,O7⟩:∃ j:Nat,fr % 3=((j:Nat):Int)∧j<3:=⟨(fr % 3).toNat,by omega,by omega⟩;have HA9:=ah (And.intro G a9);have HI:=ah (And.intro hi Oa);have HWH:=ah Ob;have Ot:=ah (yj g v2 s wh fr he xp xa xs xv xA xn xc i j O hi Oa hj O7 Ob O6 v X (by have:=HE.o;omega) (by omega) O9);clear O9 O6 hi hj O7 OD a9 G Ob Oa;go_wp2_with fail;refine Ot.mono ?_;rintro e w2 ⟨rfl,t,Q,H,Oq,OX⟩
    have Ol:ai (t.ev.length≤k+1):=by
     rcases Oq.ev with h | ⟨x,h,_⟩
     ·unfold ai;rw[h];have:=HE.o;omega
     ·unfold ai;rw[h,bP];have:=HE.o;simp;omega
    clear Ot OX Oq a0 a1 a2 a3 a4 a5 a6
    have N7:ai (t.evs.length≤31):=by have:=Ol.o;unfold ai SM.evs;rw[eP];omega
    go_wp2_with fail
    go_loopw [32] (fun i wr=>∃ (m:Nat),m≤3∧i = .int .i64 m∧ai (av w2 wr)) (fun i _=>3-(intOf i).toNat)
    case atStart=>exact⟨0,by omega,rfl,bN⟩
    case round=>
     obtain⟨m,hm,rfl,Nz⟩:=hrel;obtain⟨wi,Pg⟩:∃ W,W=wr:=⟨_,rfl⟩;subst Pg
     by_cases F:m<3
     ·have hm3:((m:Nat):Int)<3:=by omega
      go_wp2_with fail
      go_loopw [36] (fun i wr=>∃ (p:Nat),p≤m∧i = .int .i64 p∧ai (av wi wr)) (fun i _=>m-(intOf i).toNat)
      case atStart=>exact⟨0,by omega,rfl,bN⟩
      case round=>
       obtain⟨p,hp,rfl,y⟩:=hrel
       by_cases hltp:p<m
       ·have hpm:((p:Nat):Int)<((m:Nat):Int):=by omega
        have hp3:((p:Nat):Int)<3:=by omega
        have C:ai (av w2 wr):=Nz.trans (y.mono Nz.size);have NH:=Q.ck m F;have NI:=Q.ck p (by omega);have R:=Q.free.1;have a:=ah (((((((Kept.nil wr).af ((C.cell (p:=⟨g,p*3+2,none⟩) R).trans NI.2.2)).af ((C.cell (p:=⟨g,p*3+1,none⟩) R).trans NI.2.1)).af ((C.cell (p:=⟨g,p*3,none⟩) R).trans NI.1)).af ((C.cell (p:=⟨g,m*3+2,none⟩) R).trans NH.2.2)).af ((C.cell (p:=⟨g,m*3+1,none⟩) R).trans NH.2.1)).af ((C.cell (p:=⟨g,m*3,none⟩) R).trans NH.1));clear NH NI R;obtain⟨c0,c1,c2,c3,c4,c5,-⟩:=a.cj;have Z:g<wr.heap.size:=cO Q.free.1 C.size;go_wp2_with fail
        go_cut [7,8] (fun s8 s9 wx=>∃ (ga gb:Nat),s8 = .pointer (some ⟨ga,0,none⟩)∧s9 = .pointer (some ⟨gb,0,none⟩)∧ai (Kept [(⟨ga,0,none⟩,.slice (t.know m).e.A (t.know m).e.n (t.know m).e.c),(⟨ga,1,none⟩,.slice (t.know m).d.A (t.know m).d.n (t.know m).d.c),(⟨ga,2,none⟩,.slice (t.know m).c.A (t.know m).c.n (t.know m).c.c),(⟨gb,0,none⟩,.slice (t.know p).e.A (t.know p).e.n (t.know p).e.c),(⟨gb,1,none⟩,.slice (t.know p).d.A (t.know p).d.n (t.know p).d.c),(⟨gb,2,none⟩,.slice (t.know p).c.A (t.know p).c.n (t.know p).c.c)] wr wx))
        case first=>
         go_region
         all_goals (
          go_wp2_with fail;go_meet;refine⟨_,_,rfl,rfl,?_⟩
          refine ((((((Kept.a_ (((((bN).alloc (bG) _).alloc (by simp) _)).drew)).af ?_).af ?_).af ?_).af ?_).af ?_).af ?_ <;> go_simp)
        case rest=>
         obtain⟨Oc,OB⟩:∃ W,W=wc:=⟨_,rfl⟩;subst OB;obtain⟨ga,gb,rfl,rfl,a⟩:=hcut;have Y:ai (av w2 Oc):=C.trans (a.below.mono C.size);have y:ai (av wi Oc):=y.trans (a.below.mono y.size);clear C
         have L:p<3:=by omega
         have Om:=ah L;have q:=ah ((Q.know m F).rd.later Y);have r:=ah ((Q.know p L).rd.later Y);have NW:=ah (And.intro (eU (H.knows m F)) (fZ (H.knows m F)));have Oo:=ah (And.intro (eU (H.knows p L)) (fZ (H.knows p L)));obtain⟨z,hz⟩:∃ z,z=decide ((t.know m).k.2=(t.know p).k.2):=⟨_,rfl⟩;have HZ:=ah hz;clear hz L Z c0 c1 c2 c3 c4 c5;obtain⟨c0,c1,c2,c3,c4,c5,-⟩:=a.cj;go_wp2_with fail;refine (Bz (t.know m).k.2 (t.know p).k.2 (t.know m).c.n (t.know p).c.n (t.know m).c.A (t.know p).c.A (t.know m).c.c (t.know p).c.c Oc q.len r.len (by have h1:=NW.2;have h2:=N7.o;have h3:(t.know m).k.2.length=(t.know m).c.n:=q.len;omega) q.ctx r.ctx z HZ).mono ?_
         rintro e Pj ⟨rfl,f⟩;obtain⟨a,q,r,Y,y⟩:=jo f a q r Y y;clear f;clear c0 c1 c2 c3 c4 c5
         cases z with
         | false=>
          go_wp2_with fail;go_roundw
          case rel=>exact⟨p+1,by omega,by go_num,y⟩
          case measure=>simp[intOf];omega
         | true=>
          have OA:iT ((t.know m).k.1,(t.know m).k.2) ((t.know p).k.1,(t.know p).k.2)=true:=Ad (H.knows m F).right (Knows.same (H.knows m F) (H.knows p Om) (jH HZ.symm));have h9:=qI (t.know m).k.1 (t.know p).k.1 (t.know m).k.2 (t.know p).k.2 (t.know m).e.A (t.know m).d.A (t.know m).c.A (t.know p).e.A (t.know p).d.A (t.know p).c.A (t.know m).e.n (t.know m).d.n (t.know m).e.c (t.know m).d.c (t.know m).c.n (t.know m).c.c (t.know p).e.n (t.know p).d.n (t.know p).e.c (t.know p).d.c (t.know p).c.n (t.know p).c.c Pj (by have h1:=NW.1;have h2:=N7.o;omega) q.len (by have h1:=NW.2;have h2:=N7.o;have h3:(t.know m).k.2.length=(t.know m).c.n:=q.len;omega) q.tree q.ctx (by have h1:=Oo.1;have h2:=N7.o;omega) r.len (by have h1:=Oo.2;have h2:=N7.o;have h3:(t.know p).k.2.length=(t.know p).c.n:=r.len;omega) r.tree r.ctx
          rw[OA]at h9;have Ov:=ah h9;clear h9 OA;obtain⟨c0,c1,c2,c3,c4,c5,-⟩:=a.cj;go_wp2_with fail;refine (Ov.o).mono ?_;rintro e v43 ⟨rfl,f⟩;clear Ov;obtain⟨a,q,r,Y,y⟩:=jo f a q r Y y;clear f;clear c0 c1 c2 c3 c4 c5;go_wp2_with fail;go_roundw
          case rel=>exact⟨p+1,by omega,by go_num,y⟩
          case measure=>simp[intOf];omega
       ·obtain rfl:p=m:=by omega
        go_wp2_with fail;go_roundw
        case rel=>exact⟨p+1,by omega,by go_num,Nz.trans (y.mono Nz.size)⟩
        case measure=>simp[intOf];omega
     ·obtain rfl:m=3:=by omega
      go_wp2_with fail;go_roundw
      case rel=>exact⟨k+1,t,by omega,by go_num,Q.later Nz,H,Ol⟩
      case measure=>simp[intOf];omega
   ·obtain rfl:k=n:=by omega
    have NP:ai (s.evs.length≤31):=by have:=HE.o;unfold ai SM.evs;rw[eP];omega
    have OU:ai (s.n≤31):=by have h1:=NP.o;have h2:=v.len;unfold ai;unfold SM.evs at h1;rw[eP]at h1;omega
    have OT:ai (av w O):=Oj.trans (v.below.mono Oj.size);obtain⟨d0,d1,d2⟩:=v.ck 0 (by omega);obtain⟨d3,d4,d5⟩:=v.ck 1 (by omega);obtain⟨d6,d7,d8⟩:=v.ck 2 (by omega);have d0:O.cell? ⟨g,0,none⟩=some (.slice (s.know 0).e.A (s.know 0).e.n (s.know 0).e.c):=d0;have d1:O.cell? ⟨g,1,none⟩=some (.slice (s.know 0).d.A (s.know 0).d.n (s.know 0).d.c):=d1;have d2:O.cell? ⟨g,2,none⟩=some (.slice (s.know 0).c.A (s.know 0).c.n (s.know 0).c.c):=d2;have d3:O.cell? ⟨g,3,none⟩=some (.slice (s.know 1).e.A (s.know 1).e.n (s.know 1).e.c):=d3;have d4:O.cell? ⟨g,4,none⟩=some (.slice (s.know 1).d.A (s.know 1).d.n (s.know 1).d.c):=d4;have d5:O.cell? ⟨g,5,none⟩=some (.slice (s.know 1).c.A (s.know 1).c.n (s.know 1).c.c):=d5;have d6:O.cell? ⟨g,6,none⟩=some (.slice (s.know 2).e.A (s.know 2).e.n (s.know 2).e.c):=d6
    have d7:O.cell? ⟨g,7,none⟩=some (.slice (s.know 2).d.A (s.know 2).d.n (s.know 2).d.c):=d7;have d8:O.cell? ⟨g,8,none⟩=some (.slice (s.know 2).c.A (s.know 2).c.n (s.know 2).c.c):=d8;have d9:=v.ca;have a:=ah ((((((((((((Kept.a_ OT).af d9).af d8).af d7).af d6).af d5).af d4).af d3).af d2).af d1).af d0));have u:=ah (v.know 0 (by omega)).rd;have q:=ah (v.know 1 (by omega)).rd;have r:=ah (v.know 2 (by omega)).rd
    have D:ai (nodes (s.know 0).k.1≤155∧(s.know 0).c.n≤31∧nodes (s.know 1).k.1≤155∧(s.know 1).c.n≤31∧nodes (s.know 2).k.1≤155∧(s.know 2).c.n≤31):=by
     have h:=NP.o;have a0:=eU (X.knows 0 (by omega));have b0:=fZ (X.knows 0 (by omega));have l0:(s.know 0).k.2.length=(s.know 0).c.n:=u.len;have a1:=eU (X.knows 1 (by omega));have b1:=fZ (X.knows 1 (by omega));have l1:(s.know 1).k.2.length=(s.know 1).c.n:=q.len;have a2:=eU (X.knows 2 (by omega));have b2:=fZ (X.knows 2 (by omega));have l2:(s.know 2).k.2.length=(s.know 2).c.n:=r.len;unfold ai;omega
    clear d0 d1 d2 d3 d4 d5 d6 d7 d8 d9;obtain⟨c0,c1,c2,c3,c4,c5,c6,c7,c8,c9,-⟩:=a.cj;obtain⟨gr,NJ⟩:∃ g,g=O.heap.size:=⟨_,rfl⟩;have V:O.heap.size=O.heap.size:=rfl;obtain⟨Od,M⟩:∃ W,W=O.alloc (.cells #[.slice (s.know 0).e.A (s.know 0).e.n (s.know 0).e.c,.slice (s.know 0).d.A (s.know 0).d.n (s.know 0).d.c,.slice (s.know 0).c.A (s.know 0).c.n (s.know 0).c.c,.slice (s.know 1).e.A (s.know 1).e.n (s.know 1).e.c,.slice (s.know 1).d.A (s.know 1).d.n (s.know 1).d.c,.slice (s.know 1).c.A (s.know 1).c.n (s.know 1).c.c,.slice (s.know 2).e.A (s.know 2).e.n (s.know 2).e.c,.slice (s.know 2).d.A (s.know 2).d.n (s.know 2).d.c,.slice (s.know 2).c.A (s.know 2).c.n (s.know 2).c.c] 42):=⟨_,rfl⟩
    have f:av O Od:=by rw[M];exact Dt.ay _ _ _
    have B:=G5 O [s.know 0,s.know 1,s.know 2] #[.slice (s.know 0).e.A (s.know 0).e.n (s.know 0).e.c,.slice (s.know 0).d.A (s.know 0).d.n (s.know 0).d.c,.slice (s.know 0).c.A (s.know 0).c.n (s.know 0).c.c,.slice (s.know 1).e.A (s.know 1).e.n (s.know 1).e.c,.slice (s.know 1).d.A (s.know 1).d.n (s.know 1).d.c,.slice (s.know 1).c.A (s.know 1).c.n (s.know 1).c.c,.slice (s.know 2).e.A (s.know 2).e.n (s.know 2).e.c,.slice (s.know 2).d.A (s.know 2).d.n (s.know 2).d.c,.slice (s.know 2).c.A (s.know 2).c.n (s.know 2).c.c] 3 rfl rfl;rw[← M,← V,← NJ]at B;obtain⟨a,v,u,q,r⟩:=jo f a v u q r
    have RW:ai (nA Od (some ⟨gr,0,none⟩) 3 3 [s.know 0,s.know 1,s.know 2]):=⟨B.more (by rw[M,NJ,V];simp),rfl,fun p hp=>by
     simp at hp
     rcases hp with rfl | rfl | rfl
     ·exact u.o
     ·exact q.o
     ·exact r.o⟩
    have OZ:=ah NJ;have Ox:=ah M;clear NJ M f B V;go_wp2_with fail;rw[← OZ.o,← Ox.o];refine (sI 3 [s.know 0,s.know 1,s.know 2] (some ⟨gr,0,none⟩) 3 Od (by omega) RW (by have:=D.o;simp[qQ,qP];omega)).mono ?_;rintro e Pk ⟨kx,z9,hj,_,Xe,OE,OG,Xk,OH,OI,Xc,NN,Og,rfl,U,f⟩
    obtain⟨rfl,J,NF,NE⟩:=hj (fun p hp=>by
     simp at hp
     rcases hp with rfl | rfl | rfl
     ·exact (X.knows 0 (by omega)).right
     ·exact (X.knows 1 (by omega)).right
     ·exact (X.knows 2 (by omega)).right)
    have Ny:ai (AllJ [(s.know 0).k,(s.know 1).k,(s.know 2).k] kx):=J;have NV:ai (nodes kx.1≤1000∧NN≤1000):=⟨by have:=D.o;simp[qQ]at NF;omega,by have:=D.o;have h:=(vB.b_ U).len;dsimp only at h;simp[qP]at NE;omega⟩;have RX:=ah (vB.b_ U);clear hj J NF NE U RW;clear c0 c1 c2 c3 c4 c5 c6 c7 c8 c9;obtain⟨a,v,u,q,r⟩:=jo f a v u q r;clear f;obtain⟨ba,NK,O3,NS,f,b0,b1,b2⟩:=rW Pk (.slice Xe OE OG) (.slice Xk OH OI) (.slice Xc NN Og) 42;obtain⟨a,v,u,q,r,RX⟩:=pR f a v u q r RX;clear f;have a:=ah (((a.af b2).af b1).af b0);have NY:=ah O3;have N8:=ah NS;clear O3 NS b0 b1 b2;obtain⟨c0,c1,c2,c3,c4,c5,c6,c7,c8,c9,N9,N_,NA,-⟩:=a.cj
    rw[N8.o]at c0 c1 c2 c3 c4 c5 c6 c7 c8 c9 N9 N_ NA;rw[NY.o]at c0 c1 c2;obtain⟨gs,Z⟩:∃ g,g=ba+1:=⟨_,rfl⟩
    have V:ba+1=NK.heap.size:=by rw[N8.o,NY.o];simp
    obtain⟨Oe,N⟩:∃ W,W=NK.alloc (.cells #[.slice (s.know 2).e.A (s.know 2).e.n (s.know 2).e.c,.slice (s.know 2).d.A (s.know 2).d.n (s.know 2).d.c,.slice (s.know 2).c.A (s.know 2).c.n (s.know 2).c.c,.slice (s.know 0).e.A (s.know 0).e.n (s.know 0).e.c,.slice (s.know 0).d.A (s.know 0).d.n (s.know 0).d.c,.slice (s.know 0).c.A (s.know 0).c.n (s.know 0).c.c,.slice (s.know 1).e.A (s.know 1).e.n (s.know 1).e.c,.slice (s.know 1).d.A (s.know 1).d.n (s.know 1).d.c,.slice (s.know 1).c.A (s.know 1).c.n (s.know 1).c.c] 42):=⟨_,rfl⟩
    have f:av NK Oe:=by rw[N];exact Dt.ay _ _ _
    have B:=G5 NK [s.know 2,s.know 0,s.know 1] #[.slice (s.know 2).e.A (s.know 2).e.n (s.know 2).e.c,.slice (s.know 2).d.A (s.know 2).d.n (s.know 2).d.c,.slice (s.know 2).c.A (s.know 2).c.n (s.know 2).c.c,.slice (s.know 0).e.A (s.know 0).e.n (s.know 0).e.c,.slice (s.know 0).d.A (s.know 0).d.n (s.know 0).d.c,.slice (s.know 0).c.A (s.know 0).c.n (s.know 0).c.c,.slice (s.know 1).e.A (s.know 1).e.n (s.know 1).e.c,.slice (s.know 1).d.A (s.know 1).d.n (s.know 1).d.c,.slice (s.know 1).c.A (s.know 1).c.n (s.know 1).c.c] 3 rfl rfl;rw[← N,← V,← Z]at B;obtain⟨a,v,u,q,r,RX⟩:=pR f a v u q r RX
    have RW:ai (nA Oe (some ⟨gs,0,none⟩) 3 3 [s.know 2,s.know 0,s.know 1]):=⟨B.more (by rw[N,Z,V];simp),rfl,fun p hp=>by
     simp at hp
     rcases hp with rfl | rfl | rfl
     ·exact r.o
     ·exact u.o
     ·exact q.o⟩
    have Pb:=ah Z;have Oy:=ah N;clear Z N f B V;go_wp2_with fail;rw[← NY.o,← N8.o];rw[← Pb.o,← Oy.o];refine (sI 3 [s.know 2,s.know 0,s.know 1] (some ⟨gs,0,none⟩) 3 Oe (by omega) RW (by have:=D.o;simp[qQ,qP];omega)).mono ?_;rintro e Pm ⟨ky,z9,hj,_,Ye,OL,OM,Yk,OO,OP,Yc,Oh,OJ,rfl,U,f⟩
    obtain⟨rfl,J,NF,NE⟩:=hj (fun p hp=>by
     simp at hp
     rcases hp with rfl | rfl | rfl
     ·exact (X.knows 2 (by omega)).right
     ·exact (X.knows 0 (by omega)).right
     ·exact (X.knows 1 (by omega)).right)
    have OQ:ai (AllJ [(s.know 2).k,(s.know 0).k,(s.know 1).k] ky):=J;have OW:ai (nodes ky.1≤1000∧Oh≤1000):=⟨by have:=D.o;simp[qQ]at NF;omega,by have:=D.o;have h:=(vB.b_ U).len;dsimp only at h;simp[qP]at NE;omega⟩;have RY:=ah (vB.b_ U);clear hj J NF NE U RW;clear c0 c1 c2 c3 c4 c5 c6 c7 c8 c9 N9 N_ NA;obtain⟨a,v,u,q,r,RX⟩:=pR f a v u q r RX;clear f;obtain⟨bb,Pn,O4,NT,f,b0,b1,b2⟩:=rW Pm (.slice Ye OL OM) (.slice Yk OO OP) (.slice Yc Oh OJ) 42;obtain⟨a,v,u,q,r,RX,RY⟩:=Ed f a v u q r RX RY;clear f;have a:=ah (((a.af b2).af b1).af b0);have Ow:=ah O4;have NR:=ah NT;clear O4 NT b0 b1 b2;have OY:ai (kx=ky):=(AllJ.Nv OQ Ny).symm
    have Oi:ai (∀ z∈s.ev,fH kx.2 z.ev.d.1 z.ev.d.2=true):=fun z hz=>by
     rw[nI Ny.o.right.ctx];obtain⟨i,hi,-,-,-,h⟩:=X.name z.ev (dH.2 ⟨z,hz,rfl⟩);refine AllJ.has Ny (k:=(s.know i).k) ?_ h
     have h9:i=0∨i=1∨i=2:=by omega
     rcases h9 with rfl | rfl | rfl <;> simp
    obtain⟨c0,c1,c2,c3,c4,c5,c6,c7,c8,c9,N9,N_,NA,Oz,O0,O1,-⟩:=a.cj;rw[NR.o]at c0 c1 c2 c3 c4 c5 c6 c7 c8 c9 N9 N_ NA Oz O0 O1;rw[Ow.o]at c0 c1 c2;go_wp2_with fail;rw[← Ow.o,← NR.o];clear c0 c1 c2 c3 c4 c5 c6 c7 c8 c9 N9 N_ NA Oz O0 O1;refine Rg (S:=eB _) a.drew.cj (fun hHeld=>?_);obtain⟨Po,NU,f⟩:=mW Pn;obtain⟨a,v,u,q,r,RX,RY⟩:=Ed f a v u q r RX RY;clear f;rw[← NU]at hHeld ⊢;clear NU;refine T4 0 89 1 90 2 91 3 92 ?_;refine T4 4 93 5 94 6 95 7 96 ?_;refine Tk 8 97 ?_;refine Tc 9 (fun K hK=>?_);go_simp;(go_at_call 36;refine (sameK_yes kx.1 ky.1 kx.2 ky.2 Xe Xk Xc Ye Yk Yc OE OH OG OI NN Og OL OO OM OP Oh OJ Po OY Ny.right NV.1 NV.2 OW.2 RX RY).mono ?_)
    rintro e Pp ⟨rfl,f⟩;obtain⟨a,v,u,q,r,RX,RY⟩:=Ed f a v u q r RX RY;clear f;clear hHeld;refine Th hK ?_ (fun hHeld=>?_)
    ·exact a.cj
    clear hK K;refine T4 10 99 11 100 12 101 13 102 ?_;refine T4 14 103 15 104 18 107 19 108 ?_;refine Tk 20 109 ?_;refine Tc 16 (fun K hK=>?_);go_simp;(go_at_call 33;refine (lV s.ev s.n s.A s.c kx.2 NN Xc Og Pp (by have:=OU.o;omega) v.evs RX.len (by have:=NV.2;omega) RX.ctx (aJ Ny.right.ctx)).mono ?_);rintro e v69 ⟨QA,qn,qc,rfl,OC,Pf,f⟩
    have Pe:qn=s.n:=by rw[← OC.o.len,List.filter_eq_self.2 Oi.o,v.o.len]
    subst Pe;clear OC Pf;obtain⟨a,v,u,q,r,RX,RY⟩:=Ed f a v u q r RX RY;clear f;clear hHeld;refine Th hK ?_ (fun hHeld=>?_)
    ·exact a.cj
    clear hK K;refine T4 17 106 21 110 22 111 23 2 ?_;refine Td ?_;clear hHeld;go_wp2_with fail;go_ret;exact⟨rfl,a.below⟩
set_option maxRecDepth 100000 in
theorem lifted (os:Os) (started:os.Started) (H:Type) (enc:TypeId×Value→H) :
  ReturnsInHanded {} Tryz.checked os 10 .any (Rows.opMeetsSpec.pre6 enc Tryz.prog Tryz.f10 Rows.opMeetsRow.domain false) (Rows.opMeetsSpec.post enc Tryz.prog Tryz.f10 false true false false):=by
 refine returnsInHanded_of_change_sized (C:=Tryz.checked) own started (by kernel_rfl) Tryz.func10
  (ChangeSpec.witness6 (enc:=enc) (C:=Tryz.checked) false ⟨#[],#[.slice none 0 0],[]⟩ 8 (by kernel_rfl) (by kernel_rfl) (by kernel_rfl) (by kernel_rfl)) ?_
 intro W base args m gs before b k _ hsz0 _;have a:∀ (j:Nat) t v,Tryz.f10.params[j]?=some t→args[j]?=some v→Value.okWide Tryz.prog W .any base t v:=b;have d:=k;obtain⟨p,q,c,r,rfl,hfz,hnd⟩:=k;have i:DataW.TrodAll enc Tryz.prog W 0 (fun _=>true) true Tryz.f10.params.toList args.toList m p:=c;rw[Tryz.params10]at i a;obtain⟨y,d0,rfl,rfl,n⟩:=trodAll_one i;obtain⟨rfl,rfl⟩:=trodVars_none r;obtain⟨l,x,c0,rfl⟩:=okWide_slice Tryz.underlying61 (a 0 61 y rfl rfl);obtain⟨f0,g⟩:=n;obtain⟨w,h⟩:=Cs.ou g;refine (walk_any w x l c0 W h).mono fun e W' ⟨u,s⟩=>?_;subst u;exact⟨_,rfl,law_post d (by kernel_rfl) rfl rfl rfl s⟩
theorem proved:Rows.OpMeetsSaid:=
 OpenClaim.holds_of_wide 10 Tryz.f10 rfl rfl rfl rfl rfl rfl rfl ⟨rfl,rfl,rfl,rfl,rfl⟩ rfl rfl rfl rfl rfl (by kernel_rfl) Tryz.func10 (by kernel_rfl)
  (jH (by kernel_rfl)) (by unfold Func.isWrapper;first | (rw[if_pos (by decide +kernel)];kernel_rfl) | (rw[if_neg (by decide +kernel)];exact⟨rfl,rfl⟩))
  (fun os started H a _=>lifted os started H a)
#print axioms proved
end lawOpMeets
end Go.Proofs.YtgeafpaognhokaaGreat
