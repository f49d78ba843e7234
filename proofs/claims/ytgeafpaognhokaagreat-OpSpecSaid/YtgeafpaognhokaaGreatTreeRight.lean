/- Trees: what is right, the program's. -/
import Derived.Test.YtgeafpaognhokaaGreatG00
set_option maxRecDepth 100000
set_option maxHeartbeats 4000000
namespace Go.Proofs.YtgeafpaognhokaaGreat
open ChangeShapes WideShapes ChangeAt RowKit
namespace Tr
open Sp Rw
theorem Jb (a n b m:Int):decide (0≤Dt.lH a n b m) = !Dt.kI a n b m:=by
 unfold Dt.lH Dt.kI
 by_cases h:a<b∨(a=b∧n<m)
 ·rw[if_pos h,aJ h];rfl
 ·rw[if_neg h,aM h]
  split <;> rfl
theorem fD:∀ (d:Nat) (t:T) (Ae Ak:Option Addr) (ne nk ce ck:Nat) (w:World),d≤1000→LenT reachBytes t→aF w w.heap.size t ⟨Ae,ne,ce⟩ ⟨Ak,nk,ck⟩ →
  Calls Tryz.prog 91 #[.agg #[.slice Ae ne ce,.slice Ak nk ck],.int .i64 ((d:Nat):Int)] w fun e w'=>e = .returned (.bool (ak d t))∧av w w':=by
 intro d
 induction d with
 | zero=>
  intro t Ae Ak ne nk ce ck w _ _ _;rw[vO];go_enter Tryz.func91,Tryz.ntmps91;go_wp2_with fail;go_ret;exact⟨rfl,Dt.ay _ _ _⟩
 | succ d ih=>
  intro t Ae Ak ne nk ce ck w hd hl hr
  cases t with
  | mk es ks=>
   obtain⟨m,hm⟩:∃ m,m=d+1:=⟨_,rfl⟩;rw[← hm];obtain⟨z,hz⟩:∃ z,z=ak m (.mk es ks):=⟨_,rfl⟩;rw[← hz];rw[hm]at hz;have HZ:=ah hz
   have fm:((m:Int)==0)=false:=by simp;omega
   have hdm:IntKind.i64.wrap ((m:Int)-1)=(d:Int):=by rw[iN];omega
   have Od:=hl.es;have Oe:=hl.ks;obtain⟨Ob,Oc⟩:=bn hr;have HR:=ah hr;have NK:=ah Ob;have NM:=ah Oc;clear Ob Oc hr;rw[NK.o]at Od;rw[NM.o]at Oe;unfold reachBytes at Od Oe;have IH:=ah ih;have HL:=ah hl;clear ih hl hz hm;obtain⟨g,hg⟩:∃ g,g=w.heap.size:=⟨_,rfl⟩;have HK:=ah (bQ w Ae Ak ne nk ce ck);rw[← hg]at HK;obtain⟨W0,NP⟩:∃ W,W=w.alloc (.cells #[.slice Ae ne ce,.slice Ak nk ck] 35):=⟨_,rfl⟩;rw[← NP]at HK;have HG:=ah hg;have Oh:=ah NP;have k0:=HK.c0;have k1:=HK.c1;clear hg NP;go_enter Tryz.func91,Tryz.ntmps91;go_wp2_with fail;rw[← HG.o,← Oh.o];go_wp2_with fail
   go_loopw [14] (fun i wr=>∃ (k:Nat),k≤ne∧i = .int .i64 k∧ai (lC es k)∧ai (Kept [(⟨g,0,none⟩,.slice Ae ne ce),(⟨g,1,none⟩,.slice Ak nk ck)] w wr)) (fun i _=>ne-(intOf i).toNat)
   case atStart=>exact⟨0,by omega,rfl,lC.zero _,HK⟩
   case round=>
    obtain⟨k,hk,rfl,NI,r⟩:=hrel;clear k0 k1;have k0:=r.c0;have k1:=r.c1
    by_cases NT:k<ne
    ·have u:k<es.length:=by rw[NK.o];exact NT
     obtain⟨b,o,rfl,hb,hc⟩:=uR HR (by omega);obtain⟨c0,c1,c2,c3⟩:=hc k u;have c0:=(r.below.cell (p:=⟨b,o+k*4,none⟩) hb).trans c0;have c1:=(r.below.cell (p:=⟨b,o+k*4+1,none⟩) hb).trans c1;have c2:=(r.below.cell (p:=⟨b,o+k*4+2,none⟩) hb).trans c2;have c3:=(r.below.cell (p:=⟨b,o+k*4+3,none⟩) hb).trans c3;obtain⟨eb,U⟩:∃ z,nE es[k]=z:=⟨_,rfl⟩;have B:=fun W=>ah (xQ es[k] W);rw[U]at B;obtain⟨ea,en,NN,ev,NR⟩:∃ a n s v,es[k]=⟨a,n,s,v⟩:=⟨_,_,_,_,rfl⟩;rw[NR]at c0 c1 c2 c3 B;dsimp only at c0 c1 c2 c3 B;have NE:=ah U;have Og:=ah NR;clear U NR;obtain⟨p,W1,hp,N_,C,p0,p1,p2,p3⟩:=zi wr (.int .i64 ea) (.int .i64 en) (.string NN) (.int .i64 ev) 97;have y:=ah (((((r.later C).af p3).af p2).af p1).af p0)
     have N9:=ah N_;have HP:=ah hp;clear N_ hp
     by_cases h0:0<k
     ·obtain⟨R,d1,_,_⟩:=hc (k-1) (by omega)
      have R:=(r.below.cell (p:=⟨b,o+(k-1)*4,none⟩) hb).trans R;have d1:=(r.below.cell (p:=⟨b,o+(k-1)*4+1,none⟩) hb).trans d1;have N7:b<wr.heap.size:=aL wr _ R;have R:=(C.cell (p:=⟨b,o+(k-1)*4,none⟩) N7).trans R;have d1:=(C.cell (p:=⟨b,o+(k-1)*4+1,none⟩) N7).trans d1;obtain⟨pa,NU⟩:∃ x,x=(es[k-1]).a:=⟨_,rfl⟩;obtain⟨pn,NW⟩:∃ x,x=(es[k-1]).n:=⟨_,rfl⟩;rw[← NU]at R;rw[← NW]at d1;obtain⟨lb,NC⟩:∃ z,Dt.kI pa pn ea en=z:=⟨_,rfl⟩
      have Oj:IntKind.i64.wrap ((k:Int)-1)=((k-1:Nat):Int):=by rw[iN];omega
      have NZ:((k-1:Nat):Int)<(ne:Int):=by omega
      have Oa:(0:Int)≤((k-1:Nat):Int):=by omega
      have N8:ai (mX es[k-1] es[k]↔lb=true):=ah (by rw[← NC];unfold mX;rw[Og.o,← NU,← NW])
      have y:=ah ((y.af d1).af R);have Q:=fun W=>ah (Dt.pO pa pn ea en W);obtain⟨cm,NQ⟩:∃ z,Dt.lH pa pn ea en=z:=⟨_,rfl⟩;have Oi:=Jb pa pn ea en;rw[NC,NQ]at Oi;rw[NQ]at Q;clear NQ;clear NC NU NW hc N7;have fz:decide ((0:Int)<(k:Int))=true:=aJ (by omega);have c:=ah y.drew;obtain⟨s0,s1,s2,s3,s4,s5,s6,s7,-⟩:=y.cj;clear C y;clear p0 p1 p2 p3;go_wp2_with fail;rw[← HP.o,← N9.o];refine Rk (S:=fun W=>W.cell? ⟨b,o+(k-1)*4,none⟩=some (.int .i64 pa)∧W.cell? ⟨b,o+(k-1)*4+1,none⟩=some (.int .i64 pn)∧W.cell? ⟨p,0,none⟩=some (.int .i64 ea)∧W.cell? ⟨p,1,none⟩=some (.int .i64 en)∧W.cell? ⟨p,2,none⟩=some (.string NN)∧W.cell? ⟨p,3,none⟩=some (.int .i64 ev)∧W.cell? ⟨g,0,none⟩=some (.slice (some ⟨b,o,none⟩) ne ce)∧W.cell? ⟨g,1,none⟩=some (.slice Ak nk ck)) (fun hHeld=>?_)
      refine Tk 0 19 ?_
      cases eb with
      | true=>
       refine Tc 1 (fun K q=>?_);go_simp;(go_at_call 133;refine (B _).o.mono ?_;rintro e M ⟨rfl,f⟩;have c:=ah (c.later f);clear f);clear hHeld;refine Th q ?_ (fun hHeld=>?_)
       ·exact⟨c.c0,c.c1,c.c2,c.c3,c.c4,c.c5,c.c6,c.c7⟩
       clear q K;refine T4 2 21 3 22 4 23 5 24 ?_;refine T4 6 25 7 26 8 27 9 28 ?_;refine T4 10 29 11 30 12 31 13 32 ?_;refine T2 14 33 15 34 ?_
       cases lb with
       | true=>
        refine Tc 16 (fun K q=>?_);go_simp;(go_at_call 134;refine (Q _).o.mono ?_;rintro e M ⟨rfl,f⟩;have c:=ah (c.later f);clear f);clear hHeld;refine Th q ?_ (fun hHeld=>?_)
        ·exact⟨c.c0,c.c1,c.c2,c.c3,c.c4,c.c5,c.c6,c.c7⟩
        clear q K;refine T3 17 36 18 37 19 38 ?_;refine Td ?_;have N:ai (lC es (k+1)):=NI.succ u (iY.1 NE) (fun _=>N8.2 rfl);have O:=ah c.tail.tail.tail.tail.tail.tail;go_wp2_with fail;go_roundw
        case rel=>exact⟨k+1,by omega,by go_num,N,O⟩
        case measure=>simp[intOf];omega
       | false=>
        refine Tc 16 (fun K q=>?_);go_simp;(go_at_call 134;refine (Q _).o.mono ?_;rintro e M ⟨rfl,f⟩;have c:=ah (c.later f);clear f);clear hHeld;refine Th q ?_ (fun hHeld=>?_)
        ·exact⟨c.c0,c.c1,c.c2,c.c3,c.c4,c.c5,c.c6,c.c7⟩
        clear q K;refine T3 17 36 18 37 19 38 ?_;refine Td ?_;go_wp2_with fail;go_ret;exact⟨Dt.aj (by rw[HZ.o];exact (jV k u (fun h=>absurd (N8.1 (h.2 h0)) (by simp))).symm),c.below⟩
      | false=>
       refine Tc 1 (fun K q=>?_);go_simp;(go_at_call 133;refine (B _).o.mono ?_;rintro e M ⟨rfl,f⟩;have c:=ah (c.later f);clear f);clear hHeld;refine Th q ?_ (fun hHeld=>?_)
       ·exact⟨c.c0,c.c1,c.c2,c.c3,c.c4,c.c5,c.c6,c.c7⟩
       clear q K;refine T2 2 21 3 22 ?_;refine U4 4 23 5 24 6 25 7 26 ?_;refine U4 8 27 9 28 10 29 11 30 ?_;refine U4 12 31 13 32 14 33 15 34 ?_;refine U3 16 35 17 36 18 37 ?_;refine Tk 19 38 ?_;refine Td ?_;go_wp2_with fail;go_ret;exact⟨Dt.aj (by rw[HZ.o];exact (jV k u (fun h=>absurd (iY.2 h.1) (by rw[NE.o];simp))).symm),c.below⟩
     ·clear hc
      have fz:decide ((0:Int)<(k:Int))=false:=aM (by omega);have c:=ah y.drew;obtain⟨s0,s1,s2,s3,s4,s5,-⟩:=y.cj;clear C y;clear p0 p1 p2 p3;go_wp2_with fail;rw[← HP.o,← N9.o];refine Rk (S:=fun W=>W.cell? ⟨p,0,none⟩=some (.int .i64 ea)∧W.cell? ⟨p,1,none⟩=some (.int .i64 en)∧W.cell? ⟨p,2,none⟩=some (.string NN)∧W.cell? ⟨p,3,none⟩=some (.int .i64 ev)∧W.cell? ⟨g,0,none⟩=some (.slice (some ⟨b,o,none⟩) ne ce)∧W.cell? ⟨g,1,none⟩=some (.slice Ak nk ck)) (fun hHeld=>?_);refine Tk 0 19 ?_
      cases eb with
      | true=>
       refine Tc 1 (fun K q=>?_);go_simp;(go_at_call 133;refine (B _).o.mono ?_;rintro e M ⟨rfl,f⟩;have c:=ah (c.later f);clear f);clear hHeld;refine Th q ?_ (fun hHeld=>?_)
       ·exact⟨c.c0,c.c1,c.c2,c.c3,c.c4,c.c5⟩
       clear q K;refine T4 2 21 3 22 4 23 5 24 ?_;refine Tk 6 25 ?_;refine U4 7 26 8 27 9 28 10 29 ?_;refine U4 11 30 12 31 13 32 14 33 ?_;refine U3 15 34 16 35 17 36 ?_;refine T2 18 37 19 38 ?_;refine Td ?_;have N:ai (lC es (k+1)):=NI.succ u (iY.1 NE) (fun h=>absurd h h0);have O:=ah c.tail.tail.tail.tail;go_wp2_with fail;go_roundw
       case rel=>exact⟨k+1,by omega,by go_num,N,O⟩
       case measure=>simp[intOf];omega
      | false=>
       refine Tc 1 (fun K q=>?_);go_simp;(go_at_call 133;refine (B _).o.mono ?_;rintro e M ⟨rfl,f⟩;have c:=ah (c.later f);clear f);clear hHeld;refine Th q ?_ (fun hHeld=>?_)
       ·exact⟨c.c0,c.c1,c.c2,c.c3,c.c4,c.c5⟩
       clear q K;refine T2 2 21 3 22 ?_;refine U4 4 23 5 24 6 25 7 26 ?_;refine U4 8 27 9 28 10 29 11 30 ?_;refine U4 12 31 13 32 14 33 15 34 ?_;refine U3 16 35 17 36 18 37 ?_;refine Tk 19 38 ?_;refine Td ?_;go_wp2_with fail;go_ret;exact⟨Dt.aj (by rw[HZ.o];exact (jV k u (fun h=>absurd (iY.2 h.1) (by rw[NE.o];simp))).symm),c.below⟩
    ·obtain rfl:k=ne:=by omega
     have HK:=r;clear k0 k1 r;have k0:=HK.c0;have k1:=HK.c1;go_wp2_with fail
     go_loopw [43] (fun i wr=>∃ (j:Nat),j≤nk∧i = .int .i64 j∧ai (lD d ks j)∧ai (Kept [(⟨g,0,none⟩,.slice Ae k ce),(⟨g,1,none⟩,.slice Ak nk ck)] w wr)) (fun i _=>nk-(intOf i).toNat)
     case atStart=>exact⟨0,by omega,rfl,lD.zero _ _,HK⟩
     case round=>
      obtain⟨j,hj,rfl,NJ,r⟩:=hrel;clear k0 k1;have k0:=r.c0;have k1:=r.c1
      by_cases NT:j<nk
      ·have u:j<ks.length:=by rw[NM.o];exact NT
       obtain⟨b,o,rfl,hb,hc⟩:=iJ HR (by omega);obtain⟨⟨Y,D,Ny⟩,⟨Z,F,Nz⟩,c0,c1,c2,NA⟩:=hc j u;dsimp only at c0 c1 c2;have c0:=(r.below.cell (p:=⟨b,o+j*3,none⟩) hb).trans c0;have c1:=(r.below.cell (p:=⟨b,o+j*3+1,none⟩) hb).trans c1;have c2:=(r.below.cell (p:=⟨b,o+j*3+2,none⟩) hb).trans c2;obtain⟨L,J⟩:∃ L,L=(ks[j]).1:=⟨_,rfl⟩;rw[← J]at c0;obtain⟨kb,NS⟩:∃ z,lg L=z:=⟨_,rfl⟩;have H:=fun W=>ah (tF L W);rw[NS]at H
       have V:(ks[j]).2.es.length=D∧(ks[j]).2.ks.length=F:=by
        have:=NA;rw[← T.eta (ks[j]).2]at this;exact bn this
       have NH:=HL.yH (bT u)
       have hlE:D≤140737488351232:=by
        have:=NH;rw[← T.eta (ks[j]).2]at this;have:=this.es;unfold reachBytes at this;omega
       have hlK:F≤140737488351232:=by
        have:=NH;rw[← T.eta (ks[j]).2]at this;have:=this.ks;unfold reachBytes at this;omega
       obtain⟨eb,U⟩:∃ z,decide (D=0∧F=0)=z:=⟨_,rfl⟩
       have X:ai (¬((ks[j]).2.es=[]∧(ks[j]).2.ks=[])↔eb=false):=by
        unfold ai;rw[← U,Ea,← V.1,← V.2,jE,jE]
       obtain⟨rb,NY⟩:∃ z,ak d (ks[j]).2=z:=⟨_,rfl⟩
       have NF:ai (iV (ks[j]).1↔kb=true):=ah (by rw[← J,← NS];exact fI.symm)
       have NG:ai (au d (ks[j]).2↔rb=true):=ah (by rw[← NY];exact aO.symm)
       have A:ai (∀ W,av w W→Calls Tryz.prog 91 #[.agg #[.slice Y D Ny,.slice Z F Nz],.int .i64 (d:Int)] W fun e w'=>e = .returned (.bool rb)∧av W w'):=fun W hW=>by
        rw[← NY];exact IH.o _ Y Z D F Ny Nz W (by omega) NH (aF.more hW.size _ (aF.below NA hW))
       have G:=fun W=>ah (iO Y Z D F Ny Nz W);rw[U]at G;obtain⟨p,W1,hp,N_,C,p0,p1,p2⟩:=rW wr (.string L) (.slice Y D Ny) (.slice Z F Nz) 134;have y:=ah ((((r.later C).af p2).af p1).af p0);have N9:=ah N_;have HP:=ah hp;clear N_ hp NS U NY NA V NH
       by_cases h0:0<j
       ·obtain⟨_,_,R,_,_,_⟩:=hc (j-1) (by omega)
        have R:=(r.below.cell (p:=⟨b,o+(j-1)*3,none⟩) hb).trans R;have N7:b<wr.heap.size:=aL wr _ R;have R:=(C.cell (p:=⟨b,o+(j-1)*3,none⟩) N7).trans R;obtain⟨pk,NV⟩:∃ x,x=(ks[j-1]).1:=⟨_,rfl⟩;rw[← NV]at R;obtain⟨lb,NC⟩:∃ z,Op.bytesLess pk.toList L.toList=z:=⟨_,rfl⟩
        have Oj:IntKind.i64.wrap ((j:Int)-1)=((j-1:Nat):Int):=by rw[iN];omega
        have NZ:((j-1:Nat):Int)<(nk:Int):=by omega
        have Oa:(0:Int)≤((j-1:Nat):Int):=by omega
        have N8:ai (cK (ks[j-1]).1 (ks[j]).1↔lb=true):=ah (by rw[← NC];unfold cK;rw[← NV,← J])
        have y:=ah (y.af R);clear NV hc N7 J;have fz:decide ((0:Int)<(j:Int))=true:=aJ (by omega);have c:=ah y.drew;obtain⟨s0,s1,s2,s3,s4,s5,-⟩:=y.cj;clear C y p0 p1 p2;go_wp2_with fail;rw[← HP.o,← N9.o];refine Rk (S:=fun W=>W.cell? ⟨b,o+(j-1)*3,none⟩=some (.string pk)∧W.cell? ⟨p,0,none⟩=some (.string L)∧W.cell? ⟨p,1,none⟩=some (.slice Y D Ny)∧W.cell? ⟨p,2,none⟩=some (.slice Z F Nz)∧W.cell? ⟨g,0,none⟩=some (.slice Ae k ce)∧W.cell? ⟨g,1,none⟩=some (.slice (some ⟨b,o,none⟩) nk ck)) (fun hHeld=>?_);refine T2 0 48 1 49 ?_
        cases kb with
        | true=>
         refine Tc 2 (fun K q=>?_);go_simp;(go_at_call 135;refine (H _).o.mono ?_;rintro e M ⟨rfl,rfl⟩);refine Th q ?_ (fun l=>?_)
         ·exact hHeld
         clear q K hHeld;have hHeld:=l;clear l;refine T4 3 51 4 52 5 53 6 54 ?_;refine T4 7 55 8 56 9 57 10 58 ?_;refine T4 11 59 12 60 13 61 14 62 ?_;refine T2 15 63 16 64 ?_
         cases lb with
         | true=>
          refine T4 17 65 18 66 19 67 20 68 ?_;refine T2 21 69 22 70 ?_
          cases eb with
          | true=>
           refine Tc 23 (fun K q=>?_);go_simp;(go_at_call 136;refine (G _).o.mono ?_;rintro e M ⟨rfl,f⟩;have c:=ah (c.later f);clear f);clear hHeld;refine Th q ?_ (fun hHeld=>?_)
           ·exact⟨c.c0,c.c1,c.c2,c.c3,c.c4,c.c5⟩
           clear q K;refine T2 24 72 25 73 ?_;refine U4 26 74 27 75 28 76 29 77 ?_;refine U2 30 78 31 79 ?_;refine Tk 32 80 ?_;refine Td ?_;go_wp2_with fail;go_ret;exact⟨Dt.aj (by rw[HZ.o];exact (dK j u (fun h=>absurd (X.1 h.2.2.1) (by simp))).symm),c.below⟩
          | false=>
           refine Tc 23 (fun K q=>?_);go_simp;(go_at_call 136;refine (G _).o.mono ?_;rintro e M ⟨rfl,f⟩;have c:=ah (c.later f);clear f);clear hHeld;refine Th q ?_ (fun hHeld=>?_)
           ·exact⟨c.c0,c.c1,c.c2,c.c3,c.c4,c.c5⟩
           clear q K;refine T4 24 72 25 73 26 74 27 75 ?_;refine T2 28 76 29 77 ?_
           cases rb with
           | true=>
            refine Tc 30 (fun K q=>?_);go_simp;(go_at_call 91;refine (A.o _ c.below).mono ?_;rintro e M ⟨rfl,f⟩;have c:=ah (c.later f);clear f);clear hHeld;refine Th q ?_ (fun hHeld=>?_)
            ·exact⟨c.c0,c.c1,c.c2,c.c3,c.c4,c.c5⟩
            clear q K;refine T2 31 79 32 80 ?_;refine Td ?_;have N:ai (lD d ks (j+1)):=NJ.succ u ⟨NF.2 rfl,fun _=>N8.2 rfl,X.2 rfl,NG.2 rfl⟩;have O:=ah c.tail.tail.tail.tail;go_wp2_with fail;go_roundw
            case rel=>exact⟨j+1,by omega,by go_num,N,O⟩
            case measure=>simp[intOf];omega
           | false=>
            refine Tc 30 (fun K q=>?_);go_simp;(go_at_call 91;refine (A.o _ c.below).mono ?_;rintro e M ⟨rfl,f⟩;have c:=ah (c.later f);clear f);clear hHeld;refine Th q ?_ (fun hHeld=>?_)
            ·exact⟨c.c0,c.c1,c.c2,c.c3,c.c4,c.c5⟩
            clear q K;refine T2 31 79 32 80 ?_;refine Td ?_;go_wp2_with fail;go_ret;exact⟨Dt.aj (by rw[HZ.o];exact (dK j u (fun h=>absurd (NG.1 h.2.2.2) (by simp))).symm),c.below⟩
         | false=>
          refine T4 17 65 18 66 19 67 20 68 ?_;refine U3 21 69 22 70 23 71 ?_;refine T2 24 72 25 73 ?_;refine U4 26 74 27 75 28 76 29 77 ?_;refine U2 30 78 31 79 ?_;refine Tk 32 80 ?_;refine Td ?_;go_wp2_with fail;go_ret;exact⟨Dt.aj (by rw[HZ.o];exact (dK j u (fun h=>absurd (N8.1 (h.2.1 h0)) (by simp))).symm),c.below⟩
        | false=>
         refine Tc 2 (fun K q=>?_);go_simp;(go_at_call 135;refine (H _).o.mono ?_;rintro e M ⟨rfl,rfl⟩);refine Th q ?_ (fun l=>?_)
         ·exact hHeld
         clear q K hHeld;have hHeld:=l;clear l;refine T2 3 51 4 52 ?_;refine U4 5 53 6 54 7 55 8 56 ?_;refine U4 9 57 10 58 11 59 12 60 ?_;refine U4 13 61 14 62 15 63 16 64 ?_;refine U2 17 65 18 66 ?_;refine T2 19 67 20 68 ?_;refine U3 21 69 22 70 23 71 ?_;refine T2 24 72 25 73 ?_;refine U4 26 74 27 75 28 76 29 77 ?_;refine U2 30 78 31 79 ?_;refine Tk 32 80 ?_;refine Td ?_;go_wp2_with fail;go_ret;exact⟨Dt.aj (by rw[HZ.o];exact (dK j u (fun h=>absurd (NF.1 h.1) (by simp))).symm),c.below⟩
       ·clear hc J
        have fz:decide ((0:Int)<(j:Int))=false:=aM (by omega);have c:=ah y.drew;obtain⟨s0,s1,s2,s3,s4,-⟩:=y.cj;clear C y p0 p1 p2;go_wp2_with fail;rw[← HP.o,← N9.o];refine Rk (S:=fun W=>W.cell? ⟨p,0,none⟩=some (.string L)∧W.cell? ⟨p,1,none⟩=some (.slice Y D Ny)∧W.cell? ⟨p,2,none⟩=some (.slice Z F Nz)∧W.cell? ⟨g,0,none⟩=some (.slice Ae k ce)∧W.cell? ⟨g,1,none⟩=some (.slice (some ⟨b,o,none⟩) nk ck)) (fun hHeld=>?_);refine T2 0 48 1 49 ?_
        cases kb with
        | true=>
         refine Tc 2 (fun K q=>?_);go_simp;(go_at_call 135;refine (H _).o.mono ?_;rintro e M ⟨rfl,rfl⟩);refine Th q ?_ (fun l=>?_)
         ·exact hHeld
         clear q K hHeld;have hHeld:=l;clear l;refine T4 3 51 4 52 5 53 6 54 ?_;refine Tk 7 55 ?_;refine U4 8 56 9 57 10 58 11 59 ?_;refine U4 12 60 13 61 14 62 15 63 ?_;refine U2 16 64 17 65 ?_;refine T4 18 66 19 67 20 68 21 69 ?_;refine Tk 22 70 ?_
         cases eb with
         | true=>
          refine Tc 23 (fun K q=>?_);go_simp;(go_at_call 136;refine (G _).o.mono ?_;rintro e M ⟨rfl,f⟩;have c:=ah (c.later f);clear f);clear hHeld;refine Th q ?_ (fun hHeld=>?_)
          ·exact⟨c.c0,c.c1,c.c2,c.c3,c.c4⟩
          clear q K;refine T2 24 72 25 73 ?_;refine U4 26 74 27 75 28 76 29 77 ?_;refine U2 30 78 31 79 ?_;refine Tk 32 80 ?_;refine Td ?_;go_wp2_with fail;go_ret;exact⟨Dt.aj (by rw[HZ.o];exact (dK j u (fun h=>absurd (X.1 h.2.2.1) (by simp))).symm),c.below⟩
         | false=>
          refine Tc 23 (fun K q=>?_);go_simp;(go_at_call 136;refine (G _).o.mono ?_;rintro e M ⟨rfl,f⟩;have c:=ah (c.later f);clear f);clear hHeld;refine Th q ?_ (fun hHeld=>?_)
          ·exact⟨c.c0,c.c1,c.c2,c.c3,c.c4⟩
          clear q K;refine T4 24 72 25 73 26 74 27 75 ?_;refine T2 28 76 29 77 ?_
          cases rb with
          | true=>
           refine Tc 30 (fun K q=>?_);go_simp;(go_at_call 91;refine (A.o _ c.below).mono ?_;rintro e M ⟨rfl,f⟩;have c:=ah (c.later f);clear f);clear hHeld;refine Th q ?_ (fun hHeld=>?_)
           ·exact⟨c.c0,c.c1,c.c2,c.c3,c.c4⟩
           clear q K;refine T2 31 79 32 80 ?_;refine Td ?_;have N:ai (lD d ks (j+1)):=NJ.succ u ⟨NF.2 rfl,fun h=>absurd h h0,X.2 rfl,NG.2 rfl⟩;have O:=ah c.tail.tail.tail;go_wp2_with fail;go_roundw
           case rel=>exact⟨j+1,by omega,by go_num,N,O⟩
           case measure=>simp[intOf];omega
          | false=>
           refine Tc 30 (fun K q=>?_);go_simp;(go_at_call 91;refine (A.o _ c.below).mono ?_;rintro e M ⟨rfl,f⟩;have c:=ah (c.later f);clear f);clear hHeld;refine Th q ?_ (fun hHeld=>?_)
           ·exact⟨c.c0,c.c1,c.c2,c.c3,c.c4⟩
           clear q K;refine T2 31 79 32 80 ?_;refine Td ?_;go_wp2_with fail;go_ret;exact⟨Dt.aj (by rw[HZ.o];exact (dK j u (fun h=>absurd (NG.1 h.2.2.2) (by simp))).symm),c.below⟩
        | false=>
         refine Tc 2 (fun K q=>?_);go_simp;(go_at_call 135;refine (H _).o.mono ?_;rintro e M ⟨rfl,rfl⟩);refine Th q ?_ (fun l=>?_)
         ·exact hHeld
         clear q K hHeld;have hHeld:=l;clear l;refine T2 3 51 4 52 ?_;refine U4 5 53 6 54 7 55 8 56 ?_;refine U4 9 57 10 58 11 59 12 60 ?_;refine U4 13 61 14 62 15 63 16 64 ?_;refine U2 17 65 18 66 ?_;refine T2 19 67 20 68 ?_;refine U3 21 69 22 70 23 71 ?_;refine T2 24 72 25 73 ?_;refine U4 26 74 27 75 28 76 29 77 ?_;refine U2 30 78 31 79 ?_;refine Tk 32 80 ?_;refine Td ?_;go_wp2_with fail;go_ret;exact⟨Dt.aj (by rw[HZ.o];exact (dK j u (fun h=>absurd (NF.1 h.1) (by simp))).symm),c.below⟩
      ·obtain rfl:j=nk:=by omega
       go_wp2_with fail;go_ret;exact⟨Dt.aj (by rw[HZ.o];exact (xP (by rw[NK.o];exact NI.o) (by rw[NM.o];exact NJ.o)).symm),r.below⟩
theorem bS (t:T) (Ae Ak:Option Addr) (ne nk ce ck:Nat) (w:World) (f:LenT reachBytes t) (g:aF w w.heap.size t ⟨Ae,ne,ce⟩ ⟨Ak,nk,ck⟩) :
  Calls Tryz.prog 46 #[.agg #[.slice Ae ne ce,.slice Ak nk ck]] w fun e w'=>e = .returned (.bool (ak 5 t))∧av w w':=by
 have a:av w (w.alloc (.cells #[.slice Ae ne ce,.slice Ak nk ck] 35)):=Dt.ay _ _ _;have h:=ah (fD 5 t Ae Ak ne nk ce ck _ (by omega) f (aF.more a.size _ (aF.below g a)));have d:=ah a;clear f g a;go_enter Tryz.func46,Tryz.ntmps46;go_wp2_with fail;refine h.mono ?_;rintro e w2 ⟨rfl,b⟩;have c:=ah (d.trans (b.mono d.size));clear b;go_wp2_with fail;go_ret;exact⟨rfl,c⟩
end Tr
end Go.Proofs.YtgeafpaognhokaaGreat
