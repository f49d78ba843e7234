/- Trees: what is right, the document's. -/
import Derived.Test.YtgeafpaognhokaaGreatG00
import Derived.Test.YtgeafpaognhokaaGreatTreeRight
set_option maxRecDepth 100000
set_option maxHeartbeats 4000000
namespace Go.Proofs.YtgeafpaognhokaaGreat
open ChangeShapes WideShapes ChangeAt RowKit
namespace Tr
open Sp Rw
theorem gN:∀ (d:Nat) (t:T) (Ae Ak:Option Addr) (ne nk ce ck:Nat) (w:World),d≤1000→LenT reachBytes t→aF w w.heap.size t ⟨Ae,ne,ce⟩ ⟨Ak,nk,ck⟩ →
  Calls Tryz.prog 68 #[.agg #[.slice Ae ne ce,.slice Ak nk ck],.int .i64 ((d:Nat):Int)] w fun e w'=>e = .returned (.bool (ak d t))∧av w w':=by
 intro d
 induction d with
 | zero=>
  intro t Ae Ak ne nk ce ck w _ _ _;rw[vO];go_enter Tryz.func68,Tryz.ntmps68;go_wp2_with fail;go_ret;exact⟨rfl,Dt.ay _ _ _⟩
 | succ d ih=>
  intro t Ae Ak ne nk ce ck w hd hl hr
  cases t with
  | mk es ks=>
   obtain⟨m,hm⟩:∃ m,m=d+1:=⟨_,rfl⟩;rw[← hm];obtain⟨z,hz⟩:∃ z,z=ak m (.mk es ks):=⟨_,rfl⟩;rw[← hz];rw[hm]at hz;have HZ:=ah hz
   have fm:((m:Int)==0)=false:=by simp;omega
   have hdm:IntKind.i64.wrap ((m:Int)-1)=(d:Int):=by rw[iN];omega
   have Ob:=hl.es;have Oc:=hl.ks;obtain⟨NZ,Oa⟩:=bn hr;have HR:=ah hr;have NH:=ah NZ;have NI:=ah Oa;clear NZ Oa hr;rw[NH.o]at Ob;rw[NI.o]at Oc;unfold reachBytes at Ob Oc;have IH:=ah ih;have HL:=ah hl;clear ih hl hz hm;obtain⟨g,hg⟩:∃ g,g=w.heap.size:=⟨_,rfl⟩;have HK:=ah (bQ w Ae Ak ne nk ce ck);rw[← hg]at HK;obtain⟨W0,NJ⟩:∃ W,W=w.alloc (.cells #[.slice Ae ne ce,.slice Ak nk ck] 35):=⟨_,rfl⟩;rw[← NJ]at HK;have HG:=ah hg;have Oe:=ah NJ;have k0:=HK.c0;have k1:=HK.c1;clear hg NJ;go_enter Tryz.func68,Tryz.ntmps68;go_wp2_with fail;rw[← HG.o,← Oe.o];go_wp2_with fail
   go_loopw [13] (fun i wr=>∃ (k:Nat),k≤ne∧i = .int .i64 k∧ai (lC es k)∧ai (Kept [(⟨g,0,none⟩,.slice Ae ne ce),(⟨g,1,none⟩,.slice Ak nk ck)] w wr)) (fun i _=>ne-(intOf i).toNat)
   case atStart=>exact⟨0,by omega,rfl,lC.zero _,HK⟩
   case round=>
    obtain⟨k,hk,rfl,NF,q⟩:=hrel;clear k0 k1;have k0:=q.c0;have k1:=q.c1
    by_cases NN:k<ne
    ·have u:k<es.length:=by rw[NH.o];exact NN
     obtain⟨b,o,rfl,hb,hc⟩:=uR HR (by omega);obtain⟨c0,c1,c2,c3⟩:=hc k u;have c0:=(q.below.cell (p:=⟨b,o+k*4,none⟩) hb).trans c0;have c1:=(q.below.cell (p:=⟨b,o+k*4+1,none⟩) hb).trans c1;have c2:=(q.below.cell (p:=⟨b,o+k*4+2,none⟩) hb).trans c2;have c3:=(q.below.cell (p:=⟨b,o+k*4+3,none⟩) hb).trans c3;obtain⟨eb,O⟩:∃ z,nE es[k]=z:=⟨_,rfl⟩;have D:=fun W=>ah (jC es[k] W);rw[O]at D;obtain⟨ea,en,NU,ev,NK⟩:∃ a n s v,es[k]=⟨a,n,s,v⟩:=⟨_,_,_,_,rfl⟩;rw[NK]at c0 c1 c2 c3 D;dsimp only at c0 c1 c2 c3 D;have N9:=ah O;have Od:=ah NK;clear O NK;have N:av wr wr:=bN;have y:=ah ((((q.af c3).af c2).af c1).af c0)
     by_cases h0:0<k
     ·obtain⟨U,d1,_,_⟩:=hc (k-1) (by omega)
      have U:=(q.below.cell (p:=⟨b,o+(k-1)*4,none⟩) hb).trans U;have d1:=(q.below.cell (p:=⟨b,o+(k-1)*4+1,none⟩) hb).trans d1;have NC:b<wr.heap.size:=aL wr _ U;obtain⟨pa,NP⟩:∃ x,x=(es[k-1]).a:=⟨_,rfl⟩;obtain⟨pn,NR⟩:∃ x,x=(es[k-1]).n:=⟨_,rfl⟩;rw[← NP]at U;rw[← NR]at d1;obtain⟨lb,N8⟩:∃ z,Dt.kI pa pn ea en=z:=⟨_,rfl⟩
      have Og:IntKind.i64.wrap ((k:Int)-1)=((k-1:Nat):Int):=by rw[iN];omega
      have NW:((k-1:Nat):Int)<(ne:Int):=by omega
      have NY:(0:Int)≤((k-1:Nat):Int):=by omega
      have Z:ai (mX es[k-1] es[k]↔lb=true):=ah (by rw[← N8];unfold mX;rw[Od.o,← NP,← NR])
      have y:=ah ((y.af d1).af U);have M:=fun W=>ah (Dt.pY pa pn ea en W);rw[N8]at M;clear N8 NP NR hc NC;have fz:decide ((0:Int)<(k:Int))=true:=aJ (by omega);have c:=ah y.drew;obtain⟨s0,s1,s2,s3,s4,s5,s6,s7,-⟩:=y.cj;clear N y;go_wp2_with fail;refine Rk (S:=fun W=>W.cell? ⟨b,o+(k-1)*4,none⟩=some (.int .i64 pa)∧W.cell? ⟨b,o+(k-1)*4+1,none⟩=some (.int .i64 pn)∧W.cell? ⟨b,o+k*4,none⟩=some (.int .i64 ea)∧W.cell? ⟨b,o+k*4+1,none⟩=some (.int .i64 en)∧W.cell? ⟨b,o+k*4+2,none⟩=some (.string NU)∧W.cell? ⟨b,o+k*4+3,none⟩=some (.int .i64 ev)∧W.cell? ⟨g,0,none⟩=some (.slice (some ⟨b,o,none⟩) ne ce)∧W.cell? ⟨g,1,none⟩=some (.slice Ak nk ck)) (fun hHeld=>?_)
      refine T4 0 16 1 17 2 18 3 19 ?_;refine Tk 4 20 ?_
      cases eb with
      | true=>
       refine Tc 5 (fun K r=>?_);go_simp;(go_at_call 119;refine (D _).o.mono ?_;rintro e V ⟨rfl,l⟩;have c:=ah (c.later l);clear l);clear hHeld;refine Th r ?_ (fun hHeld=>?_)
       ·exact⟨c.c0,c.c1,c.c2,c.c3,c.c4,c.c5,c.c6,c.c7⟩
       clear r K;refine T4 6 22 7 23 8 24 9 25 ?_;refine T4 10 26 11 27 12 28 13 29 ?_;refine T4 14 30 15 31 16 32 17 33 ?_;refine T4 18 34 19 35 20 36 21 37 ?_;refine T2 22 38 23 39 ?_
       cases lb with
       | true=>
        refine Tc 24 (fun K r=>?_);go_simp;(go_at_call 120;refine (M _).o.mono ?_;rintro e V ⟨rfl,l⟩;have c:=ah (c.later l);clear l);clear hHeld;refine Th r ?_ (fun hHeld=>?_)
        ·exact⟨c.c0,c.c1,c.c2,c.c3,c.c4,c.c5,c.c6,c.c7⟩
        clear r K;refine T3 25 41 26 42 27 43 ?_;refine Td ?_;have J:ai (lC es (k+1)):=NF.succ u (iY.1 N9) (fun _=>Z.2 rfl);have L:=ah c.tail.tail.tail.tail.tail.tail;go_wp2_with fail;go_roundw
        case rel=>exact⟨k+1,by omega,by go_num,J,L⟩
        case measure=>simp[intOf];omega
       | false=>
        refine Tc 24 (fun K r=>?_);go_simp;(go_at_call 120;refine (M _).o.mono ?_;rintro e V ⟨rfl,l⟩;have c:=ah (c.later l);clear l);clear hHeld;refine Th r ?_ (fun hHeld=>?_)
        ·exact⟨c.c0,c.c1,c.c2,c.c3,c.c4,c.c5,c.c6,c.c7⟩
        clear r K;refine T3 25 41 26 42 27 43 ?_;refine Td ?_;go_wp2_with fail;go_ret;exact⟨Dt.aj (by rw[HZ.o];exact (jV k u (fun h=>absurd (Z.1 (h.2 h0)) (by simp))).symm),c.below⟩
      | false=>
       refine Tc 5 (fun K r=>?_);go_simp;(go_at_call 119;refine (D _).o.mono ?_;rintro e V ⟨rfl,l⟩;have c:=ah (c.later l);clear l);clear hHeld;refine Th r ?_ (fun hHeld=>?_)
       ·exact⟨c.c0,c.c1,c.c2,c.c3,c.c4,c.c5,c.c6,c.c7⟩
       clear r K;refine T2 6 22 7 23 ?_;refine U4 8 24 9 25 10 26 11 27 ?_;refine U4 12 28 13 29 14 30 15 31 ?_;refine U4 16 32 17 33 18 34 19 35 ?_;refine U4 20 36 21 37 22 38 23 39 ?_;refine U3 24 40 25 41 26 42 ?_;refine Tk 27 43 ?_;refine Td ?_;go_wp2_with fail;go_ret;exact⟨Dt.aj (by rw[HZ.o];exact (jV k u (fun h=>absurd (iY.2 h.1) (by rw[N9.o];simp))).symm),c.below⟩
     ·clear hc
      have fz:decide ((0:Int)<(k:Int))=false:=aM (by omega);have c:=ah y.drew;obtain⟨s0,s1,s2,s3,s4,s5,-⟩:=y.cj;clear N y;go_wp2_with fail;refine Rk (S:=fun W=>W.cell? ⟨b,o+k*4,none⟩=some (.int .i64 ea)∧W.cell? ⟨b,o+k*4+1,none⟩=some (.int .i64 en)∧W.cell? ⟨b,o+k*4+2,none⟩=some (.string NU)∧W.cell? ⟨b,o+k*4+3,none⟩=some (.int .i64 ev)∧W.cell? ⟨g,0,none⟩=some (.slice (some ⟨b,o,none⟩) ne ce)∧W.cell? ⟨g,1,none⟩=some (.slice Ak nk ck)) (fun hHeld=>?_);refine T4 0 16 1 17 2 18 3 19 ?_;refine Tk 4 20 ?_
      cases eb with
      | true=>
       refine Tc 5 (fun K r=>?_);go_simp;(go_at_call 119;refine (D _).o.mono ?_;rintro e V ⟨rfl,l⟩;have c:=ah (c.later l);clear l);clear hHeld;refine Th r ?_ (fun hHeld=>?_)
       ·exact⟨c.c0,c.c1,c.c2,c.c3,c.c4,c.c5⟩
       clear r K;refine T4 6 22 7 23 8 24 9 25 ?_;refine Tk 10 26 ?_;refine U4 11 27 12 28 13 29 14 30 ?_;refine U4 15 31 16 32 17 33 18 34 ?_;refine U4 19 35 20 36 21 37 22 38 ?_;refine U3 23 39 24 40 25 41 ?_;refine T2 26 42 27 43 ?_;refine Td ?_;have J:ai (lC es (k+1)):=NF.succ u (iY.1 N9) (fun h=>absurd h h0);have L:=ah c.tail.tail.tail.tail;go_wp2_with fail;go_roundw
       case rel=>exact⟨k+1,by omega,by go_num,J,L⟩
       case measure=>simp[intOf];omega
      | false=>
       refine Tc 5 (fun K r=>?_);go_simp;(go_at_call 119;refine (D _).o.mono ?_;rintro e V ⟨rfl,l⟩;have c:=ah (c.later l);clear l);clear hHeld;refine Th r ?_ (fun hHeld=>?_)
       ·exact⟨c.c0,c.c1,c.c2,c.c3,c.c4,c.c5⟩
       clear r K;refine T2 6 22 7 23 ?_;refine U4 8 24 9 25 10 26 11 27 ?_;refine U4 12 28 13 29 14 30 15 31 ?_;refine U4 16 32 17 33 18 34 19 35 ?_;refine U4 20 36 21 37 22 38 23 39 ?_;refine U3 24 40 25 41 26 42 ?_;refine Tk 27 43 ?_;refine Td ?_;go_wp2_with fail;go_ret;exact⟨Dt.aj (by rw[HZ.o];exact (jV k u (fun h=>absurd (iY.2 h.1) (by rw[N9.o];simp))).symm),c.below⟩
    ·obtain rfl:k=ne:=by omega
     have HK:=q;clear k0 k1 q;have k0:=HK.c0;have k1:=HK.c1;go_wp2_with fail
     go_loopw [48] (fun i wr=>∃ (j:Nat),j≤nk∧i = .int .i64 j∧ai (lD d ks j)∧ai (Kept [(⟨g,0,none⟩,.slice Ae k ce),(⟨g,1,none⟩,.slice Ak nk ck)] w wr)) (fun i _=>nk-(intOf i).toNat)
     case atStart=>exact⟨0,by omega,rfl,lD.zero _ _,HK⟩
     case round=>
      obtain⟨j,hj,rfl,NG,q⟩:=hrel;clear k0 k1;have k0:=q.c0;have k1:=q.c1
      by_cases NN:j<nk
      ·have u:j<ks.length:=by rw[NI.o];exact NN
       obtain⟨b,o,rfl,hb,hc⟩:=iJ HR (by omega);obtain⟨⟨X,A,Ny⟩,⟨Y,B,Nz⟩,c0,c1,c2,N7⟩:=hc j u;dsimp only at c0 c1 c2;have c0:=(q.below.cell (p:=⟨b,o+j*3,none⟩) hb).trans c0;have c1:=(q.below.cell (p:=⟨b,o+j*3+1,none⟩) hb).trans c1;have c2:=(q.below.cell (p:=⟨b,o+j*3+2,none⟩) hb).trans c2;obtain⟨H,G⟩:∃ H,H=(ks[j]).1:=⟨_,rfl⟩;rw[← G]at c0;obtain⟨kb,NM⟩:∃ z,lg H=z:=⟨_,rfl⟩;have F:=fun W=>ah (rM H W);rw[NM]at F
       have Q:(ks[j]).2.es.length=A∧(ks[j]).2.ks.length=B:=by
        have:=N7;rw[← T.eta (ks[j]).2]at this;exact bn this
       have NE:=HL.yH (bT u)
       have hlE:A≤140737488351232:=by
        have:=NE;rw[← T.eta (ks[j]).2]at this;have:=this.es;unfold reachBytes at this;omega
       have hlK:B≤140737488351232:=by
        have:=NE;rw[← T.eta (ks[j]).2]at this;have:=this.ks;unfold reachBytes at this;omega
       obtain⟨eb,O⟩:∃ z,decide (A=0∧B=0)=z:=⟨_,rfl⟩
       have R:ai (¬((ks[j]).2.es=[]∧(ks[j]).2.ks=[])↔eb=false):=by
        unfold ai;rw[← O,Ea,← Q.1,← Q.2,jE,jE]
       obtain⟨rb,NS⟩:∃ z,ak d (ks[j]).2=z:=⟨_,rfl⟩
       have N_:ai (iV (ks[j]).1↔kb=true):=ah (by rw[← G,← NM];exact fI.symm)
       have NA:ai (au d (ks[j]).2↔rb=true):=ah (by rw[← NS];exact aO.symm)
       have C:ai (∀ W,av w W→Calls Tryz.prog 68 #[.agg #[.slice X A Ny,.slice Y B Nz],.int .i64 (d:Int)] W fun e w'=>e = .returned (.bool rb)∧av W w'):=fun W hW=>by
        rw[← NS];exact IH.o _ X Y A B Ny Nz W (by omega) NE (aF.more hW.size _ (aF.below N7 hW))
       have hsum:IntKind.i64.wrap ((A:Int)+(B:Int))=(A:Int)+B:=by rw[iN];omega
       have fsum:(((A:Int)+(B:Int))==0)=eb:=by
        rw[← O]
        by_cases h:A=0∧B=0
        ·rw[aJ h,h.1,h.2];rfl
        ·rw[aM h,gP];omega
       obtain⟨p,W1,hp,NV,N,p0,p1,p2⟩:=rW wr (.string H) (.slice X A Ny) (.slice Y B Nz) 134;have y:=ah ((((q.later N).af p2).af p1).af p0);have NT:=ah NV;have HP:=ah hp;clear NV hp NM O NS N7 Q NE
       by_cases h0:0<j
       ·obtain⟨_,_,U,_,_,_⟩:=hc (j-1) (by omega)
        have U:=(q.below.cell (p:=⟨b,o+(j-1)*3,none⟩) hb).trans U;have NC:b<wr.heap.size:=aL wr _ U;have U:=(N.cell (p:=⟨b,o+(j-1)*3,none⟩) NC).trans U;obtain⟨pk,NQ⟩:∃ x,x=(ks[j-1]).1:=⟨_,rfl⟩;rw[← NQ]at U;obtain⟨lb,N8⟩:∃ z,Op.bytesLess pk.toList H.toList=z:=⟨_,rfl⟩
        have Og:IntKind.i64.wrap ((j:Int)-1)=((j-1:Nat):Int):=by rw[iN];omega
        have NW:((j-1:Nat):Int)<(nk:Int):=by omega
        have NY:(0:Int)≤((j-1:Nat):Int):=by omega
        have Z:ai (cK (ks[j-1]).1 (ks[j]).1↔lb=true):=ah (by rw[← N8];unfold cK;rw[← NQ,← G])
        have y:=ah (y.af U);clear NQ hc NC G;have fz:decide ((0:Int)<(j:Int))=true:=aJ (by omega);have c:=ah y.drew;obtain⟨s0,s1,s2,s3,s4,s5,-⟩:=y.cj;clear N y p0 p1 p2;go_wp2_with fail;rw[← HP.o,← NT.o];refine Rk (S:=fun W=>W.cell? ⟨b,o+(j-1)*3,none⟩=some (.string pk)∧W.cell? ⟨p,0,none⟩=some (.string H)∧W.cell? ⟨p,1,none⟩=some (.slice X A Ny)∧W.cell? ⟨p,2,none⟩=some (.slice Y B Nz)∧W.cell? ⟨g,0,none⟩=some (.slice Ae k ce)∧W.cell? ⟨g,1,none⟩=some (.slice (some ⟨b,o,none⟩) nk ck)) (fun hHeld=>?_);refine T2 0 56 1 57 ?_
        cases kb with
        | true=>
         refine Tc 2 (fun K r=>?_);go_simp;(go_at_call 44;refine (F _).o.mono ?_;rintro e V ⟨rfl,rfl⟩);refine Th r ?_ (fun f=>?_)
         ·exact hHeld
         clear r K hHeld;have hHeld:=f;clear f;refine T4 3 59 4 60 5 61 6 62 ?_;refine T4 7 63 8 64 9 65 10 66 ?_;refine T4 11 67 12 68 13 69 14 70 ?_;refine T2 15 71 16 72 ?_
         cases lb with
         | true=>
          refine T4 17 73 18 74 19 75 20 76 ?_;refine T4 21 77 22 78 23 79 24 80 ?_;refine T4 25 81 26 82 27 83 28 84 ?_;refine Tk 29 85 ?_
          cases eb with
          | true=>
           refine T3 30 86 31 87 32 88 ?_;refine U4 33 89 34 90 35 91 36 92 ?_;refine U2 37 93 38 94 ?_;refine Tk 39 95 ?_;refine Td ?_;go_wp2_with fail;go_ret;exact⟨Dt.aj (by rw[HZ.o];exact (dK j u (fun h=>absurd (R.1 h.2.2.1) (by simp))).symm),c.below⟩
          | false=>
           refine T4 30 86 31 87 32 88 33 89 ?_;refine T3 34 90 35 91 36 92 ?_
           cases rb with
           | true=>
            refine Tc 37 (fun K r=>?_);go_simp;(go_at_call 68;refine (C.o _ c.below).mono ?_;rintro e V ⟨rfl,l⟩;have c:=ah (c.later l);clear l);clear hHeld;refine Th r ?_ (fun hHeld=>?_)
            ·exact⟨c.c0,c.c1,c.c2,c.c3,c.c4,c.c5⟩
            clear r K;refine T2 38 94 39 95 ?_;refine Td ?_;have J:ai (lD d ks (j+1)):=NG.succ u ⟨N_.2 rfl,fun _=>Z.2 rfl,R.2 rfl,NA.2 rfl⟩;have L:=ah c.tail.tail.tail.tail;go_wp2_with fail;go_roundw
            case rel=>exact⟨j+1,by omega,by go_num,J,L⟩
            case measure=>simp[intOf];omega
           | false=>
            refine Tc 37 (fun K r=>?_);go_simp;(go_at_call 68;refine (C.o _ c.below).mono ?_;rintro e V ⟨rfl,l⟩;have c:=ah (c.later l);clear l);clear hHeld;refine Th r ?_ (fun hHeld=>?_)
            ·exact⟨c.c0,c.c1,c.c2,c.c3,c.c4,c.c5⟩
            clear r K;refine T2 38 94 39 95 ?_;refine Td ?_;go_wp2_with fail;go_ret;exact⟨Dt.aj (by rw[HZ.o];exact (dK j u (fun h=>absurd (NA.1 h.2.2.2) (by simp))).symm),c.below⟩
         | false=>
          refine T4 17 73 18 74 19 75 20 76 ?_;refine U4 21 77 22 78 23 79 24 80 ?_;refine U4 25 81 26 82 27 83 28 84 ?_;refine U2 29 85 30 86 ?_;refine T2 31 87 32 88 ?_;refine U4 33 89 34 90 35 91 36 92 ?_;refine U2 37 93 38 94 ?_;refine Tk 39 95 ?_;refine Td ?_;go_wp2_with fail;go_ret;exact⟨Dt.aj (by rw[HZ.o];exact (dK j u (fun h=>absurd (Z.1 (h.2.1 h0)) (by simp))).symm),c.below⟩
        | false=>
         refine Tc 2 (fun K r=>?_);go_simp;(go_at_call 44;refine (F _).o.mono ?_;rintro e V ⟨rfl,rfl⟩);refine Th r ?_ (fun f=>?_)
         ·exact hHeld
         clear r K hHeld;have hHeld:=f;clear f;refine T2 3 59 4 60 ?_;refine U4 5 61 6 62 7 63 8 64 ?_;refine U4 9 65 10 66 11 67 12 68 ?_;refine U4 13 69 14 70 15 71 16 72 ?_;refine U2 17 73 18 74 ?_;refine T2 19 75 20 76 ?_;refine U4 21 77 22 78 23 79 24 80 ?_;refine U4 25 81 26 82 27 83 28 84 ?_;refine U2 29 85 30 86 ?_;refine T2 31 87 32 88 ?_;refine U4 33 89 34 90 35 91 36 92 ?_;refine U2 37 93 38 94 ?_;refine Tk 39 95 ?_;refine Td ?_;go_wp2_with fail;go_ret;exact⟨Dt.aj (by rw[HZ.o];exact (dK j u (fun h=>absurd (N_.1 h.1) (by simp))).symm),c.below⟩
       ·clear hc G
        have fz:decide ((0:Int)<(j:Int))=false:=aM (by omega);have c:=ah y.drew;obtain⟨s0,s1,s2,s3,s4,-⟩:=y.cj;clear N y p0 p1 p2;go_wp2_with fail;rw[← HP.o,← NT.o];refine Rk (S:=fun W=>W.cell? ⟨p,0,none⟩=some (.string H)∧W.cell? ⟨p,1,none⟩=some (.slice X A Ny)∧W.cell? ⟨p,2,none⟩=some (.slice Y B Nz)∧W.cell? ⟨g,0,none⟩=some (.slice Ae k ce)∧W.cell? ⟨g,1,none⟩=some (.slice (some ⟨b,o,none⟩) nk ck)) (fun hHeld=>?_);refine T2 0 56 1 57 ?_
        cases kb with
        | true=>
         refine Tc 2 (fun K r=>?_);go_simp;(go_at_call 44;refine (F _).o.mono ?_;rintro e V ⟨rfl,rfl⟩);refine Th r ?_ (fun f=>?_)
         ·exact hHeld
         clear r K hHeld;have hHeld:=f;clear f;refine T4 3 59 4 60 5 61 6 62 ?_;refine Tk 7 63 ?_;refine U4 8 64 9 65 10 66 11 67 ?_;refine U4 12 68 13 69 14 70 15 71 ?_;refine U2 16 72 17 73 ?_;refine T4 18 74 19 75 20 76 21 77 ?_;refine T4 22 78 23 79 24 80 25 81 ?_;refine T4 26 82 27 83 28 84 29 85 ?_
         cases eb with
         | true=>
          refine T3 30 86 31 87 32 88 ?_;refine U4 33 89 34 90 35 91 36 92 ?_;refine U2 37 93 38 94 ?_;refine Tk 39 95 ?_;refine Td ?_;go_wp2_with fail;go_ret;exact⟨Dt.aj (by rw[HZ.o];exact (dK j u (fun h=>absurd (R.1 h.2.2.1) (by simp))).symm),c.below⟩
         | false=>
          refine T4 30 86 31 87 32 88 33 89 ?_;refine T3 34 90 35 91 36 92 ?_
          cases rb with
          | true=>
           refine Tc 37 (fun K r=>?_);go_simp;(go_at_call 68;refine (C.o _ c.below).mono ?_;rintro e V ⟨rfl,l⟩;have c:=ah (c.later l);clear l);clear hHeld;refine Th r ?_ (fun hHeld=>?_)
           ·exact⟨c.c0,c.c1,c.c2,c.c3,c.c4⟩
           clear r K;refine T2 38 94 39 95 ?_;refine Td ?_;have J:ai (lD d ks (j+1)):=NG.succ u ⟨N_.2 rfl,fun h=>absurd h h0,R.2 rfl,NA.2 rfl⟩;have L:=ah c.tail.tail.tail;go_wp2_with fail;go_roundw
           case rel=>exact⟨j+1,by omega,by go_num,J,L⟩
           case measure=>simp[intOf];omega
          | false=>
           refine Tc 37 (fun K r=>?_);go_simp;(go_at_call 68;refine (C.o _ c.below).mono ?_;rintro e V ⟨rfl,l⟩;have c:=ah (c.later l);clear l);clear hHeld;refine Th r ?_ (fun hHeld=>?_)
           ·exact⟨c.c0,c.c1,c.c2,c.c3,c.c4⟩
           clear r K;refine T2 38 94 39 95 ?_;refine Td ?_;go_wp2_with fail;go_ret;exact⟨Dt.aj (by rw[HZ.o];exact (dK j u (fun h=>absurd (NA.1 h.2.2.2) (by simp))).symm),c.below⟩
        | false=>
         refine Tc 2 (fun K r=>?_);go_simp;(go_at_call 44;refine (F _).o.mono ?_;rintro e V ⟨rfl,rfl⟩);refine Th r ?_ (fun f=>?_)
         ·exact hHeld
         clear r K hHeld;have hHeld:=f;clear f;refine T2 3 59 4 60 ?_;refine U4 5 61 6 62 7 63 8 64 ?_;refine U4 9 65 10 66 11 67 12 68 ?_;refine U4 13 69 14 70 15 71 16 72 ?_;refine U2 17 73 18 74 ?_;refine T2 19 75 20 76 ?_;refine U4 21 77 22 78 23 79 24 80 ?_;refine U4 25 81 26 82 27 83 28 84 ?_;refine U2 29 85 30 86 ?_;refine T2 31 87 32 88 ?_;refine U4 33 89 34 90 35 91 36 92 ?_;refine U2 37 93 38 94 ?_;refine Tk 39 95 ?_;refine Td ?_;go_wp2_with fail;go_ret;exact⟨Dt.aj (by rw[HZ.o];exact (dK j u (fun h=>absurd (N_.1 h.1) (by simp))).symm),c.below⟩
      ·obtain rfl:j=nk:=by omega
       go_wp2_with fail;go_ret;exact⟨Dt.aj (by rw[HZ.o];exact (xP (by rw[NH.o];exact NF.o) (by rw[NI.o];exact NG.o)).symm),q.below⟩
theorem kz (t:T) (Ae Ak:Option Addr) (ne nk ce ck:Nat) (w:World) (f:LenT reachBytes t) (g:aF w w.heap.size t ⟨Ae,ne,ce⟩ ⟨Ak,nk,ck⟩) :
  Calls Tryz.prog 27 #[.agg #[.slice Ae ne ce,.slice Ak nk ck]] w fun e w'=>e = .returned (.bool (ak 5 t))∧av w w':=by
 have a:av w (w.alloc (.cells #[.slice Ae ne ce,.slice Ak nk ck] 35)):=Dt.ay _ _ _;have h:=ah (gN 5 t Ae Ak ne nk ce ck _ (by omega) f (aF.more a.size _ (aF.below g a)));have d:=ah a;clear f g a;go_enter Tryz.func27,Tryz.ntmps27;go_wp2_with fail;refine h.mono ?_;rintro e w2 ⟨rfl,b⟩;have c:=ah (d.trans (b.mono d.size));clear b;go_wp2_with fail;go_ret;exact⟨rfl,c⟩
end Tr
end Go.Proofs.YtgeafpaognhokaaGreat
