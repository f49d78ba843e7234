/- Trees: whether two are alike; the document's. -/
import Derived.Test.YtcbpgemiffmieaaGreatG00
import Derived.Test.YtcbpgemiffmieaaGreatG01
namespace Go.Proofs.YtcbpgemiffmieaaGreat
open Go.ChangeShapes Go.WideShapes Go.ChangeAt Go.RowKit
namespace Tr
open Sp Rw
theorem mk_ne {es es2:List E} {ks ks2:List (ByteArray×T)} (h:¬es=es2∨¬ks=ks2):¬T.mk es ks=T.mk es2 ks2:=by
 intro e;injection e with e1 e2
 rcases h with h | h
 ·exact h e1
 ·exact h e2
set_option maxRecDepth 100000 in
set_option maxHeartbeats 4000000 in
theorem refsameT_any:∀ (t u:T) (Ae Ak:Option Addr) (ne nk ce ck:Nat) (Ae2 Ak2:Option Addr) (ne2 nk2 ce2 ck2:Nat) (w:World),nodes t≤1000000→RdT w w.heap.size t ⟨Ae,ne,ce⟩ ⟨Ak,nk,ck⟩→RdT w w.heap.size u ⟨Ae2,ne2,ce2⟩ ⟨Ak2,nk2,ck2⟩ →
  Calls Tryz.prog 25 #[.agg #[.slice Ae ne ce,.slice Ak nk ck],.agg #[.slice Ae2 ne2 ce2,.slice Ak2 nk2 ck2]] w fun e w'=>e = .returned (.bool (eqB t u))∧Below w.heap.size w w':=by
 intro t
 induction t using T.ind with
 | h es ks ih=>
  intro u Ae Ak ne nk ce ck Ae2 Ak2 ne2 nk2 ce2 ck2 w hn hr hs
  cases u with
  | mk es2 ks2=>
   obtain⟨hle2,hlk2⟩:=rd_lens hs;have HS:=Lib.hid hs;have HLE2:=Lib.hid hle2;have HLK2:=Lib.hid hlk2;clear hs hle2 hlk2;obtain⟨hle,hlk⟩:=rd_lens hr;have HR:=Lib.hid hr;have HLE:=Lib.hid hle;have HLK:=Lib.hid hlk;clear hle hlk hr
   have hne6:ne≤1000000:=by have:=nodes_es es ks;have:=HLE.out;omega
   have hnk6:nk≤1000000:=by have:=nodes_es es ks;have:=HLK.out;omega
   have IH:=Lib.hid ih;have HN:=Lib.hid hn;obtain⟨z,hz⟩:∃ z,eqB (T.mk es ks) (T.mk es2 ks2)=z:=⟨_,rfl⟩;rw[hz];have HZ:=Lib.hid hz;clear ih hn hz;obtain⟨g,hg⟩:∃ g,g=w.heap.size:=⟨_,rfl⟩;have HK:=Lib.hid (tree_box w Ae Ak ne nk ce ck);rw[← hg]at HK;obtain⟨W0,hW0⟩:∃ W,W=w.alloc (.cells #[.slice Ae ne ce,.slice Ak nk ck] 35):=⟨_,rfl⟩;rw[← hW0]at HK;have HG:=Lib.hid hg;have HW0:=Lib.hid hW0;have k0:=HK.out.c0;have k1:=HK.out.c1;clear hg hW0;obtain⟨q,hq⟩:∃ q,q=W0.heap.size:=⟨_,rfl⟩;obtain⟨W1,hW1⟩:∃ W,W=W0.alloc (.cells #[.slice Ae2 ne2 ce2,.slice Ak2 nk2 ck2] 35):=⟨_,rfl⟩
   have hb1:Below W0.heap.size W0 W1:=by rw[hW1];exact Dt.box_below _ _ _
   have q0:W1.cell? ⟨q,0,none⟩=some (.slice Ae2 ne2 ce2):=by rw[hW1,hq];go_simp
   have q1:W1.cell? ⟨q,1,none⟩=some (.slice Ak2 nk2 ck2):=by rw[hW1,hq];go_simp
   have HKB:=Lib.hid (((HK.out.later hb1).cons_of q1).cons_of q0)
   have HQ:Hid (q=g+1):=by unfold Hid;rw[hq,HW0.out,HG.out];simp
   have HW1:=Lib.hid hW1;clear hq hW1 hb1 q0 q1 k0 k1;obtain⟨k0,k1,k2,k3,-⟩:=HKB.out.cj
   by_cases hA:ne=ne2
   ·subst hA
    have fA:((ne:Int) != (ne:Int))=false:=by simp
    by_cases hB:nk=nk2
    ·subst hB
     have fB:((nk:Int) != (nk:Int))=false:=by simp
     go_enter Tryz.func25,Tryz.ntmps25;go_wp2_with fail;rw[← HG.out,← HW0.out,← HQ.out,← HW1.out];go_wp2_with fail
     go_loopw [26] (fun i wr=>∃ k:Nat,k≤ne∧i = .int .i64 k∧Hid (SameTo es es2 k)∧Hid (Kept [(⟨q,0,none⟩,.slice Ae2 ne ce2),(⟨q,1,none⟩,.slice Ak2 nk ck2),(⟨g,0,none⟩,.slice Ae ne ce),(⟨g,1,none⟩,.slice Ak nk ck)] w wr)) (fun i _=>ne-(intOf i).toNat)
     case atStart=>exact⟨0,by omega,rfl,SameTo.zero _ _,HKB.out⟩
     case round=>
      obtain⟨k,hk,rfl,HT,HKW⟩:=hrel;clear k0 k1 k2 k3;obtain⟨k0,k1,k2,k3,-⟩:=HKW.out.cj
      by_cases hlt:k<ne
      ·obtain⟨b1,o1,rfl,hb1,hc1⟩:=rd_ent HR.out (by omega)
       have hk1:k<es.length:=by rw[HLE.out];exact hlt
       obtain⟨xa,xn,xs,xv,hxe⟩:∃ a n s v,es[k]=⟨a,n,s,v⟩:=⟨_,_,_,_,rfl⟩;obtain⟨x0,x1,x2,x3⟩:=hc1 k hk1;have x0:=(HKW.out.below.cell (p:=⟨b1,o1+k*4,none⟩) hb1).trans x0;have x1:=(HKW.out.below.cell (p:=⟨b1,o1+k*4+1,none⟩) hb1).trans x1;have x2:=(HKW.out.below.cell (p:=⟨b1,o1+k*4+2,none⟩) hb1).trans x2;have x3:=(HKW.out.below.cell (p:=⟨b1,o1+k*4+3,none⟩) hb1).trans x3;rw[hxe]at x0 x1 x2 x3;dsimp only at x0 x1 x2 x3;obtain⟨b2,o2,rfl,hb2,hc2⟩:=rd_ent HS.out (by omega)
       have hk2:k<es2.length:=by rw[HLE2.out];exact hlt
       obtain⟨ya,yn,ys,yv,hye⟩:∃ a n s v,es2[k]=⟨a,n,s,v⟩:=⟨_,_,_,_,rfl⟩;obtain⟨y0,y1,y2,y3⟩:=hc2 k hk2;have y0:=(HKW.out.below.cell (p:=⟨b2,o2+k*4,none⟩) hb2).trans y0;have y1:=(HKW.out.below.cell (p:=⟨b2,o2+k*4+1,none⟩) hb2).trans y1;have y2:=(HKW.out.below.cell (p:=⟨b2,o2+k*4+2,none⟩) hb2).trans y2;have y3:=(HKW.out.below.cell (p:=⟨b2,o2+k*4+3,none⟩) hb2).trans y3;rw[hye]at y0 y1 y2 y3;dsimp only at y0 y1 y2 y3;have HX:=Lib.hid hxe;have HY:=Lib.hid hye;clear hc1 hc2 hxe hye
       by_cases q0:xa=ya
       ·subst q0
        by_cases q1:xn=yn
        ·subst q1
         by_cases q2:xs=ys
         ·subst q2
          by_cases q3:xv=yv
          ·subst q3
           have HEQ:Hid (es[k]=es2[k]):=by unfold Hid;rw[HX.out,HY.out]
           go_wp2_with fail;refine wp_region_held_drew (S:=fun W=>W.cell? ⟨b1,o1+k*4,none⟩=some (.int .i64 xa)∧W.cell? ⟨b1,o1+k*4+1,none⟩=some (.int .i64 xn)∧W.cell? ⟨b1,o1+k*4+2,none⟩=some (.string xs)∧W.cell? ⟨b1,o1+k*4+3,none⟩=some (.int .i64 xv)∧W.cell? ⟨b2,o2+k*4,none⟩=some (.int .i64 xa)∧W.cell? ⟨b2,o2+k*4+1,none⟩=some (.int .i64 xn)∧W.cell? ⟨b2,o2+k*4+2,none⟩=some (.string xs)∧W.cell? ⟨b2,o2+k*4+3,none⟩=some (.int .i64 xv)∧W.cell? ⟨q,0,none⟩=some (.slice (some ⟨b2,o2,none⟩) ne ce2)∧W.cell? ⟨g,0,none⟩=some (.slice (some ⟨b1,o1,none⟩) ne ce)) (by kernel_rfl) (by go_keep) (fun hHeld=>?_);refine Tk 0 29 ?_;refine Tk 1 30 ?_;refine Tk 2 31 ?_;refine Tk 3 32 ?_;refine Tk 4 33 ?_;refine Tk 5 34 ?_;refine Tk 6 35 ?_;refine Tk 7 36 ?_;refine Tk 8 37 ?_;refine Tk 9 38 ?_
           refine Tk 10 39 ?_;refine wpAnyH_done (by kernel_rfl) ?_ _;have HT2:Hid (SameTo es es2 (k+1)):=HT.out.succ fun _ _=>HEQ.out;have HK2:=Lib.hid HKW.out.drew;go_wp2_with fail;go_roundw
           case rel=>exact⟨k+1,by omega,by go_num,HT2.out,HK2.out⟩
           case measure=>simp[intOf];omega
          ·have v0:(xv==yv)=false:=beq_eq_false_iff_ne.2 q3
           have HNE:Hid (¬es[k]=es2[k]):=by unfold Hid;rw[HX.out,HY.out];intro e;injection e with _ _ _ e;exact q3 e
           clear q3;go_wp2_with fail;refine wp_region_held_drew (S:=fun W=>W.cell? ⟨b1,o1+k*4,none⟩=some (.int .i64 xa)∧W.cell? ⟨b1,o1+k*4+1,none⟩=some (.int .i64 xn)∧W.cell? ⟨b1,o1+k*4+2,none⟩=some (.string xs)∧W.cell? ⟨b1,o1+k*4+3,none⟩=some (.int .i64 xv)∧W.cell? ⟨b2,o2+k*4,none⟩=some (.int .i64 xa)∧W.cell? ⟨b2,o2+k*4+1,none⟩=some (.int .i64 xn)∧W.cell? ⟨b2,o2+k*4+2,none⟩=some (.string xs)∧W.cell? ⟨b2,o2+k*4+3,none⟩=some (.int .i64 yv)∧W.cell? ⟨q,0,none⟩=some (.slice (some ⟨b2,o2,none⟩) ne ce2)∧W.cell? ⟨g,0,none⟩=some (.slice (some ⟨b1,o1,none⟩) ne ce)) (by kernel_rfl) (by go_keep) (fun hHeld=>?_);refine Tk 0 29 ?_;refine Tk 1 30 ?_;refine Tk 2 31 ?_;refine Tk 3 32 ?_;refine Tk 4 33 ?_;refine Tk 5 34 ?_;refine Tk 6 35 ?_;refine Tk 7 36 ?_;refine Tk 8 37 ?_;refine Tk 9 38 ?_
           refine Tk 10 39 ?_;refine wpAnyH_done (by kernel_rfl) ?_ _;go_wp2_with fail;go_ret;exact⟨Dt.ret_bool (by rw[← HZ.out];exact (eqB_no (mk_ne (.inl (not_same hk1 hk2 HNE.out)))).symm),HKW.out.drew.below⟩
         ·have v0:(xs.toList==ys.toList)=false:=bytes_ne q2
          have HNE:Hid (¬es[k]=es2[k]):=by unfold Hid;rw[HX.out,HY.out];intro e;injection e with _ _ e _;exact q2 e
          clear q2;go_wp2_with fail;refine wp_region_held_drew (S:=fun W=>W.cell? ⟨b1,o1+k*4,none⟩=some (.int .i64 xa)∧W.cell? ⟨b1,o1+k*4+1,none⟩=some (.int .i64 xn)∧W.cell? ⟨b1,o1+k*4+2,none⟩=some (.string xs)∧W.cell? ⟨b1,o1+k*4+3,none⟩=some (.int .i64 xv)∧W.cell? ⟨b2,o2+k*4,none⟩=some (.int .i64 xa)∧W.cell? ⟨b2,o2+k*4+1,none⟩=some (.int .i64 xn)∧W.cell? ⟨b2,o2+k*4+2,none⟩=some (.string ys)∧W.cell? ⟨b2,o2+k*4+3,none⟩=some (.int .i64 yv)∧W.cell? ⟨q,0,none⟩=some (.slice (some ⟨b2,o2,none⟩) ne ce2)∧W.cell? ⟨g,0,none⟩=some (.slice (some ⟨b1,o1,none⟩) ne ce)) (by kernel_rfl) (by go_keep) (fun hHeld=>?_);refine Tk 0 29 ?_;refine Tk 1 30 ?_;refine Tk 2 31 ?_;refine Tk 3 32 ?_;refine Tk 4 33 ?_;refine Tk 5 34 ?_;refine Tk 6 35 ?_;refine Tk 7 36 ?_;refine Tk 8 37 ?_;refine Tk 9 38 ?_
          refine Tk 10 39 ?_;refine wpAnyH_done (by kernel_rfl) ?_ _;go_wp2_with fail;go_ret;exact⟨Dt.ret_bool (by rw[← HZ.out];exact (eqB_no (mk_ne (.inl (not_same hk1 hk2 HNE.out)))).symm),HKW.out.drew.below⟩
        ·have v0:(xn==yn)=false:=beq_eq_false_iff_ne.2 q1
         have HNE:Hid (¬es[k]=es2[k]):=by unfold Hid;rw[HX.out,HY.out];intro e;injection e with _ e _ _;exact q1 e
         clear q1;go_wp2_with fail;refine wp_region_held_drew (S:=fun W=>W.cell? ⟨b1,o1+k*4,none⟩=some (.int .i64 xa)∧W.cell? ⟨b1,o1+k*4+1,none⟩=some (.int .i64 xn)∧W.cell? ⟨b1,o1+k*4+2,none⟩=some (.string xs)∧W.cell? ⟨b1,o1+k*4+3,none⟩=some (.int .i64 xv)∧W.cell? ⟨b2,o2+k*4,none⟩=some (.int .i64 xa)∧W.cell? ⟨b2,o2+k*4+1,none⟩=some (.int .i64 yn)∧W.cell? ⟨b2,o2+k*4+2,none⟩=some (.string ys)∧W.cell? ⟨b2,o2+k*4+3,none⟩=some (.int .i64 yv)∧W.cell? ⟨q,0,none⟩=some (.slice (some ⟨b2,o2,none⟩) ne ce2)∧W.cell? ⟨g,0,none⟩=some (.slice (some ⟨b1,o1,none⟩) ne ce)) (by kernel_rfl) (by go_keep) (fun hHeld=>?_);refine Tk 0 29 ?_;refine Tk 1 30 ?_;refine Tk 2 31 ?_;refine Tk 3 32 ?_;refine Tk 4 33 ?_;refine Tk 5 34 ?_;refine Tk 6 35 ?_;refine Tk 7 36 ?_;refine Tk 8 37 ?_;refine Tk 9 38 ?_
         refine Tk 10 39 ?_;refine wpAnyH_done (by kernel_rfl) ?_ _;go_wp2_with fail;go_ret;exact⟨Dt.ret_bool (by rw[← HZ.out];exact (eqB_no (mk_ne (.inl (not_same hk1 hk2 HNE.out)))).symm),HKW.out.drew.below⟩
       ·have v0:(xa==ya)=false:=beq_eq_false_iff_ne.2 q0
        have HNE:Hid (¬es[k]=es2[k]):=by unfold Hid;rw[HX.out,HY.out];intro e;injection e with e _ _ _;exact q0 e
        clear q0;go_wp2_with fail;refine wp_region_held_drew (S:=fun W=>W.cell? ⟨b1,o1+k*4,none⟩=some (.int .i64 xa)∧W.cell? ⟨b1,o1+k*4+1,none⟩=some (.int .i64 xn)∧W.cell? ⟨b1,o1+k*4+2,none⟩=some (.string xs)∧W.cell? ⟨b1,o1+k*4+3,none⟩=some (.int .i64 xv)∧W.cell? ⟨b2,o2+k*4,none⟩=some (.int .i64 ya)∧W.cell? ⟨b2,o2+k*4+1,none⟩=some (.int .i64 yn)∧W.cell? ⟨b2,o2+k*4+2,none⟩=some (.string ys)∧W.cell? ⟨b2,o2+k*4+3,none⟩=some (.int .i64 yv)∧W.cell? ⟨q,0,none⟩=some (.slice (some ⟨b2,o2,none⟩) ne ce2)∧W.cell? ⟨g,0,none⟩=some (.slice (some ⟨b1,o1,none⟩) ne ce)) (by kernel_rfl) (by go_keep) (fun hHeld=>?_);refine Tk 0 29 ?_;refine Tk 1 30 ?_;refine Tk 2 31 ?_;refine Tk 3 32 ?_;refine Tk 4 33 ?_;refine Tk 5 34 ?_;refine Tk 6 35 ?_;refine Tk 7 36 ?_;refine Tk 8 37 ?_;refine Tk 9 38 ?_
        refine Tk 10 39 ?_;refine wpAnyH_done (by kernel_rfl) ?_ _;go_wp2_with fail;go_ret;exact⟨Dt.ret_bool (by rw[← HZ.out];exact (eqB_no (mk_ne (.inl (not_same hk1 hk2 HNE.out)))).symm),HKW.out.drew.below⟩
      ·obtain rfl:k=ne:=by omega
       have hES:=HT.out.all HLE.out HLE2.out;subst hES;have HKB2:=HKW;go_wp2_with fail
       go_loopw [44] (fun i wr=>∃ j:Nat,j≤nk∧i = .int .i64 j∧Hid (SameTo ks ks2 j)∧Hid (Kept [(⟨q,0,none⟩,.slice Ae2 k ce2),(⟨q,1,none⟩,.slice Ak2 nk ck2),(⟨g,0,none⟩,.slice Ae k ce),(⟨g,1,none⟩,.slice Ak nk ck)] w wr)) (fun i _=>nk-(intOf i).toNat)
       case atStart=>exact⟨0,by omega,rfl,SameTo.zero _ _,HKB2.out⟩
       case round=>
        obtain⟨j,hj,rfl,HTK,HKW⟩:=hrel;clear k0 k1 k2 k3;obtain⟨k0,k1,k2,k3,-⟩:=HKW.out.cj
        by_cases hlt2:j<nk
        ·obtain⟨b1,o1,rfl,hb1,hc1⟩:=rd_kid HR.out (by omega)
         have hk1:j<ks.length:=by rw[HLK.out];exact hlt2
         obtain⟨⟨Ae3,ne3,ce3⟩,⟨Ak3,nk3,ck3⟩,c0,c1,c2,hkid⟩:=hc1 j hk1;dsimp only at c0 c1 c2;have c0:=(HKW.out.below.cell (p:=⟨b1,o1+j*3,none⟩) hb1).trans c0;have c1:=(HKW.out.below.cell (p:=⟨b1,o1+j*3+1,none⟩) hb1).trans c1;have c2:=(HKW.out.below.cell (p:=⟨b1,o1+j*3+2,none⟩) hb1).trans c2;obtain⟨x,hx⟩:∃ x,x=(ks[j]).1:=⟨_,rfl⟩;rw[← hx]at c0;obtain⟨b2,o2,rfl,hb2,hc2⟩:=rd_kid HS.out (by omega)
         have hk2:j<ks2.length:=by rw[HLK2.out];exact hlt2
         obtain⟨⟨Ae4,ne4,ce4⟩,⟨Ak4,nk4,ck4⟩,d0,d1,d2,hkid2⟩:=hc2 j hk2;dsimp only at d0 d1 d2;have d0:=(HKW.out.below.cell (p:=⟨b2,o2+j*3,none⟩) hb2).trans d0;have d1:=(HKW.out.below.cell (p:=⟨b2,o2+j*3+1,none⟩) hb2).trans d1;have d2:=(HKW.out.below.cell (p:=⟨b2,o2+j*3+2,none⟩) hb2).trans d2;obtain⟨y,hy⟩:∃ y,y=(ks2[j]).1:=⟨_,rfl⟩;rw[← hy]at d0;obtain⟨rb,hrb⟩:∃ z,eqB (ks[j]).2 (ks2[j]).2=z:=⟨_,rfl⟩
         have HREC:Hid (∀ W,Below w.heap.size w W→Calls Tryz.prog 25 #[.agg #[.slice Ae3 ne3 ce3,.slice Ak3 nk3 ck3],.agg #[.slice Ae4 ne4 ce4,.slice Ak4 nk4 ck4]] W fun e w'=>e = .returned (.bool rb)∧Below W.heap.size W w'):=fun W hW=>by
          rw[← hrb];exact IH.out _ (List.getElem_mem hk1) _ Ae3 Ak3 ne3 nk3 ce3 ck3 Ae4 Ak4 ne4 nk4 ce4 ck4 W (Nat.le_trans (nodes_kid (List.getElem_mem hk1)) HN.out) (RdT.more hW.size _ (RdT.below hkid hW)) (RdT.more hW.size _ (RdT.below hkid2 hW))
         have HKEQ:Hid (ks[j]=ks2[j]↔(x=y∧rb=true)):=by
          unfold Hid;rw[← hrb,eqB_iff,hx,hy];exact Prod.ext_iff
         clear hc1 hc2 hkid hkid2 hx hy hrb;have HKc:=Lib.hid ((((((HKW.out.cons_of d2).cons_of d1).cons_of d0).cons_of c2).cons_of c1).cons_of c0).drew
         by_cases hxy:x=y
         ·subst hxy
          go_wp2_with fail;refine wp_region_held_drew (S:=fun W=>W.cell? ⟨b1,o1+j*3,none⟩=some (.string x)∧W.cell? ⟨b1,o1+j*3+1,none⟩=some (.slice Ae3 ne3 ce3)∧W.cell? ⟨b1,o1+j*3+2,none⟩=some (.slice Ak3 nk3 ck3)∧W.cell? ⟨b2,o2+j*3,none⟩=some (.string x)∧W.cell? ⟨b2,o2+j*3+1,none⟩=some (.slice Ae4 ne4 ce4)∧W.cell? ⟨b2,o2+j*3+2,none⟩=some (.slice Ak4 nk4 ck4)∧W.cell? ⟨q,1,none⟩=some (.slice (some ⟨b2,o2,none⟩) nk ck2)∧W.cell? ⟨g,1,none⟩=some (.slice (some ⟨b1,o1,none⟩) nk ck)) (by kernel_rfl) (by go_keep) (fun hHeld=>?_);refine Tk 0 47 ?_;refine Tk 1 48 ?_;refine Tk 2 49 ?_;refine Tk 3 50 ?_;refine Tk 4 51 ?_;refine Tk 5 52 ?_;refine Tk 6 53 ?_;refine Tk 7 54 ?_;refine Tk 8 55 ?_;refine Tk 9 56 ?_;refine Tk 10 57 ?_;refine Tk 11 58 ?_;refine Tk 12 59 ?_;refine Tk 13 60 ?_;refine Tk 14 61 ?_
          refine Tk 15 62 ?_;refine Tk 16 63 ?_;refine Tk 17 64 ?_;refine Tk 18 65 ?_;refine Tk 19 66 ?_;refine Tk 20 67 ?_;refine Tk 21 68 ?_;refine Tk 22 69 ?_;refine Tk 23 70 ?_;refine Tk 24 71 ?_;refine Tk 25 72 ?_
          cases rb with
          | true=>
           refine Tc 26 (fun K hK=>?_);go_simp;(go_at_call 25;refine (HREC.out _ HKc.out.below).mono ?_;rintro e w2 ⟨rfl,hb2⟩;have HKc:=Lib.hid (HKc.out.later hb2);clear hb2);clear hHeld;refine Th hK ?_ (fun hHeld=>?_)
           ·exact⟨HKc.out.c0,HKc.out.c1,HKc.out.c2,HKc.out.c3,HKc.out.c4,HKc.out.c5,HKc.out.c7,HKc.out.t8.tail.head⟩
           clear hK K;refine Tk 27 74 ?_;refine Tk 28 75 ?_;refine wpAnyH_done (by kernel_rfl) ?_ _;have HT2:Hid (SameTo ks ks2 (j+1)):=HTK.out.succ fun _ _=>HKEQ.out.2 (by simp);have HK2:=Lib.hid HKc.out.tail.tail.tail.tail.tail.tail;go_wp2_with fail;go_roundw
           case rel=>exact⟨j+1,by omega,by go_num,HT2.out,HK2.out⟩
           case measure=>simp[intOf];omega
          | false=>
           refine Tc 26 (fun K hK=>?_);go_simp;(go_at_call 25;refine (HREC.out _ HKc.out.below).mono ?_;rintro e w2 ⟨rfl,hb2⟩;have HKc:=Lib.hid (HKc.out.later hb2);clear hb2);clear hHeld;refine Th hK ?_ (fun hHeld=>?_)
           ·exact⟨HKc.out.c0,HKc.out.c1,HKc.out.c2,HKc.out.c3,HKc.out.c4,HKc.out.c5,HKc.out.c7,HKc.out.t8.tail.head⟩
           clear hK K;refine Tk 27 74 ?_;refine Tk 28 75 ?_;refine wpAnyH_done (by kernel_rfl) ?_ _;go_wp2_with fail;go_ret;exact⟨Dt.ret_bool (by rw[← HZ.out];exact (eqB_no (mk_ne (.inr (not_same hk1 hk2 (fun e=>by have:=(HKEQ.out.1 e).2;simp at this))))).symm),HKc.out.below⟩
         ·have v0:(x.toList==y.toList)=false:=bytes_ne hxy
          go_wp2_with fail;refine wp_region_held_drew (S:=fun W=>W.cell? ⟨b1,o1+j*3,none⟩=some (.string x)∧W.cell? ⟨b1,o1+j*3+1,none⟩=some (.slice Ae3 ne3 ce3)∧W.cell? ⟨b1,o1+j*3+2,none⟩=some (.slice Ak3 nk3 ck3)∧W.cell? ⟨b2,o2+j*3,none⟩=some (.string y)∧W.cell? ⟨b2,o2+j*3+1,none⟩=some (.slice Ae4 ne4 ce4)∧W.cell? ⟨b2,o2+j*3+2,none⟩=some (.slice Ak4 nk4 ck4)∧W.cell? ⟨q,1,none⟩=some (.slice (some ⟨b2,o2,none⟩) nk ck2)∧W.cell? ⟨g,1,none⟩=some (.slice (some ⟨b1,o1,none⟩) nk ck)) (by kernel_rfl) (by go_keep) (fun hHeld=>?_);refine Tk 0 47 ?_;refine Tk 1 48 ?_;refine Tk 2 49 ?_;refine Tk 3 50 ?_;refine Tk 4 51 ?_;refine Tk 5 52 ?_;refine Tk 6 53 ?_;refine Tk 7 54 ?_;refine Tk 8 55 ?_;refine Tk 9 56 ?_;refine Tk 10 57 ?_;refine Tk 11 58 ?_;refine Tk 12 59 ?_;refine Tk 13 60 ?_;refine Tn 14 61 ?_
          refine Tn 15 62 ?_;refine Tn 16 63 ?_;refine Tn 17 64 ?_;refine Tn 18 65 ?_;refine Tn 19 66 ?_;refine Tn 20 67 ?_;refine Tn 21 68 ?_;refine Tn 22 69 ?_;refine Tn 23 70 ?_;refine Tn 24 71 ?_;refine Tn 25 72 ?_;refine Tn 26 73 ?_;refine Tn 27 74 ?_;refine Tk 28 75 ?_;refine wpAnyH_done (by kernel_rfl) ?_ _;go_wp2_with fail;go_ret;exact⟨Dt.ret_bool (by rw[← HZ.out];exact (eqB_no (mk_ne (.inr (not_same hk1 hk2 (fun e=>hxy (HKEQ.out.1 e).1))))).symm),HKc.out.below⟩
        ·obtain rfl:j=nk:=by omega
         go_wp2_with fail;go_ret;exact⟨Dt.ret_bool (by rw[← HZ.out,HTK.out.all HLK.out HLK2.out];exact (eqB_yes rfl).symm),HKW.out.below⟩
    ·have fB:((nk:Int) != (nk2:Int))=true:=by simp;omega
     go_enter Tryz.func25,Tryz.ntmps25;go_wp2_with fail;rw[← HG.out,← HW0.out,← HQ.out,← HW1.out];go_wp2_with fail;go_ret;exact⟨Dt.ret_bool (by rw[← HZ.out];exact (eqB_no (mk_ne (.inr fun e=>hB (by rw[← HLK.out,← HLK2.out,e])))).symm),by first | exact HKB.out.below | (have hbx:=HKB.out.below;rw[← HG.out]at hbx;exact hbx)⟩
   ·have fA:((ne:Int) != (ne2:Int))=true:=by simp;omega
    go_enter Tryz.func25,Tryz.ntmps25;go_wp2_with fail;rw[← HG.out,← HW0.out,← HQ.out,← HW1.out];go_wp2_with fail;go_ret;exact⟨Dt.ret_bool (by rw[← HZ.out];exact (eqB_no (mk_ne (.inl fun e=>hA (by rw[← HLE.out,← HLE2.out,e])))).symm),by first | exact HKB.out.below | (have hbx:=HKB.out.below;rw[← HG.out]at hbx;exact hbx)⟩
end Tr
end Go.Proofs.YtcbpgemiffmieaaGreat
