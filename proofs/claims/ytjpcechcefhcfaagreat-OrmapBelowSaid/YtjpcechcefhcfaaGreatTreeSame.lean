/- Trees: whether two are alike, how many entries there are; the program's. -/
import Derived.Test.YtjpcechcefhcfaaGreatTreeRefSame
import Derived.Test.YtjpcechcefhcfaaGreatTreeRight
set_option maxRecDepth 100000
set_option maxHeartbeats 4000000
namespace Go.Proofs.YtjpcechcefhcfaaGreat
open Go.ChangeShapes Go.WideShapes Go.ChangeAt Go.RowKit
namespace Tr
open Sp Rw
theorem sameclo_any (x y:ByteArray) (Ae Ak:Option Addr) (ne nk ce ck:Nat) (Ae2 Ak2:Option Addr) (ne2 nk2 ce2 ck2:Nat) (rb:Bool) (w:World) (hrec:∀ W,Below w.heap.size w W→Calls Tryz.prog 56 #[.agg #[.slice Ae ne ce,.slice Ak nk ck],.agg #[.slice Ae2 ne2 ce2,.slice Ak2 nk2 ck2]] W fun e w'=>e = .returned (.bool rb)∧Below W.heap.size W w') (z:Bool) (hz:(eqB x y&&rb)=z) :
  Calls Tryz.prog 88 #[.agg #[.string x,.slice Ae ne ce,.slice Ak nk ck],.agg #[.string y,.slice Ae2 ne2 ce2,.slice Ak2 nk2 ck2]] w fun e w'=>e = .returned (.bool z)∧Below w.heap.size w w':=by
 have HREC:=Lib.hid hrec;have HZ:=Lib.hid hz;have hb:Below w.heap.size w ((w.alloc (.cells #[.string x,.slice Ae ne ce,.slice Ak nk ck] 73)).alloc (.cells #[.string y,.slice Ae2 ne2 ce2,.slice Ak2 nk2 ck2] 73)):=Dt.box2_below _ _ _ _ _;have HB:=Lib.hid hb;clear hrec hz hb
 by_cases hxy:x=y
 ·subst hxy
  go_enter Tryz.func88,Tryz.ntmps88;go_wp2_with (go_at_call 56;refine (HREC.out _ HB.out).mono ?_;rintro e w2 ⟨rfl,hb2⟩;have HB2:=Lib.hid (HB.out.trans (hb2.mono HB.out.size));clear hb2);go_ret;exact⟨Dt.ret_bool (by rw[← HZ.out,eqB_yes rfl,Bool.true_and]),HB2.out⟩
 ·have v0:(x.toList==y.toList)=false:=bytes_ne hxy
  go_enter Tryz.func88,Tryz.ntmps88;go_wp2_with fail;go_ret;exact⟨Dt.ret_bool (by rw[← HZ.out,eqB_no hxy,Bool.false_and]),HB.out⟩
theorem equalK_of (es es2:List E) (ks ks2:List (ByteArray×T)) (ih:∀ k∈ks,∀ (u:T) (Ae Ak:Option Addr) (ne nk ce ck:Nat) (Ae2 Ak2:Option Addr) (ne2 nk2 ce2 ck2:Nat) (w:World),nodes k.2≤1000000→RdT w w.heap.size k.2 ⟨Ae,ne,ce⟩ ⟨Ak,nk,ck⟩→RdT w w.heap.size u ⟨Ae2,ne2,ce2⟩ ⟨Ak2,nk2,ck2⟩→Calls Tryz.prog 56 #[.agg #[.slice Ae ne ce,.slice Ak nk ck],.agg #[.slice Ae2 ne2 ce2,.slice Ak2 nk2 ck2]] w fun e w'=>e = .returned (.bool (eqB k.2 u))∧Below w.heap.size w w') (Ae Ak:Option Addr) (ne nk ce ck:Nat) (Ae2 Ak2:Option Addr) (ne2 nk2 ce2 ck2:Nat) (w:World) (hn6:nk≤1000000) (hn:nodes (.mk es ks)≤1000000) (hr:RdT w w.heap.size (.mk es ks) ⟨Ae,ne,ce⟩ ⟨Ak,nk,ck⟩) (hs:RdT w w.heap.size (.mk es2 ks2) ⟨Ae2,ne2,ce2⟩ ⟨Ak2,nk2,ck2⟩) :
  Calls Tryz.prog 87 #[.slice Ak nk ck,.slice Ak2 nk2 ck2,.func (.func 88) #[] #[]] w fun e w'=>e = .returned (.bool (eqB ks ks2))∧Below w.heap.size w w':=by
 obtain⟨hle2,hlk2⟩:=rd_lens hs;have HS:=Lib.hid hs;have HLK2:=Lib.hid hlk2;clear hs hle2 hlk2;obtain⟨hle,hlk⟩:=rd_lens hr;have HR:=Lib.hid hr;have HLE:=Lib.hid hle;have HLK:=Lib.hid hlk;clear hle hlk hr;have IH:=Lib.hid ih;have HN:=Lib.hid hn;obtain⟨z,hz⟩:∃ z,eqB ks ks2=z:=⟨_,rfl⟩;rw[hz];have HZ:=Lib.hid hz;clear ih hn hz
 by_cases hB:nk=nk2
 ·subst hB
  have fB:((nk:Int) != (nk:Int))=false:=by simp
  go_enter Tryz.func87,Tryz.ntmps87;go_wp2_with fail
  go_loopw [17] (fun i wr=>∃ j:Nat,j≤nk∧i = .int .i64 j∧Hid (SameTo ks ks2 j)∧Hid (Below w.heap.size w wr)) (fun i _=>nk-(intOf i).toNat)
  case atStart=>exact⟨0,by omega,rfl,SameTo.zero _ _,Below.refl _ _⟩
  case round=>
   obtain⟨j,hj,rfl,HTK,HB⟩:=hrel
   by_cases hlt2:j<nk
   ·obtain⟨b1,o1,rfl,hb1,hc1⟩:=rd_kid HR.out (by omega)
    have hk1:j<ks.length:=by rw[HLK.out];exact hlt2
    obtain⟨⟨Ae3,ne3,ce3⟩,⟨Ak3,nk3,ck3⟩,c0,c1,c2,hkid⟩:=hc1 j hk1;dsimp only at c0 c1 c2;have c0:=(HB.out.cell (p:=⟨b1,o1+j*3,none⟩) hb1).trans c0;have c1:=(HB.out.cell (p:=⟨b1,o1+j*3+1,none⟩) hb1).trans c1;have c2:=(HB.out.cell (p:=⟨b1,o1+j*3+2,none⟩) hb1).trans c2;obtain⟨x,hx⟩:∃ x,x=(ks[j]).1:=⟨_,rfl⟩;rw[← hx]at c0;obtain⟨b2,o2,rfl,hb2,hc2⟩:=rd_kid HS.out (by omega)
    have hk2:j<ks2.length:=by rw[HLK2.out];exact hlt2
    obtain⟨⟨Ae4,ne4,ce4⟩,⟨Ak4,nk4,ck4⟩,d0,d1,d2,hkid2⟩:=hc2 j hk2;dsimp only at d0 d1 d2;have d0:=(HB.out.cell (p:=⟨b2,o2+j*3,none⟩) hb2).trans d0;have d1:=(HB.out.cell (p:=⟨b2,o2+j*3+1,none⟩) hb2).trans d1;have d2:=(HB.out.cell (p:=⟨b2,o2+j*3+2,none⟩) hb2).trans d2;obtain⟨y,hy⟩:∃ y,y=(ks2[j]).1:=⟨_,rfl⟩;rw[← hy]at d0;have hb2w:b2<wr.heap.size:=World.block_lt_of_cell? wr _ d0;have d1':(wr.alloc (.cells #[.string x,.slice Ae3 ne3 ce3,.slice Ak3 nk3 ck3] 73)).cell? ⟨b2,o2+j*3+1,none⟩=some (.slice Ae4 ne4 ce4):=(World.cell?_alloc_lt wr _ ⟨b2,o2+j*3+1,none⟩ hb2w).trans d1;have d2':(wr.alloc (.cells #[.string x,.slice Ae3 ne3 ce3,.slice Ak3 nk3 ck3] 73)).cell? ⟨b2,o2+j*3+2,none⟩=some (.slice Ak4 nk4 ck4):=(World.cell?_alloc_lt wr _ ⟨b2,o2+j*3+2,none⟩ hb2w).trans d2
    obtain⟨v,hv⟩:∃ v,(eqB x y&&eqB (ks[j]).2 (ks2[j]).2)=v:=⟨_,rfl⟩
    have HCLO:Hid (∀ W,Below w.heap.size w W→Calls Tryz.prog 88 #[.agg #[.string x,.slice Ae3 ne3 ce3,.slice Ak3 nk3 ck3],.agg #[.string y,.slice Ae4 ne4 ce4,.slice Ak4 nk4 ck4]] W fun e w'=>e = .returned (.bool v)∧Below W.heap.size W w'):=fun W hW=>by
     refine sameclo_any x y Ae3 Ak3 ne3 nk3 ce3 ck3 Ae4 Ak4 ne4 nk4 ce4 ck4 (eqB (ks[j]).2 (ks2[j]).2) W (fun W2 hW2=>?_) v hv;have hW3:=hW.trans (hW2.mono hW.size);exact IH.out _ (List.getElem_mem hk1) _ Ae3 Ak3 ne3 nk3 ce3 ck3 Ae4 Ak4 ne4 nk4 ce4 ck4 W2 (Nat.le_trans (nodes_kid (List.getElem_mem hk1)) HN.out) (RdT.more hW3.size _ (RdT.below hkid hW3)) (RdT.more hW3.size _ (RdT.below hkid2 hW3))
    have HKEQ:Hid (ks[j]=ks2[j]↔v=true):=by
     unfold Hid;rw[← hv,Bool.and_eq_true,eqB_iff,eqB_iff,hx,hy];exact Prod.ext_iff
    have hbb:Below w.heap.size w ((wr.alloc (.cells #[.string x,.slice Ae3 ne3 ce3,.slice Ak3 nk3 ck3] 73)).alloc (.cells #[.string y,.slice Ae4 ne4 ce4,.slice Ak4 nk4 ck4] 73)):=HB.out.trans ((Dt.box2_below wr _ _ _ _).mono HB.out.size);have HBB:=Lib.hid hbb;clear hc1 hc2 hkid hkid2 hx hy hv hbb
    cases v with
    | true=>
     have HT2:Hid (SameTo ks ks2 (j+1)):=HTK.out.succ fun _ _=>HKEQ.out.2 (by simp);go_wp2_with (go_at_call 88;refine (HCLO.out _ HBB.out).mono ?_;rintro e w2 ⟨rfl,hb2⟩;have HB2:=Lib.hid (HBB.out.trans (hb2.mono HBB.out.size));clear hb2);go_roundw
     case rel=>exact⟨j+1,by omega,by go_num,HT2.out,HB2.out⟩
     case measure=>simp[intOf];omega
    | false=>
     go_wp2_with (go_at_call 88;refine (HCLO.out _ HBB.out).mono ?_;rintro e w2 ⟨rfl,hb2⟩;have HB2:=Lib.hid (HBB.out.trans (hb2.mono HBB.out.size));clear hb2);go_ret;exact⟨Dt.ret_bool (by rw[← HZ.out];exact (eqB_no (not_same hk1 hk2 (fun e=>by have:=HKEQ.out.1 e;simp at this))).symm),HB2.out⟩
   ·obtain rfl:j=nk:=by omega
    go_wp2_with fail;go_ret;exact⟨Dt.ret_bool (by rw[← HZ.out];exact (eqB_yes (HTK.out.all HLK.out HLK2.out)).symm),HB.out⟩
 ·have fB:((nk:Int) != (nk2:Int))=true:=by simp;omega
  go_enter Tryz.func87,Tryz.ntmps87;go_wp2_with fail;go_ret;exact⟨Dt.ret_bool (by rw[← HZ.out];exact (eqB_no (fun e=>hB (by rw[← HLK.out,← HLK2.out,e]))).symm),Below.refl _ _⟩
theorem same_any:∀ (t u:T) (Ae Ak:Option Addr) (ne nk ce ck:Nat) (Ae2 Ak2:Option Addr) (ne2 nk2 ce2 ck2:Nat) (w:World),nodes t≤1000000→RdT w w.heap.size t ⟨Ae,ne,ce⟩ ⟨Ak,nk,ck⟩→RdT w w.heap.size u ⟨Ae2,ne2,ce2⟩ ⟨Ak2,nk2,ck2⟩ →
  Calls Tryz.prog 56 #[.agg #[.slice Ae ne ce,.slice Ak nk ck],.agg #[.slice Ae2 ne2 ce2,.slice Ak2 nk2 ck2]] w fun e w'=>e = .returned (.bool (eqB t u))∧Below w.heap.size w w':=by
 intro t
 induction t using T.ind with
 | h es ks ih=>
  intro u Ae Ak ne nk ce ck Ae2 Ak2 ne2 nk2 ce2 ck2 w hn hr hs
  cases u with
  | mk es2 ks2=>
   have hlens:=rd_lens hr
   have hn6:ne≤1000000:=by have:=nodes_es es ks;omega
   have hk6:nk≤1000000:=by have:=nodes_es es ks;omega
   have hr2:=hr;rw[rdT_mk]at hr2;have hs2:=hs;rw[rdT_mk]at hs2
   have HEE:Hid (∀ W,Below w.heap.size w W→Calls Tryz.prog 86 #[.slice Ae ne ce,.slice Ae2 ne2 ce2] W fun e w'=>e = .returned (.bool (eqB es es2))∧Below W.heap.size W w'):=fun W hW=>
    equalE_any es es2 ne ne2 Ae Ae2 ce ce2 W hr2.1 hs2.1 hn6 ((hr2.2.1.below hW).more hW.size) ((hs2.2.1.below hW).more hW.size)
   have HEK:Hid (∀ W,Below w.heap.size w W→Calls Tryz.prog 87 #[.slice Ak nk ck,.slice Ak2 nk2 ck2,.func (.func 88) #[] #[]] W fun e w'=>e = .returned (.bool (eqB ks ks2))∧Below W.heap.size W w'):=fun W hW=>
    equalK_of es es2 ks ks2 ih Ae Ak ne nk ce ck Ae2 Ak2 ne2 nk2 ce2 ck2 W hk6 hn (RdT.more hW.size _ (RdT.below hr hW)) (RdT.more hW.size _ (RdT.below hs hW))
   obtain⟨z,hz⟩:∃ z,eqB (T.mk es ks) (T.mk es2 ks2)=z:=⟨_,rfl⟩;rw[hz];obtain⟨ze,hze⟩:∃ z,eqB es es2=z:=⟨_,rfl⟩;obtain⟨zk,hzk⟩:∃ z,eqB ks ks2=z:=⟨_,rfl⟩;rw[hze]at HEE;rw[hzk]at HEK
   have hand:z=(ze&&zk):=by
    rw[← hz]
    cases ze with
    | false=>rw[Bool.false_and];exact eqB_no (mk_ne (.inl fun e=>by rw[eqB_yes e]at hze;cases hze))
    | true=>
     cases zk with
     | false=>rw[Bool.true_and];exact eqB_no (mk_ne (.inr fun e=>by rw[eqB_yes e]at hzk;cases hzk))
     | true=>exact eqB_yes (by rw[eqB_iff.1 hze,eqB_iff.1 hzk])
   have HAND:=Lib.hid hand;clear ih hr hs hr2 hs2 hlens hz hze hzk hand;obtain⟨g,hg⟩:∃ g,g=w.heap.size:=⟨_,rfl⟩;have HK:=Lib.hid (tree_box w Ae Ak ne nk ce ck);rw[← hg]at HK;obtain⟨W0,hW0⟩:∃ W,W=w.alloc (.cells #[.slice Ae ne ce,.slice Ak nk ck] 25):=⟨_,rfl⟩;rw[← hW0]at HK;have HG:=Lib.hid hg;have HW0:=Lib.hid hW0;have k0:=HK.out.c0;have k1:=HK.out.c1;clear hg hW0;obtain⟨q,hq⟩:∃ q,q=W0.heap.size:=⟨_,rfl⟩;obtain⟨W1,hW1⟩:∃ W,W=W0.alloc (.cells #[.slice Ae2 ne2 ce2,.slice Ak2 nk2 ck2] 25):=⟨_,rfl⟩
   have hb1:Below W0.heap.size W0 W1:=by rw[hW1];exact Dt.box_below _ _ _
   have q0:W1.cell? ⟨q,0,none⟩=some (.slice Ae2 ne2 ce2):=by rw[hW1,hq];go_simp
   have q1:W1.cell? ⟨q,1,none⟩=some (.slice Ak2 nk2 ck2):=by rw[hW1,hq];go_simp
   have HKB:=Lib.hid (((HK.out.later hb1).cons_of q1).cons_of q0)
   have HQ:Hid (q=g+1):=by unfold Hid;rw[hq,HW0.out,HG.out];simp
   have HW1:=Lib.hid hW1;clear hq hW1 hb1 q0 q1 k0 k1;obtain⟨k0,k1,k2,k3,-⟩:=HKB.out.cj;have HKc:=HKB
   cases ze with
   | false=>
    go_enter Tryz.func56,Tryz.ntmps56;go_wp2_with fail;rw[← HG.out,← HW0.out,← HQ.out,← HW1.out];refine (HEE.out _ HKc.out.below).mono ?_;rintro e w2 ⟨rfl,hb2⟩;have HKc:=Lib.hid (HKc.out.later hb2);clear hb2;go_wp2_with fail;go_ret;exact⟨Dt.ret_bool (by rw[HAND.out];rfl),HKc.out.below⟩
   | true=>
    go_enter Tryz.func56,Tryz.ntmps56;go_wp2_with fail;rw[← HG.out,← HW0.out,← HQ.out,← HW1.out];refine (HEE.out _ HKc.out.below).mono ?_;rintro e w2 ⟨rfl,hb2⟩;have HKc:=Lib.hid (HKc.out.later hb2);clear hb2 k0 k1 k2 k3;have k1:=HKc.out.c1;have k3:=HKc.out.c3;go_wp2_with fail;refine (HEK.out _ HKc.out.below).mono ?_;rintro e w3 ⟨rfl,hb2⟩;have HKc:=Lib.hid (HKc.out.later hb2);clear hb2;go_wp2_with fail;go_ret;exact⟨Dt.ret_bool (by rw[HAND.out];rfl),HKc.out.below⟩
theorem sameT_any (t u:T) (Ae Ak:Option Addr) (ne nk ce ck:Nat) (Ae2 Ak2:Option Addr) (ne2 nk2 ce2 ck2:Nat) (w:World) (hl:LenT reachBytes t) (hn:nodes t≤1000000) (hr:RdT w w.heap.size t ⟨Ae,ne,ce⟩ ⟨Ak,nk,ck⟩) (hs:RdT w w.heap.size u ⟨Ae2,ne2,ce2⟩ ⟨Ak2,nk2,ck2⟩) :
  Calls Tryz.prog 29 #[.agg #[.slice Ae ne ce,.slice Ak nk ck],.agg #[.slice Ae2 ne2 ce2,.slice Ak2 nk2 ck2]] w fun e w'=>e = .returned (.bool (rightB 5 t&&eqB t u))∧Below w.heap.size w w':=by
 have HRT:Hid (∀ W,Below w.heap.size w W→Calls Tryz.prog 36 #[.agg #[.slice Ae ne ce,.slice Ak nk ck]] W fun e w'=>e = .returned (.bool (rightB 5 t))∧Below W.heap.size W w'):=fun W hW=>rightT_any t Ae Ak ne nk ce ck W hl (RdT.more hW.size _ (RdT.below hr hW));have HSA:Hid (∀ W,Below w.heap.size w W→Calls Tryz.prog 56 #[.agg #[.slice Ae ne ce,.slice Ak nk ck],.agg #[.slice Ae2 ne2 ce2,.slice Ak2 nk2 ck2]] W fun e w'=>e = .returned (.bool (eqB t u))∧Below W.heap.size W w'):=fun W hW=>same_any t u Ae Ak ne nk ce ck Ae2 Ak2 ne2 nk2 ce2 ck2 W hn (RdT.more hW.size _ (RdT.below hr hW)) (RdT.more hW.size _ (RdT.below hs hW));clear hl hn hr hs;obtain⟨g,hg⟩:∃ g,g=w.heap.size:=⟨_,rfl⟩;have HK:=Lib.hid (tree_box w Ae Ak ne nk ce ck);rw[← hg]at HK;obtain⟨W0,hW0⟩:∃ W,W=w.alloc (.cells #[.slice Ae ne ce,.slice Ak nk ck] 25):=⟨_,rfl⟩
 rw[← hW0]at HK;have HG:=Lib.hid hg;have HW0:=Lib.hid hW0;have k0:=HK.out.c0;have k1:=HK.out.c1;clear hg hW0;obtain⟨q,hq⟩:∃ q,q=W0.heap.size:=⟨_,rfl⟩;obtain⟨W1,hW1⟩:∃ W,W=W0.alloc (.cells #[.slice Ae2 ne2 ce2,.slice Ak2 nk2 ck2] 25):=⟨_,rfl⟩
 have hb1:Below W0.heap.size W0 W1:=by rw[hW1];exact Dt.box_below _ _ _
 have q0:W1.cell? ⟨q,0,none⟩=some (.slice Ae2 ne2 ce2):=by rw[hW1,hq];go_simp
 have q1:W1.cell? ⟨q,1,none⟩=some (.slice Ak2 nk2 ck2):=by rw[hW1,hq];go_simp
 have HKB:=Lib.hid (((HK.out.later hb1).cons_of q1).cons_of q0)
 have HQ:Hid (q=g+1):=by unfold Hid;rw[hq,HW0.out,HG.out];simp
 have HW1:=Lib.hid hW1;clear hq hW1 hb1 q0 q1 k0 k1;obtain⟨k0,k1,k2,k3,-⟩:=HKB.out.cj;have HKc:=HKB;obtain⟨v,hv⟩:∃ v,eqB t u=v:=⟨_,rfl⟩;rw[hv]at HSA
 cases hz:rightB 5 t with
 | false=>
  rw[hz]at HRT;clear hz hv;rw[Bool.false_and];go_enter Tryz.func29,Tryz.ntmps29;go_wp2_with fail;rw[← HG.out,← HW0.out,← HQ.out,← HW1.out];refine (HRT.out _ HKc.out.below).mono ?_;rintro e w2 ⟨rfl,hb2⟩;have HKc:=Lib.hid (HKc.out.later hb2);clear hb2;go_wp2_with fail;go_ret;exact⟨rfl,HKc.out.below⟩
 | true=>
  rw[hz]at HRT;rw[Bool.true_and,hv];clear hz hv;go_enter Tryz.func29,Tryz.ntmps29;go_wp2_with fail;rw[← HG.out,← HW0.out,← HQ.out,← HW1.out];refine (HRT.out _ HKc.out.below).mono ?_;rintro e w2 ⟨rfl,hb2⟩;have HKc:=Lib.hid (HKc.out.later hb2);clear hb2 k0 k1 k2 k3;obtain⟨k0,k1,k2,k3,-⟩:=HKc.out.cj;go_wp2_with fail;refine (HSA.out _ HKc.out.below).mono ?_;rintro e w3 ⟨rfl,hb2⟩;have HKc:=Lib.hid (HKc.out.later hb2);clear hb2;go_wp2_with fail;go_ret;exact⟨rfl,HKc.out.below⟩
end Tr
end Go.Proofs.YtjpcechcefhcfaaGreat
