/- Proved: the law PackBack answers true for every list of things that can be handed in, and leaves its arguments as they were. Conditions: none. -/
import Derived.Test.YtcbpgemiffmieaaGreatG00
import Derived.Test.YtcbpgemiffmieaaGreatG60
import Derived.Test.YtcbpgemiffmieaaGreatG10
import Derived.Test.YtcbpgemiffmieaaGreatTreeRefSame
open Go.ChangeShapes Go.WideShapes Go.ChangeAt Go.RowKit
namespace Go.Proofs.YtcbpgemiffmieaaGreat
namespace lawPackBack
open Tr Cx Cs Sp Rw Classical Pk Codec
set_option maxRecDepth 100000 in
set_option maxHeartbeats 4000000 in
theorem walk_any (l:List Thg) (n:Nat) (A:Option Addr) (c:Nat) (w:World) (hl:ThRd w w.heap.size A n c l) :
  Calls Tryz.prog 5 #[.slice A n c] w fun e w'=>e = .returned (.bool true)∧Below w.heap.size w w':=by
 have HKc:Hid (Kept [] w w):=Kept.nil_of (Below.refl _ _);have RT:Hid (ThRd w w.heap.size A n c l):=hl;clear hl;go_enter Tryz.func5,Tryz.ntmps5;go_wp2_with fail;refine (awake16 w).mono ?_;rintro e v1 ⟨rfl,hb9⟩;have HKc:=Lib.hid (HKc.out.later hb9);have RT:=Lib.hid (RT.out.later hb9);clear hb9;go_wp2_with fail;refine (few_any16 l n A c v1 RT.out).mono ?_;rintro e v2 ⟨b9,rfl,hfw,hb9⟩;have HFW:=Lib.hid hfw.out;clear hfw;have HKc:=Lib.hid (HKc.out.later hb9);have RT:=Lib.hid (RT.out.later hb9);clear hb9
 cases b9 with
 | false=>
  go_wp2_with fail;refine (awake16 _).mono ?_;rintro e v99 ⟨rfl,hb9⟩;have HKc:=Lib.hid (HKc.out.later hb9);clear hb9;go_wp2_with fail;go_ret;exact⟨by first | rfl | simp,HKc.out.below⟩
 | true=>
  have HF:=Lib.hid (HFW.out rfl);have hn12:n≤12:=HF.out.1
  have HLE:Hid (∀ j,((l.take j).flatMap thB).length≤60000):=fun j=>by
   have h1:=flat_le (f:=thB) (m:=5000) (l:=l.take j) fun y hy=>th_le (RT.out.2.2 y (List.mem_of_mem_take hy)) (HF.out.2 y (List.mem_of_mem_take hy));have h2:=HF.out.1;have h3:=RT.out.1
   have h4:(l.take j).length≤l.length:=by rw[List.length_take];omega
   omega
  obtain⟨B,hB⟩:∃ B,B=v2.heap.size:=⟨_,rfl⟩;obtain⟨a,ha⟩:∃ a,a=v2.heap.size:=⟨_,rfl⟩;obtain⟨WA,hWA⟩:∃ W,W=v2.alloc (.cells #[.slice none 0 0,.bool false] 27):=⟨_,rfl⟩
  have hbA:Below v2.heap.size v2 WA:=by rw[hWA];exact Dt.box_below _ _ _
  have HO:Hid (OutC WA [] B a none [] false):=⟨Pk.out_new v2 WA a ha hWA,by omega,(fun k hk=>by cases hk),(by simp)⟩
  have HRT:Hid (ThRd WA B A n c l):=by unfold Hid;rw[hB];exact RT.out.below hbA
  have HBW0:Hid (Below w.heap.size w WA):=HKc.out.below.trans (hbA.mono HKc.out.below.size)
  have HBW:Hid (w.heap.size≤B):=by rw[hB];exact HKc.out.below.size
  have HBX:Hid (B≤WA.heap.size):=by rw[hB];exact hbA.size
  have HWA:=Lib.hid hWA;have Ha:=Lib.hid ha;clear hWA ha hbA hB HFW;go_wp2_with fail;rw[← HWA.out]
  try rw[← Ha.out]
  go_loopw [21] (fun i wr=>∃ (k:Nat) (acc:List UInt8) (g:Option Nat),i = .int .i64 k∧k≤n∧Hid (acc=(l.take k).flatMap thB)∧Hid (OutC wr [] B a g acc false)∧Hid (Below B WA wr)∧Hid (∀ x∈l.take k,RightTh x)) (fun i _=>n-(intOf i).toNat)
  case atStart=>exact⟨0,[],none,rfl,Nat.zero_le _,rfl,HO,Below.refl _ _,by unfold Hid;simp⟩
  case round=>
   obtain⟨k,acc,g,rfl,hk,HACC,HOC,HB,HRG⟩:=hrel
   by_cases hlt:k<n
   ·have hkl:k<l.length:=by rw[HRT.out.1];exact hlt
    obtain⟨b,o,rfl,hb,hc⟩:=rd_elem thC_len (l:=l) HRT.out.2.1 hlt;obtain⟨x,hx⟩:∃ x,x=l[k]:=⟨_,rfl⟩;have hcell:∀ W,Below B WA W→∀ j u,(thC x)[j]?=some u→W.cell? ⟨b,o+k*13+j,none⟩=some u:=fun W hW j u hu=>(hW.cell (p:=⟨b,o+k*13+j,none⟩) hb).trans (hc k hkl j u (by rw[← hx];exact hu));have HOK:Hid (ThOk WA B x):=HRT.out.2.2 x (hx▸List.getElem_mem hkl);have HSM:Hid (Small x):=HF.out.2 x (hx▸List.getElem_mem hkl);have hsuc:=flat_take thB hkl;rw[← hx]at hsuc
    have HSUC:Hid (acc++thB x=(l.take (k+1)).flatMap thB):=by unfold Hid;rw[hsuc,HACC.out]
    have h6:(acc++thB x).length≤60000:=by rw[HSUC.out];exact HLE.out (k+1)
    have HTK:Hid (l.take (k+1)=l.take k++[x]):=by unfold Hid;rw[hx];exact List.take_succ_eq_append_getElem hkl
    have hcell:=Lib.hid hcell;have hsm1:=HSM.out.1;have hsm2:=HSM.out.2.1;have hsm3:=HSM.out.2.2.1;have hsm4:=HSM.out.2.2.2;obtain⟨zc,hzc⟩:∃ z,rightCB x.c=z:=⟨_,rfl⟩;obtain⟨zk,hzk⟩:∃ z,rightKB (x.t,x.xs)=z:=⟨_,rfl⟩;obtain⟨y,hy⟩:∃ y,opE x.o=y:=⟨_,rfl⟩;obtain⟨zv,hzv⟩:∃ z:Bool,z=true↔MayV (vf x.v):=⟨@decide _ (Classical.propDecidable _),@decide_eq_true_iff _ (Classical.propDecidable _)⟩;have HZC:=Lib.hid hzc;have HZK:=Lib.hid hzk;have HY:=Lib.hid hy;have HZV:=Lib.hid hzv;clear hc hx hsuc HACC hzc hzk hy hzv;have c1:=hcell.out wr HB.out 1 _ rfl;go_wp2_with fail;refine (refrightC_any x.c x.sc.n x.sc.A x.sc.c wr (HOK.out.below HB.out).lc (by omega) ((HOK.out.below HB.out).rc.more (Nat.le_trans HBX.out HB.out.size)) zc HZC.out).mono ?_;rintro e w1 ⟨rfl,hb9⟩;have HB1:=Lib.hid (HB.out.trans (hb9.mono (Nat.le_trans HBX.out HB.out.size)))
    have HOC:=Lib.hid (HOC.out.later hb9);clear hb9;clear c1
    cases zc with
    | false=>
     go_wp2;go_ret;exact⟨rfl,HBW0.out.trans (HB1.out.mono HBW.out)⟩
    | true=>
     have c2:=hcell.out w1 HB1.out 2 _ rfl;have c3:=hcell.out w1 HB1.out 3 _ rfl;have c4:=hcell.out w1 HB1.out 4 _ rfl;go_wp2_with fail;refine (Cs.refrightK_any x.t x.xs x.se.A x.sk.A x.sx.A x.se.n x.sk.n x.se.c x.sk.c x.sx.n x.sx.c w1 (by omega) (HOK.out.below HB1.out).lx (by omega) (RdT.more (Nat.le_trans HBX.out HB1.out.size) _ (HOK.out.below HB1.out).rt) ((HOK.out.below HB1.out).rx.more (Nat.le_trans HBX.out HB1.out.size)) (by omega)).mono ?_;rw[HZK.out];rintro e w2 ⟨rfl,hb9⟩;have HB2:=Lib.hid (HB1.out.trans (hb9.mono (Nat.le_trans HBX.out HB1.out.size)));have HOC:=Lib.hid (HOC.out.later hb9);clear hb9;clear c2 c3 c4
     cases zk with
     | false=>
      go_wp2;go_ret;exact⟨rfl,HBW0.out.trans (HB2.out.mono HBW.out)⟩
     | true=>
      have c5:=hcell.out w2 HB2.out 5 _ rfl;have c6:=hcell.out w2 HB2.out 6 _ rfl;have c7:=hcell.out w2 HB2.out 7 _ rfl;have c8:=hcell.out w2 HB2.out 8 _ rfl;go_wp2_with fail;refine (refop_any x.o.path x.o.act x.o.s x.o.n x.sp.A x.sp.n x.sp.c w2 y HY.out (by omega) ((HOK.out.below HB2.out).rp.more (Nat.le_trans HBX.out HB2.out.size))).mono ?_;rintro e w3 ⟨rfl,hb9⟩;have HB3:=Lib.hid (HB2.out.trans (hb9.mono (Nat.le_trans HBX.out HB2.out.size)));have HOC:=Lib.hid (HOC.out.later hb9);clear hb9;clear c5 c6 c7 c8
      by_cases hy0:y=0
      rotate_left
      ·have fy:(y==0)=false:=by rw[beq_eq_false_iff_ne];exact hy0
       go_wp2;go_ret;exact⟨rfl,HBW0.out.trans (HB3.out.mono HBW.out)⟩
      have fy:(y==0)=true:=by rw[beq_iff_eq];exact hy0
      have HY0:=Lib.hid hy0;clear hy0;have HCM:Hid (Calls Tryz.prog 22 #[.agg #[.int .i64 x.v.1,.int .i64 x.v.2.1,.int .i64 x.v.2.2.1,.int .i64 x.v.2.2.2]] w3 fun e w'=>e = .returned (.bool zv)∧Below w3.heap.size w3 w'):=refmay_any (vf x.v) w3 zv HZV.out;have c9:=hcell.out w3 HB3.out 9 _ rfl;have c10:=hcell.out w3 HB3.out 10 _ rfl;have c11:=hcell.out w3 HB3.out 11 _ rfl;have c12:=hcell.out w3 HB3.out 12 _ rfl;go_wp2_with fail;refine (HCM.out).mono ?_;rintro e w4 ⟨rfl,hb9⟩;have HB4:=Lib.hid (HB3.out.trans (hb9.mono (Nat.le_trans HBX.out HB3.out.size)));have HOC:=Lib.hid (HOC.out.later hb9);clear hb9;clear c9 c10 c11 c12;clear HCM fy
      cases zv with
      | false=>
       go_wp2;go_ret;exact⟨rfl,HBW0.out.trans (HB4.out.mono HBW.out)⟩
      | true=>
       have HRX:Hid (RightTh x):=⟨of_rightCB HZC.out,rightKB_iff.1 HZK.out,opE_zero.1 (by rw[HY.out];exact HY0.out),HZV.out.1 rfl⟩
       have HRG2:Hid (∀ x∈l.take (k+1),RightTh x):=by
        unfold Hid;rw[HTK.out];intro y hy
        rcases List.mem_append.1 hy with hy | hy
        ·exact HRG.out y hy
        ·rw[List.mem_singleton.1 hy];exact HRX.out
       have HOK4:=Lib.hid (HOK.out.below HB4.out);have c0:=hcell.out w4 HB4.out 0 _ rfl;have c1:=hcell.out w4 HB4.out 1 _ rfl;have c2:=hcell.out w4 HB4.out 2 _ rfl;have c3:=hcell.out w4 HB4.out 3 _ rfl;have c4:=hcell.out w4 HB4.out 4 _ rfl;have c5:=hcell.out w4 HB4.out 5 _ rfl;have c6:=hcell.out w4 HB4.out 6 _ rfl;have c7:=hcell.out w4 HB4.out 7 _ rfl;have c8:=hcell.out w4 HB4.out 8 _ rfl;have c9:=hcell.out w4 HB4.out 9 _ rfl;have c10:=hcell.out w4 HB4.out 10 _ rfl;have c11:=hcell.out w4 HB4.out 11 _ rfl;have c12:=hcell.out w4 HB4.out 12 _ rfl;rw[Nat.add_zero]at c0;clear HRG HTK HZC HZK HY HZV HY0 HOK;go_wp2_with fail;refine (put_any16 x HOK4.out HSM.out HOC.out).mono ?_;rintro e w5 ⟨Aq,mq,cq,rfl,hmq,hoq,hpt⟩;obtain⟨g',hoc2,htw,_⟩:=out_step hpt.out h6;have HOC2:=Lib.hid hoc2;have HB5:=Lib.hid (HB4.out.trans (htw.below HOC.out.ba HOC.out.bg HOC.out.bw))
       clear hmq hoq hpt hoc2 htw HOC c0 c1 c2 c3 c4 c5 c6 c7 c8 c9 c10 c11 c12;go_wp2_with fail;go_roundw
       case rel=>exact⟨k+1,acc++thB x,g',by go_num,by omega,HSUC,HOC2,HB5,HRG2⟩
       case measure=>simp[intOf];omega
   ·have hke:k=n:=by omega
    have HRA:Hid (∀ x∈l,RightTh x):=by
     have h1:=HRG.out;rw[hke,← HRT.out.1,List.take_length]at h1;exact h1
    have HBY:Hid (acc=l.flatMap thB):=by
     have h1:=HACC.out;rw[hke,← HRT.out.1,List.take_length]at h1;exact h1
    have hle:acc.length≤60000:=by rw[HACC.out];exact HLE.out k
    have HE:=Lib.hid (end_any a g acc false wr HOC.out.at_);obtain⟨m,hm⟩:∃ m,m=acc.length:=⟨_,rfl⟩;have HM:=Lib.hid hm;clear HACC HOC HRG hm hke;go_wp2_with fail;refine HE.out.mono ?_;unfold EndIs;rw[← HM.out];rintro e w3 ⟨hb3,⟨h,_⟩ | ⟨_,A7,e7,rfl,ho7⟩⟩
    ·cases h
    have HB3:=Lib.hid (HB.out.trans (hb3.mono (Nat.le_trans HBX.out HB.out.size)));have HR7:Hid (Rd w3 w3.heap.size 1 A7 m e7 (u8s acc)):=ho7.rd;clear hb3 ho7 HE HB hlt hk;go_wp2_with fail;refine (newin_any acc m A7 e7 w3 HM.out.symm (by have:=HM.out;omega) HR7.out).mono ?_;rintro e w4 ⟨ai,rfl,hwa,hin,hb4⟩;have HB4:=Lib.hid (HB3.out.trans (hb4.mono (Nat.le_trans HBX.out HB3.out.size)));have HI:Hid (InC w4 [] [] ai acc false):=⟨hin,by simp,by simp⟩;have HAI:Hid (B≤ai):=Nat.le_trans (Nat.le_trans HBX.out HB3.out.size) hwa;clear hb4 hin hwa HB3 HR7;go_wp2_with fail;obtain⟨wo,hwo⟩:∃ W,W=wr:=⟨_,rfl⟩;subst hwo
    go_loopw [72] (fun i wr=>∃ k:Nat,i = .int .i64 k∧k≤n∧Hid (InC wr [] [] ai ((l.drop k).flatMap thB) false)∧Hid (Below B WA wr)) (fun i _=>n-(intOf i).toNat)
    case atStart=>exact⟨0,rfl,Nat.zero_le _,by rw[List.drop_zero,← HBY.out];exact HI,HB4⟩
    case round=>
     obtain⟨k,rfl,hk,HI,HB⟩:=hrel
     by_cases hlt:k<n
     ·have hkl:k<l.length:=by rw[HRT.out.1];exact hlt
      obtain⟨b,o,rfl,hb,hc⟩:=rd_elem thC_len (l:=l) HRT.out.2.1 hlt;obtain⟨x,hx⟩:∃ x,x=l[k]:=⟨_,rfl⟩;have c0:=(HB.out.cell (p:=⟨b,o+k*13+0,none⟩) hb).trans (hc k hkl 0 _ rfl);have c1:=(HB.out.cell (p:=⟨b,o+k*13+1,none⟩) hb).trans (hc k hkl 1 _ rfl);have c2:=(HB.out.cell (p:=⟨b,o+k*13+2,none⟩) hb).trans (hc k hkl 2 _ rfl);have c3:=(HB.out.cell (p:=⟨b,o+k*13+3,none⟩) hb).trans (hc k hkl 3 _ rfl);have c4:=(HB.out.cell (p:=⟨b,o+k*13+4,none⟩) hb).trans (hc k hkl 4 _ rfl);have c5:=(HB.out.cell (p:=⟨b,o+k*13+5,none⟩) hb).trans (hc k hkl 5 _ rfl);have c6:=(HB.out.cell (p:=⟨b,o+k*13+6,none⟩) hb).trans (hc k hkl 6 _ rfl);have c7:=(HB.out.cell (p:=⟨b,o+k*13+7,none⟩) hb).trans (hc k hkl 7 _ rfl);have c8:=(HB.out.cell (p:=⟨b,o+k*13+8,none⟩) hb).trans (hc k hkl 8 _ rfl)
      have c9:=(HB.out.cell (p:=⟨b,o+k*13+9,none⟩) hb).trans (hc k hkl 9 _ rfl);have c10:=(HB.out.cell (p:=⟨b,o+k*13+10,none⟩) hb).trans (hc k hkl 10 _ rfl);have c11:=(HB.out.cell (p:=⟨b,o+k*13+11,none⟩) hb).trans (hc k hkl 11 _ rfl);have c12:=(HB.out.cell (p:=⟨b,o+k*13+12,none⟩) hb).trans (hc k hkl 12 _ rfl);rw[← hx]at c0 c1 c2 c3 c4 c5 c6 c7 c8 c9 c10 c11 c12;rw[Nat.add_zero]at c0;have HOK:Hid (ThOk WA B x):=HRT.out.2.2 x (hx▸List.getElem_mem hkl);have HSM:Hid (Small x):=HF.out.2 x (hx▸List.getElem_mem hkl);have HRX:Hid (RightTh x):=HRA.out x (hx▸List.getElem_mem hkl);have HDR:=Lib.hid (drop_one hkl hx);have hsm1:=HSM.out.1;have hsm2:=HSM.out.2.1;have hsm3:=HSM.out.2.2.1;have hsm4:=HSM.out.2.2.2
      have hrl:((l.drop k).flatMap thB).length≤100000:=by
       have h1:=congrArg List.length (show acc=(l.take k).flatMap thB++(l.drop k).flatMap thB by rw[← List.flatMap_append,List.take_append_drop];exact HBY.out);rw[List.length_append]at h1;omega
      obtain⟨r,hr⟩:∃ r,r=(l.drop k).flatMap thB:=⟨_,rfl⟩;obtain⟨r9,hr9⟩:∃ r,r=(l.drop (k+1)).flatMap thB:=⟨_,rfl⟩;rw[← hr]at HI hrl HDR;rw[← hr9]at HDR;have HR9:=Lib.hid hr9;obtain⟨q,hq⟩:∃ q,q=wr.heap.size:=⟨_,rfl⟩;obtain⟨WQ,hWQ⟩:∃ W,W=wr.alloc (.cells #[.int .u8 x.kd,.slice x.sc.A x.sc.n x.sc.c,.slice x.se.A x.se.n x.se.c,.slice x.sk.A x.sk.n x.sk.c,.slice x.sx.A x.sx.n x.sx.c,.slice x.sp.A x.sp.n x.sp.c,.int .i64 x.o.act,.string x.o.s,.int .i64 x.o.n,.int .i64 x.v.1,.int .i64 x.v.2.1,.int .i64 x.v.2.2.1,.int .i64 x.v.2.2.2] 44):=⟨_,rfl⟩
      have hbQ:Below wr.heap.size wr WQ:=by rw[hWQ];exact Dt.box_below _ _ _
      have HIQ:Hid (InC WQ [(⟨q,0,none⟩,.int .u8 x.kd),(⟨q,1,none⟩,.slice x.sc.A x.sc.n x.sc.c),(⟨q,2,none⟩,.slice x.se.A x.se.n x.se.c),(⟨q,3,none⟩,.slice x.sk.A x.sk.n x.sk.c),(⟨q,4,none⟩,.slice x.sx.A x.sx.n x.sx.c),(⟨q,5,none⟩,.slice x.sp.A x.sp.n x.sp.c),(⟨q,6,none⟩,.int .i64 x.o.act),(⟨q,7,none⟩,.string x.o.s),(⟨q,8,none⟩,.int .i64 x.o.n),(⟨q,9,none⟩,.int .i64 x.v.1),(⟨q,10,none⟩,.int .i64 x.v.2.1),(⟨q,11,none⟩,.int .i64 x.v.2.2.1),(⟨q,12,none⟩,.int .i64 x.v.2.2.2)] [] ai r false):=by
       refine in_box HI.out hbQ ?_;intro y hy;simp only[List.mem_cons,List.not_mem_nil,or_false]at hy
       rcases hy with rfl | rfl | rfl | rfl | rfl | rfl | rfl | rfl | rfl | rfl | rfl | rfl | rfl <;> exact⟨by dsimp only;omega,by rw[hWQ];simp <;> omega,by rw[hWQ,hq];go_simp⟩
      have HBQ:Hid (Below B WA WQ):=HB.out.trans (hbQ.mono (Nat.le_trans HBX.out HB.out.size));have HG0:=Lib.hid (Gt.refl HIQ.out);have HWQ:=Lib.hid hWQ;have Hq:=Lib.hid hq;clear hc hx hr hr9 hq hWQ hbQ HI HB
      by_cases f0:x.kd=0
      ·have HBY2:Hid (r=ctxB x.c++r9):=by unfold Hid;rw[HDR.out,thB_0 HRX.out f0]
       have g0:(x.kd==0)=true:=by rw[beq_iff_eq];exact f0
       clear f0;go_wp2_with fail;rw[← HWQ.out]
       try rw[← Hq.out]
       refine wp_region_held_drew (S:=fun W=>W.cell? ⟨q,1,none⟩=some (.slice x.sc.A x.sc.n x.sc.c)) (by kernel_rfl) (by exact (HG0.out.later (bel_drewN (Below.refl _ _) 1)).cell (p:=⟨q,1,none⟩) (v:=.slice x.sc.A x.sc.n x.sc.c) (by simp)) (fun hHeld=>?_);obtain⟨wz,hwz,hbz⟩:=drq WQ;have HGS:=Lib.hid (HG0.out.later hbz);have HBS:=Lib.hid (HBQ.out.trans (hbz.mono (Nat.le_trans HBX.out HBQ.out.size)));rw[← hwz]at hHeld ⊢;clear hwz hbz;refine Tk 0 88 ?_;refine Tk 2 90 ?_;refine Tk 3 91 ?_;refine Tc 1 (fun K hK=>?_);go_simp;refine (getctx_any hrl HGS.out.1).mono ?_;rintro e v1 ⟨u,nu,cu,Au,r2,b2,rfl,hlu,hou,HG2,HS⟩;obtain⟨rfl,rfl,rfl⟩:=HS.out.back pre_ctx HRX.out.c HBY2.out;have HG:=Lib.hid (HGS.out.trans HG2.out);have HBN:=Lib.hid (HBS.out.trans (gb_below HG2.out.2 HAI.out (Nat.le_trans HBX.out HBS.out.size)));clear HG2;have HX1:Hid (Rd v1 v1.heap.size 3 x.sc.A x.sc.n x.sc.c (spsC x.c)):=(HOK.out.rc.below HBN.out).more (Nat.le_trans HBX.out HBN.out.size)
       clear hHeld;refine Th hK ?_ (fun hHeld=>?_)
       ·exact HG.out.cell (p:=⟨q,1,none⟩) (v:=.slice x.sc.A x.sc.n x.sc.c) (by simp)
       clear hK K;refine Tc 4 (fun K hK=>?_);go_simp;refine (refsameC_any x.c x.c nu x.sc.n Au x.sc.A cu x.sc.c v1 hlu.out HOK.out.lc (by have h1:=hlu.out;have h2:=HOK.out.lc;omega) hou.out.rd HX1.out true (by simp)).mono ?_;rintro e v2 ⟨rfl,hb9⟩;have HGL:=Lib.hid (HG.out.later hb9);have HBL:=Lib.hid (HBN.out.trans (hb9.mono (Nat.le_trans HBX.out HBN.out.size)));clear hb9 HG HBN;clear hHeld;refine Th hK ?_ (fun hHeld=>?_)
       ·exact HGL.out.cell (p:=⟨q,1,none⟩) (v:=.slice x.sc.A x.sc.n x.sc.c) (by simp)
       clear hK K;refine Tk 5 10 ?_;refine wpAnyH_done (by kernel_rfl) ?_ _;clear hHeld;have HIN:=Lib.hid (HGL.out.1.sub (l2:=[]) (F2:=[]) (by simp) (by simp));rw[HR9.out]at HIN;go_wp2_with fail;go_roundw
       case rel=>exact⟨k+1,by go_num,by omega,HIN,HBL⟩
       case measure=>simp[intOf];omega
      by_cases f1:x.kd=1
      ·have HBY2:Hid (r=treeB x.t++r9):=by unfold Hid;rw[HDR.out,thB_1 HRX.out f0 f1]
       have g0:(x.kd==0)=false:=by rw[beq_eq_false_iff_ne];omega
       have g1:(x.kd==1)=true:=by rw[beq_iff_eq];exact f1
       clear f0 f1;go_wp2_with fail;rw[← HWQ.out]
       try rw[← Hq.out]
       refine wp_region_held_drew (S:=fun W=>W.cell? ⟨q,2,none⟩=some (.slice x.se.A x.se.n x.se.c)∧W.cell? ⟨q,3,none⟩=some (.slice x.sk.A x.sk.n x.sk.c)) (by kernel_rfl) (by exact⟨(HG0.out.later (bel_drewN (Below.refl _ _) 1)).cell (p:=⟨q,2,none⟩) (v:=.slice x.se.A x.se.n x.se.c) (by simp),(HG0.out.later (bel_drewN (Below.refl _ _) 1)).cell (p:=⟨q,3,none⟩) (v:=.slice x.sk.A x.sk.n x.sk.c) (by simp)⟩) (fun hHeld=>?_);obtain⟨wz,hwz,hbz⟩:=drq WQ;have HGS:=Lib.hid (HG0.out.later hbz);have HBS:=Lib.hid (HBQ.out.trans (hbz.mono (Nat.le_trans HBX.out HBQ.out.size)));rw[← hwz]at hHeld ⊢;clear hwz hbz;refine Tk 0 95 ?_;refine Tk 2 97 ?_;refine Tk 3 98 ?_;refine Tk 4 99 ?_;refine Tc 1 (fun K hK=>?_);go_simp;refine (gettree_any hrl HGS.out.1).mono ?_;rintro e v1 ⟨u,⟨Au,nu,cu⟩,⟨Bu,mu,du⟩,r2,b2,rfl,hru,HG2,HS⟩;obtain⟨rfl,rfl,rfl⟩:=HS.out.back pre_tree HRX.out.k.tree HBY2.out
       have HG:=Lib.hid (HGS.out.trans HG2.out);have HBN:=Lib.hid (HBS.out.trans (gb_below HG2.out.2 HAI.out (Nat.le_trans HBX.out HBS.out.size)));clear HG2;have HX1:Hid (RdT v1 v1.heap.size x.t x.se x.sk):=RdT.more (Nat.le_trans HBX.out HBN.out.size) _ (RdT.below HOK.out.rt HBN.out);have heq:eqB x.t x.t=true:=eqB_yes rfl;refine hK.out _ _ ?_ (fun hHeld2=>?_)
       ·exact⟨HG.out.cell (p:=⟨q,2,none⟩) (v:=.slice x.se.A x.se.n x.se.c) (by simp),HG.out.cell (p:=⟨q,3,none⟩) (v:=.slice x.sk.A x.sk.n x.sk.c) (by simp)⟩
       clear hK K hHeld;have hHeld:=hHeld2;clear hHeld2
       try simp only[]
       refine Tc 5 (fun K hK=>?_);go_simp;refine (refsameT_any x.t x.t Au Bu nu mu cu du x.se.A x.sk.A x.se.n x.sk.n x.se.c x.sk.c v1 (by omega) (RdO.rd _ hru.out) HX1.out).mono ?_;rw[heq];rintro e v2 ⟨rfl,hb9⟩;have HGL:=Lib.hid (HG.out.later hb9);have HBL:=Lib.hid (HBN.out.trans (hb9.mono (Nat.le_trans HBX.out HBN.out.size)));clear hb9 HG HBN;clear hHeld;refine Th hK ?_ (fun hHeld=>?_)
       ·exact⟨HGL.out.cell (p:=⟨q,2,none⟩) (v:=.slice x.se.A x.se.n x.se.c) (by simp),HGL.out.cell (p:=⟨q,3,none⟩) (v:=.slice x.sk.A x.sk.n x.sk.c) (by simp)⟩
       clear hK K;refine Tk 6 10 ?_;refine wpAnyH_done (by kernel_rfl) ?_ _;clear hHeld;have HIN:=Lib.hid (HGL.out.1.sub (l2:=[]) (F2:=[]) (by simp) (by simp));rw[HR9.out]at HIN;go_wp2_with fail;go_roundw
       case rel=>exact⟨k+1,by go_num,by omega,HIN,HBL⟩
       case measure=>simp[intOf];omega
      by_cases f2:x.kd=2
      ·have HBY2:Hid (r=causB (x.t,x.xs)++r9):=by unfold Hid;rw[HDR.out,thB_2 HRX.out f0 f1 f2]
       have g0:(x.kd==0)=false:=by rw[beq_eq_false_iff_ne];omega
       have g1:(x.kd==1)=false:=by rw[beq_eq_false_iff_ne];omega
       have g2:(x.kd==2)=true:=by rw[beq_iff_eq];exact f2
       clear f0 f1 f2;go_wp2_with fail;rw[← HWQ.out]
       try rw[← Hq.out]
       refine wp_region_held_drew (S:=fun W=>W.cell? ⟨q,2,none⟩=some (.slice x.se.A x.se.n x.se.c)∧W.cell? ⟨q,3,none⟩=some (.slice x.sk.A x.sk.n x.sk.c)∧W.cell? ⟨q,4,none⟩=some (.slice x.sx.A x.sx.n x.sx.c)) (by kernel_rfl) (by exact⟨(HG0.out.later (bel_drewN (Below.refl _ _) 1)).cell (p:=⟨q,2,none⟩) (v:=.slice x.se.A x.se.n x.se.c) (by simp),(HG0.out.later (bel_drewN (Below.refl _ _) 1)).cell (p:=⟨q,3,none⟩) (v:=.slice x.sk.A x.sk.n x.sk.c) (by simp),(HG0.out.later (bel_drewN (Below.refl _ _) 1)).cell (p:=⟨q,4,none⟩) (v:=.slice x.sx.A x.sx.n x.sx.c) (by simp)⟩) (fun hHeld=>?_);obtain⟨wz,hwz,hbz⟩:=drq WQ;have HGS:=Lib.hid (HG0.out.later hbz);have HBS:=Lib.hid (HBQ.out.trans (hbz.mono (Nat.le_trans HBX.out HBQ.out.size)));rw[← hwz]at hHeld ⊢;clear hwz hbz;refine Tk 0 103 ?_;refine Tk 2 105 ?_;refine Tk 3 106 ?_;refine Tc 1 (fun K hK=>?_)
       go_simp;have hcap:CapK r:=cap_known (k:=(x.t,x.xs)) HRX.out.k (show nodes x.t≤10000 by omega) (show x.xs.length≤10000 by have:=HOK.out.lx;omega) HBY2.out;refine (getcaus_any hrl hcap HGS.out.1).mono ?_;rintro e v1 ⟨u,⟨Au,nu,cu⟩,⟨Bu,mu,du⟩,⟨Cu,ou,eu⟩,r2,b2,rfl,hru,hlu,hou,HG2,HS⟩;obtain⟨rfl,rfl,rfl⟩:=HS.out.back pre_caus HRX.out.k HBY2.out;clear hcap;have HG:=Lib.hid (HGS.out.trans HG2.out);have HBN:=Lib.hid (HBS.out.trans (gb_below HG2.out.2 HAI.out (Nat.le_trans HBX.out HBS.out.size)));clear HG2;have HX1:Hid (RdT v1 v1.heap.size x.t x.se x.sk):=RdT.more (Nat.le_trans HBX.out HBN.out.size) _ (RdT.below HOK.out.rt HBN.out);have HX2:Hid (Rd v1 v1.heap.size 3 x.sx.A x.sx.n x.sx.c (spsC x.xs)):=(HOK.out.rx.below HBN.out).more (Nat.le_trans HBX.out HBN.out.size);refine hK.out _ _ ?_ (fun hHeld2=>?_)
       ·exact⟨HG.out.cell (p:=⟨q,2,none⟩) (v:=.slice x.se.A x.se.n x.se.c) (by simp),HG.out.cell (p:=⟨q,3,none⟩) (v:=.slice x.sk.A x.sk.n x.sk.c) (by simp),HG.out.cell (p:=⟨q,4,none⟩) (v:=.slice x.sx.A x.sx.n x.sx.c) (by simp)⟩
       clear hK K hHeld;have hHeld:=hHeld2;clear hHeld2
       try simp only[]
       refine Tc 4 (fun K hK=>?_);go_simp;refine (refsameK_any x.t x.t x.xs x.xs Au Bu Cu x.se.A x.sk.A x.sx.A nu mu cu du ou eu x.se.n x.sk.n x.se.c x.sk.c x.sx.n x.sx.c v1 true (by simp) (by omega) hlu.out (by have h1:x.xs.length=ou:=hlu.out;have:=HOK.out.lx;omega) (RdO.rd _ hru.out) hou.out.rd HOK.out.lx HX1.out HX2.out).mono ?_;rintro e v2 ⟨rfl,hb9⟩;have HGL:=Lib.hid (HG.out.later hb9);have HBL:=Lib.hid (HBN.out.trans (hb9.mono (Nat.le_trans HBX.out HBN.out.size)));clear hb9 HG HBN;clear hHeld;refine Th hK ?_ (fun hHeld=>?_)
       ·exact⟨HGL.out.cell (p:=⟨q,2,none⟩) (v:=.slice x.se.A x.se.n x.se.c) (by simp),HGL.out.cell (p:=⟨q,3,none⟩) (v:=.slice x.sk.A x.sk.n x.sk.c) (by simp),HGL.out.cell (p:=⟨q,4,none⟩) (v:=.slice x.sx.A x.sx.n x.sx.c) (by simp)⟩
       clear hK K;refine Tk 5 10 ?_;refine wpAnyH_done (by kernel_rfl) ?_ _;clear hHeld;have HIN:=Lib.hid (HGL.out.1.sub (l2:=[]) (F2:=[]) (by simp) (by simp));rw[HR9.out]at HIN;go_wp2_with fail;go_roundw
       case rel=>exact⟨k+1,by go_num,by omega,HIN,HBL⟩
       case measure=>simp[intOf];omega
      by_cases f3:x.kd=3
      ·have HBY2:Hid (r=opB x.o++r9):=by unfold Hid;rw[HDR.out,thB_3 HRX.out f0 f1 f2 f3]
       have g0:(x.kd==0)=false:=by rw[beq_eq_false_iff_ne];omega
       have g1:(x.kd==1)=false:=by rw[beq_eq_false_iff_ne];omega
       have g2:(x.kd==2)=false:=by rw[beq_eq_false_iff_ne];omega
       have g3:(x.kd==3)=true:=by rw[beq_iff_eq];exact f3
       clear f0 f1 f2 f3;go_wp2_with fail;rw[← HWQ.out]
       try rw[← Hq.out]
       refine wp_region_held_drew (S:=fun W=>W.cell? ⟨q,5,none⟩=some (.slice x.sp.A x.sp.n x.sp.c)∧W.cell? ⟨q,6,none⟩=some (.int .i64 x.o.act)∧W.cell? ⟨q,7,none⟩=some (.string x.o.s)∧W.cell? ⟨q,8,none⟩=some (.int .i64 x.o.n)) (by kernel_rfl) (by exact⟨(HG0.out.later (bel_drewN (Below.refl _ _) 1)).cell (p:=⟨q,5,none⟩) (v:=.slice x.sp.A x.sp.n x.sp.c) (by simp),(HG0.out.later (bel_drewN (Below.refl _ _) 1)).cell (p:=⟨q,6,none⟩) (v:=.int .i64 x.o.act) (by simp),(HG0.out.later (bel_drewN (Below.refl _ _) 1)).cell (p:=⟨q,7,none⟩) (v:=.string x.o.s) (by simp),(HG0.out.later (bel_drewN (Below.refl _ _) 1)).cell (p:=⟨q,8,none⟩) (v:=.int .i64 x.o.n) (by simp)⟩) (fun hHeld=>?_);obtain⟨wz,hwz,hbz⟩:=drq WQ;have HGS:=Lib.hid (HG0.out.later hbz);have HBS:=Lib.hid (HBQ.out.trans (hbz.mono (Nat.le_trans HBX.out HBQ.out.size)));rw[← hwz]at hHeld ⊢
       clear hwz hbz;refine Tk 0 110 ?_;refine Tk 2 112 ?_;refine Tk 3 113 ?_;refine Tc 1 (fun K hK=>?_);go_simp;refine (getop_any hrl HGS.out.1).mono ?_;rintro e v1 ⟨u,Au,nu,cu,r2,b2,rfl,hou,HG2,HS⟩;obtain⟨rfl,rfl,rfl⟩:=HS.out.back pre_opB HRX.out.o HBY2.out;have HG:=Lib.hid (HGS.out.trans HG2.out);have HBN:=Lib.hid (HBS.out.trans (gb_below HG2.out.2 HAI.out (Nat.le_trans HBX.out HBS.out.size)));clear HG2;have HX1:Hid (Rd v1 v1.heap.size 1 x.sp.A x.sp.n x.sp.c (Tr.strs x.o.path)):=(HOK.out.rp.below HBN.out).more (Nat.le_trans HBX.out HBN.out.size);clear hHeld;refine Th hK ?_ (fun hHeld=>?_)
       ·exact⟨HG.out.cell (p:=⟨q,5,none⟩) (v:=.slice x.sp.A x.sp.n x.sp.c) (by simp),HG.out.cell (p:=⟨q,6,none⟩) (v:=.int .i64 x.o.act) (by simp),HG.out.cell (p:=⟨q,7,none⟩) (v:=.string x.o.s) (by simp),HG.out.cell (p:=⟨q,8,none⟩) (v:=.int .i64 x.o.n) (by simp)⟩
       clear hK K;refine Tc 4 (fun K hK=>?_);go_simp;refine (sameop_any x.o.path x.o.path x.o.act x.o.act x.o.s x.o.s x.o.n x.o.n Au x.sp.A nu cu x.sp.n x.sp.c v1 true (by simp) (by have h1:=rd_len1 hou.out.rd;have h2:=rd_len1 HX1.out;omega) hou.out.rd HX1.out).mono ?_;rintro e v2 ⟨rfl,hb9⟩;have HGL:=Lib.hid (HG.out.later hb9);have HBL:=Lib.hid (HBN.out.trans (hb9.mono (Nat.le_trans HBX.out HBN.out.size)));clear hb9 HG HBN;clear hHeld;refine Th hK ?_ (fun hHeld=>?_)
       ·exact⟨HGL.out.cell (p:=⟨q,5,none⟩) (v:=.slice x.sp.A x.sp.n x.sp.c) (by simp),HGL.out.cell (p:=⟨q,6,none⟩) (v:=.int .i64 x.o.act) (by simp),HGL.out.cell (p:=⟨q,7,none⟩) (v:=.string x.o.s) (by simp),HGL.out.cell (p:=⟨q,8,none⟩) (v:=.int .i64 x.o.n) (by simp)⟩
       clear hK K;refine Tk 5 10 ?_;refine wpAnyH_done (by kernel_rfl) ?_ _;clear hHeld;have HIN:=Lib.hid (HGL.out.1.sub (l2:=[]) (F2:=[]) (by simp) (by simp));rw[HR9.out]at HIN;go_wp2_with fail;go_roundw
       case rel=>exact⟨k+1,by go_num,by omega,HIN,HBL⟩
       case measure=>simp[intOf];omega
      have HBY2:Hid (r=v4B x.v++r9):=by unfold Hid;rw[HDR.out,thB_4 HRX.out f0 f1 f2 f3]
      have g0:(x.kd==0)=false:=by rw[beq_eq_false_iff_ne];omega
      have g1:(x.kd==1)=false:=by rw[beq_eq_false_iff_ne];omega
      have g2:(x.kd==2)=false:=by rw[beq_eq_false_iff_ne];omega
      have g3:(x.kd==3)=false:=by rw[beq_eq_false_iff_ne];omega
      clear f0 f1 f2 f3;go_wp2_with fail;rw[← HWQ.out]
      try rw[← Hq.out]
      refine wp_region_held_drew (S:=fun W=>W.cell? ⟨q,9,none⟩=some (.int .i64 x.v.1)∧W.cell? ⟨q,10,none⟩=some (.int .i64 x.v.2.1)∧W.cell? ⟨q,11,none⟩=some (.int .i64 x.v.2.2.1)∧W.cell? ⟨q,12,none⟩=some (.int .i64 x.v.2.2.2)) (by kernel_rfl) (by exact⟨(HG0.out.later (bel_drewN (Below.refl _ _) 1)).cell (p:=⟨q,9,none⟩) (v:=.int .i64 x.v.1) (by simp),(HG0.out.later (bel_drewN (Below.refl _ _) 1)).cell (p:=⟨q,10,none⟩) (v:=.int .i64 x.v.2.1) (by simp),(HG0.out.later (bel_drewN (Below.refl _ _) 1)).cell (p:=⟨q,11,none⟩) (v:=.int .i64 x.v.2.2.1) (by simp),(HG0.out.later (bel_drewN (Below.refl _ _) 1)).cell (p:=⟨q,12,none⟩) (v:=.int .i64 x.v.2.2.2) (by simp)⟩) (fun hHeld=>?_);obtain⟨wz,hwz,hbz⟩:=drq WQ;have HGS:=Lib.hid (HG0.out.later hbz);have HBS:=Lib.hid (HBQ.out.trans (hbz.mono (Nat.le_trans HBX.out HBQ.out.size)));rw[← hwz]at hHeld ⊢
      clear hwz hbz;refine Tk 0 81 ?_;refine Tk 2 83 ?_;refine Tk 3 84 ?_;refine Tc 1 (fun K hK=>?_);go_simp;refine (getvec_any HGS.out.1).mono ?_;rintro e v1 ⟨u,r2,b2,rfl,HG2,HS⟩;obtain⟨rfl,rfl,rfl⟩:=HS.out.back pre_v4 HRX.out.v HBY2.out;have HG:=Lib.hid (HGS.out.trans HG2.out);have HBN:=Lib.hid (HBS.out.trans (gb_below HG2.out.2 HAI.out (Nat.le_trans HBX.out HBS.out.size)));clear HG2;have ev:∀ W,(Op.equalIn 10000 42 (.agg #[.int .i64 x.v.1,.int .i64 x.v.2.1,.int .i64 x.v.2.2.1,.int .i64 x.v.2.2.2]) (.agg #[.int .i64 x.v.1,.int .i64 x.v.2.1,.int .i64 x.v.2.2.1,.int .i64 x.v.2.2.2])).run Tryz.prog W=Result.ok true W:=fun W=>(eqV W (vf x.v) (vf x.v)).trans (show Result.ok (vf x.v 0==vf x.v 0&&(vf x.v 1==vf x.v 1&&(vf x.v 2==vf x.v 2&&vf x.v 3==vf x.v 3))) W=Result.ok true W by simp);have HGL:=Lib.hid HG.out
      have HBL:=Lib.hid HBN.out;clear HG HBN;clear hHeld;refine Th hK ?_ (fun hHeld=>?_)
      ·exact⟨HGL.out.cell (p:=⟨q,9,none⟩) (v:=.int .i64 x.v.1) (by simp),HGL.out.cell (p:=⟨q,10,none⟩) (v:=.int .i64 x.v.2.1) (by simp),HGL.out.cell (p:=⟨q,11,none⟩) (v:=.int .i64 x.v.2.2.1) (by simp),HGL.out.cell (p:=⟨q,12,none⟩) (v:=.int .i64 x.v.2.2.2) (by simp)⟩
      clear hK K;refine Tk 4 85 ?_;refine Tk 5 10 ?_;refine wpAnyH_done (by kernel_rfl) ?_ _;clear hHeld;have HIN:=Lib.hid (HGL.out.1.sub (l2:=[]) (F2:=[]) (by simp) (by simp));rw[HR9.out]at HIN;go_wp2_with fail;go_roundw
      case rel=>exact⟨k+1,by go_num,by omega,HIN,HBL⟩
      case measure=>simp[intOf];omega
     ·have hke:k=n:=by omega
      have hin:=HI.out.at_;rw[hke,← HRT.out.1,List.drop_length]at hin;have HBF:Hid (Below w.heap.size w wr):=HBW0.out.trans (HB.out.mono HBW.out);have hdn:=done_any hin;have HDN:=Lib.hid hdn;clear HI hin hdn HB;go_wp2_with fail;refine HDN.out.mono ?_;rintro e w9 ⟨rfl,rfl⟩;go_wp2;go_ret;exact⟨by first | rfl | simp,HBF.out⟩
set_option maxRecDepth 100000 in
theorem lifted (os:Os) (started:os.Started) (H:Type) (enc:TypeId×Value→H) :
  ReturnsInHanded {} Tryz.checked os 5 .any (Rows.packBackSpec.pre6 enc Tryz.prog Tryz.f5 Rows.packBackRow.domain false) (Rows.packBackSpec.post enc Tryz.prog Tryz.f5 false true false false):=by
 refine returnsInHanded_of_change_sized (C:=Tryz.checked) own started (by kernel_rfl) Tryz.func5
  (ChangeSpec.witness6 (enc:=enc) (C:=Tryz.checked) false ⟨#[],#[.slice none 0 0],[]⟩ 8 (by kernel_rfl) (by kernel_rfl) (by kernel_rfl) (by kernel_rfl)) ?_
 intro W base args ds gs before hval0 hW _ hsz0 _;have hval:∀ (j:Nat) t v,Tryz.f5.params[j]?=some t→args[j]?=some v→Value.okWide Tryz.prog W .any base t v:=hval0;have hW':=hW;obtain⟨p,q,hA0,hV,rfl,hfz,hnd⟩:=hW;have hA:DataW.TrodAll enc Tryz.prog W 0 (fun _=>true) true Tryz.f5.params.toList args.toList ds p:=hA0;rw[Tryz.params5]at hA hval;obtain⟨v0,d0,rfl,rfl,h0⟩:=trodAll_one hA;obtain⟨rfl,rfl⟩:=trodVars_none hV;have hsz:(DataW.weightsEach Tryz.prog (22::_) (d0::_)).all (· ≤ reachBytes)=true:=hsz0;obtain⟨hw0,hsz⟩:=Tr.weights_head hsz;obtain⟨A0,n0,c0,rfl⟩:=okWide_slice Tryz.underlying22 (hval 0 22 v0 rfl rfl);obtain⟨f0,hf0⟩:=h0;obtain⟨l0,hl0⟩:=Pk.things_of_trod hf0 hw0
 refine (walk_any l0 n0 A0 c0 W hl0).mono fun e W' ⟨he,hb⟩=>?_;subst he;exact⟨_,rfl,law_post hW' (by kernel_rfl) rfl rfl rfl hb⟩
theorem proved:Rows.PackBackSaid:=
 OpenClaim.holds_of_wide 5 Tryz.f5 rfl rfl rfl rfl rfl rfl rfl ⟨rfl,rfl,rfl,rfl,rfl⟩ rfl rfl rfl rfl rfl (by kernel_rfl) Tryz.func5 (by kernel_rfl)
  (of_decide_eq_true (by kernel_rfl)) (by unfold Func.isWrapper;first | (rw[if_pos (by decide +kernel)];kernel_rfl) | (rw[if_neg (by decide +kernel)];exact⟨rfl,rfl⟩))
  (fun os started H enc _=>lifted os started H enc)
#print axioms proved
end lawPackBack
end Go.Proofs.YtcbpgemiffmieaaGreat
