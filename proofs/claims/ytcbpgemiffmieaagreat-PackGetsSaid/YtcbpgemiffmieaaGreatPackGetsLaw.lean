/- Proved: the law PackGets answers true for whatever bytes, whatever bytes that can be handed in, and leaves its arguments as they were. Conditions: none. -/
import Derived.Test.YtcbpgemiffmieaaGreatG00
import Derived.Test.YtcbpgemiffmieaaGreatG60
import Derived.Test.YtcbpgemiffmieaaGreatG01
open Go.ChangeShapes Go.WideShapes Go.ChangeAt Go.RowKit
namespace Go.Proofs.YtcbpgemiffmieaaGreat
namespace lawPackGets
open Tr Cx Cs Sp Rw Classical Pk Codec
set_option maxRecDepth 100000 in
set_option maxHeartbeats 4000000 in
theorem walk_any (bs:List UInt8) (n:Nat) (A:Option Addr) (c:Nat) (ks:List UInt8) (nk:Nat) (Ak:Option Addr) (ck:Nat) (w:World) (hl:bs.length=n) (hr:Rd w w.heap.size 1 A n c (u8s bs)) (hl2:ks.length=nk) (hr2:Rd w w.heap.size 1 Ak nk ck (u8s ks)) :
  Calls Tryz.prog 4 #[.slice A n c,.slice Ak nk ck] w fun e w'=>e = .returned (.bool true)∧Below w.heap.size w w':=by
 have HKc:Hid (Kept [] w w):=Kept.nil_of (Below.refl _ _);have RA:Hid (Rd w w.heap.size 1 A n c (u8s bs)):=hr;have RK:Hid (Rd w w.heap.size 1 Ak nk ck (u8s ks)):=hr2;have HL:=Lib.hid hl;have HL2:=Lib.hid hl2;clear hr hl hr2 hl2;go_enter Tryz.func4,Tryz.ntmps4;go_wp2_with fail;refine (awake16 w).mono ?_;rintro e v1 ⟨rfl,hb9⟩;have HKc:=Lib.hid (HKc.out.later hb9);have RA:=Lib.hid (RA.out.later hb9);have RK:=Lib.hid (RK.out.later hb9);clear hb9
 by_cases h3:1000<n
 ·have f4:decide ((1000:Int)<(n:Int))=true:=decide_eq_true (by omega)
  go_wp2_with fail;refine (awake16 _).mono ?_;rintro e v99 ⟨rfl,hb9⟩;have HKc:=Lib.hid (HKc.out.later hb9);clear hb9;go_wp2_with fail;go_ret;exact⟨by first | rfl | simp,HKc.out.below⟩
 have f4:decide ((1000:Int)<(n:Int))=false:=decide_eq_false (by omega)
 by_cases h5:20<nk
 ·have f6:decide ((20:Int)<(nk:Int))=true:=decide_eq_true (by omega)
  go_wp2_with fail;refine (awake16 _).mono ?_;rintro e v99 ⟨rfl,hb9⟩;have HKc:=Lib.hid (HKc.out.later hb9);clear hb9;go_wp2_with fail;go_ret;exact⟨by first | rfl | simp,HKc.out.below⟩
 have f6:decide ((20:Int)<(nk:Int))=false:=decide_eq_false (by omega)
 have hn9:n≤1000:=by omega
 have hk9:nk≤20:=by omega
 obtain⟨B,hB⟩:∃ B,B=v1.heap.size:=⟨_,rfl⟩
 have HBW:Hid (w.heap.size≤B):=by rw[hB];exact HKc.out.below.size
 clear h3 h5;go_wp2_with fail;refine (newin_any bs n A c v1 HL.out (by omega) RA.out).mono ?_;rintro e w1 ⟨a,rfl,hwa,hin,hb1⟩
 have RA1:Hid (Rd w1 B 1 A n c (u8s bs)):=by unfold Hid;rw[hB];exact RA.out.below hb1
 have RK1:Hid (Rd w1 B 1 Ak nk ck (u8s ks)):=by unfold Hid;rw[hB];exact RK.out.below hb1
 have hBa:B≤a:=by omega
 have haw1:a<w1.heap.size:=hin.lt;obtain⟨g,hg⟩:∃ g,g=w1.heap.size:=⟨_,rfl⟩;obtain⟨WI,hWI⟩:∃ W,W=w1.alloc (.cells #[.slice A n c,.bool false] 51):=⟨_,rfl⟩
 have hbI:Below w1.heap.size w1 WI:=by rw[hWI];exact Dt.box_below _ _ _
 have HI0:Hid (InC WI [(⟨g,0,none⟩,.slice A n c),(⟨g,1,none⟩,.bool false)] [g] a bs false):=by
  have h1:InC w1 [] [] a bs false:=⟨hin,by simp,by simp⟩
  have h2:=h1.add (l2:=[(⟨g,0,none⟩,.slice A n c),(⟨g,1,none⟩,.bool false)]) (F2:=[g]) hbI (by
   intro x hx;simp only[List.mem_cons,List.not_mem_nil,or_false]at hx
   rcases hx with rfl | rfl <;> exact⟨by dsimp only;omega,by rw[hWI];simp <;> omega,by rw[hWI,hg];go_simp⟩) (by
   intro x hx;rw[List.mem_singleton.1 hx]
   exact⟨by omega,by rw[hWI,hg];simp,fun j=>by rw[hWI,hg];go_simp⟩)
  rw[List.append_nil,List.append_nil]at h2;exact h2
 have HB0:Hid (Below B v1 WI):=by unfold Hid;rw[hB];exact hb1.trans (hbI.mono hb1.size)
 have RA2:Hid (Rd WI B 1 A n c (u8s bs)):=RA1.out.below (hbI.mono (by omega));have RK2:Hid (Rd WI B 1 Ak nk ck (u8s ks)):=RK1.out.below (hbI.mono (by omega));have HBF:Hid (∀ W,Below B WI W→Below w.heap.size w W):=fun W h=>HKc.out.below.trans ((HB0.out.mono HBW.out).trans (h.mono HBW.out))
 have hag:a<g:=by omega
 have hBg:B≤g:=by omega
 have HWI:=Lib.hid hWI;have Hg:=Lib.hid hg;have hBI:B≤WI.heap.size:=Nat.le_trans (by omega) hbI.size;clear hin hwa hb1 RA1 RK1 hg hWI hbI hB HB0 haw1;go_wp2_with fail;rw[← HWI.out]
 try rw[← Hg.out]
 go_loopw [29] (fun i wr=>∃ (k:Nat) (r:List UInt8) (b:Bool) (A2:Option Addr) (m2 e2:Nat),i = .int .i64 k∧k≤nk∧Hid (InC wr [(⟨g,0,none⟩,.slice A2 m2 e2),(⟨g,1,none⟩,.bool b)] [g] a r b)∧Hid (r.length=m2)∧Hid (Rd wr B 1 A2 m2 e2 (u8s r))∧Hid (m2≤1000)∧Hid (Below B WI wr)) (fun i _=>nk-(intOf i).toNat)
 case atStart=>exact⟨0,bs,false,A,n,c,rfl,Nat.zero_le _,HI0,HL.out,RA2,hn9,Below.refl _ _⟩
 case round=>
  obtain⟨k,r,b,A2,m2,e2,rfl,hk,HI,HLR,HRR,HM2,HB⟩:=hrel
  by_cases hlt:k<nk
  ·have hkl:k<ks.length:=by rw[HL2.out];exact hlt
   have hki:(k:Int)<(nk:Int):=by omega
   have hk0:(0:Int)≤(k:Int):=by omega
   obtain⟨bk,ok,rfl,hbk,hck⟩:=RK2.out.at_ (by omega);have q0:WI.cell? ⟨bk,ok+k,none⟩=some (.int .u8 (ks[k]).toNat):=hck k _ (by simp[u8s,hkl]);obtain⟨kd,hkd⟩:∃ d:Int,d=(ks[k]).toNat:=⟨_,rfl⟩;rw[← hkd]at q0
   have hgw:g<wr.heap.size:=by have h1:=(HI.out.free g (by simp)).1.1;exact h1
   have haw:a<wr.heap.size:=HI.out.at_.lt;have hBwr:B≤wr.heap.size:=Nat.le_trans hBI HB.out.size
   have hbg:¬bk=g:=by omega
   have hgb:¬g=bk:=by omega
   have Q0:=Lib.hid q0;have HBK:=Lib.hid hbk;clear hck hkd q0 hbk hkl;go_wp2_with fail;refine wp_region_held_drew (S:=fun W=>W.cell? ⟨g,0,none⟩=some (.slice A2 m2 e2)∧W.cell? ⟨g,1,none⟩=some (.bool b)∧W.cell? ⟨bk,ok+k,none⟩=some (.int .u8 kd)) (by kernel_rfl) (by exact⟨((Gt.refl HI.out).later (bel_drewN (Below.refl _ _) 1)).cell (p:=⟨g,0,none⟩) (v:=.slice A2 m2 e2) (by simp),((Gt.refl HI.out).later (bel_drewN (Below.refl _ _) 1)).cell (p:=⟨g,1,none⟩) (v:=.bool b) (by simp),((HB.out.trans ((bel_drewN (Below.refl _ _) 1).mono hBwr)).cell (p:=⟨bk,ok+k,none⟩) HBK.out).trans Q0.out⟩) (fun hHeld=>?_);obtain⟨wz,hwz,hbz⟩:=drq wr;have HGS:=Lib.hid ((Gt.refl HI.out).later hbz);have HRS:Hid (Rd wz B 1 A2 m2 e2 (u8s r)):=HRR.out.below (hbz.mono hBwr);have HBS:=Lib.hid (HB.out.trans (hbz.mono hBwr));rw[← hwz]at hHeld ⊢;clear hwz hbz HRR
   refine Tk 0 33 ?_;refine Tk 1 34 ?_;refine Tk 2 35 ?_;refine Tk 3 36 ?_;refine Tk 4 37 ?_;refine Tk 5 38 ?_;refine wpAnyH_ready (rs:=[6,10]) (by kernel_rfl) (by simp) ?_;refine AllReadyH.cons (o:=⟨some 39,_,_,_,_,_⟩) rfl (fun K hK=>?_) (AllReadyH.cons (o:=⟨some 8,_,_,_,_,_⟩) rfl (fun K hK=>?_) (AllReadyH.nil))
   ·go_simp
    refine (get_any16 kd m2 A2 e2 ((HGS.out.1).sub (l2:=[]) (F2:=[]) (by simp) (by simp)) HLR.out HM2.out hBa HRS.out).mono ?_;rintro e v1 ⟨r2,b2,Aq,mq,cq,rfl,HGC,HMQ,HRQ,HMQ9⟩;have HBC:Hid (Below B wz v1):=gb_below HGC.out.2 hBa (by have h1:=HGS.out.2.size;omega);have HG1:Hid (Gt a wr [(⟨g,0,none⟩,.slice A2 m2 e2),(⟨g,1,none⟩,.bool b)] [g] r2 b2 v1):=HGS.out.step HGC.out.1.at_ HGC.out.2;have HB1:=Lib.hid (HBS.out.trans HBC.out);clear HGC HBC;clear hHeld;refine Th hK ?_ (fun hHeld=>?_)
    ·exact⟨HG1.out.cell (p:=⟨g,0,none⟩) (v:=.slice A2 m2 e2) (by simp),HG1.out.cell (p:=⟨g,1,none⟩) (v:=.bool b) (by simp),(HB1.out.cell (p:=⟨bk,ok+k,none⟩) HBK.out).trans Q0.out⟩
    clear hK K;refine Tk 7 32 ?_;refine Tk 8 40 ?_;refine Tk 9 41 ?_;refine Tc 10 (fun K hK=>?_);go_simp;clear hHeld;refine Th hK ?_ (fun hHeld=>?_)
    ·exact⟨(HG1.out.later (Dt.box_below _ _ _)).cell (p:=⟨g,0,none⟩) (v:=.slice A2 m2 e2) (by simp),(HG1.out.later (Dt.box_below _ _ _)).cell (p:=⟨g,1,none⟩) (v:=.bool b) (by simp),((HB1.out.trans ((Dt.box_below _ _ _).mono (by have h1:=HG1.out.2.size;omega))).cell (p:=⟨bk,ok+k,none⟩) HBK.out).trans Q0.out⟩
    clear hK K;obtain⟨j,hj⟩:∃ g,g=v1.heap.size:=⟨_,rfl⟩;obtain⟨v2,hv2⟩:∃ W,W=v1.alloc (.cells #[.slice none 0 0,.bool false] 51):=⟨_,rfl⟩
    have hbJ:Below v1.heap.size v1 v2:=by rw[hv2];exact Dt.box_below _ _ _
    have HGJ:Hid (Gt a wr ([(⟨j,0,none⟩,.slice none 0 0),(⟨j,1,none⟩,.bool false)]++[(⟨g,0,none⟩,.slice A2 m2 e2),(⟨g,1,none⟩,.bool b)]) ([j]++[g]) r2 b2 v2):=by
     refine HG1.out.add hbJ ?_ ?_
     ·intro x hx
      simp only[List.mem_cons,List.not_mem_nil,or_false]at hx
      rcases hx with rfl | rfl <;> exact⟨by dsimp only;omega,by rw[hv2];simp <;> omega,by rw[hv2,hj];go_simp⟩
     ·intro x hx
      rw[List.mem_singleton.1 hx];exact⟨by omega,by rw[hv2,hj];simp,fun i=>by rw[hv2,hj];go_simp⟩
    have hjw:wr.heap.size≤j:=by have h1:=HG1.out.2.size;omega
    have HGF:=Lib.hid HGJ.out;have HBF2:=Lib.hid (HB1.out.trans (hbJ.mono (by have h1:=HG1.out.2.size;omega)));have HRF:Hid (Rd v2 B 1 Aq mq cq (u8s r2)):=HRQ.out.below (hbJ.mono (by have h1:=HG1.out.2.size;omega));(try rw[← hv2]at hHeld);rw[← hv2];(try rw[← hj]);clear HGJ HB1 HG1 HRQ hbJ hv2 hj;have n0:=HGF.out.cell (p:=⟨j,0,none⟩) (v:=.slice none 0 0) (by simp);have n1:=HGF.out.cell (p:=⟨j,1,none⟩) (v:=.bool false) (by simp);have f0:=(HGF.out.1.free j (by simp)).1.2 0;have f1:=(HGF.out.1.free j (by simp)).1.2 1
    have hjg:¬j=g:=by omega
    have hgj:¬g=j:=by omega
    have hjbk:¬j=bk:=by have:=HBK.out;omega
    have hbkj:¬bk=j:=by have:=HBK.out;omega
    have m0:=HGF.out.cell (p:=⟨g,0,none⟩) (v:=.slice A2 m2 e2) (by simp);have m1:=HGF.out.cell (p:=⟨g,1,none⟩) (v:=.bool b) (by simp);have m9:=(HBF2.out.cell (p:=⟨bk,ok+k,none⟩) HBK.out).trans Q0.out;refine Tc 11 (fun K hK=>?_);go_simp;refine Th hK ?_ (fun hHeld2=>?_)
    ·refine⟨?_,?_,?_⟩ <;> go_simp
    clear hK K hHeld;have hHeld:=hHeld2;clear hHeld2;refine Tk 12 9 ?_;refine wpAnyH_done (by kernel_rfl) ?_ _;clear hHeld;obtain⟨V3,hV3⟩:∃ W,W=(v2.setCell ⟨j,0,none⟩ (.slice Aq mq cq)).setCell ⟨j,1,none⟩ (.bool b2):=⟨_,rfl⟩
    have HG3:Hid (Gt a wr [(⟨j,0,none⟩,.slice Aq mq cq),(⟨j,1,none⟩,.bool b2),(⟨g,0,none⟩,.slice A2 m2 e2),(⟨g,1,none⟩,.bool b)] ([j]++[g]) r2 b2 V3):=by
     have h1:=HGF.out.setc haw hjw (j:=0) (u:=.slice Aq mq cq) (l2:=[(⟨j,0,none⟩,.slice Aq mq cq),(⟨j,1,none⟩,.bool false),(⟨g,0,none⟩,.slice A2 m2 e2),(⟨g,1,none⟩,.bool b)]) ⟨.slice none 0 0,by simp⟩ (fun x hx=>by
      simp only[List.mem_cons,List.not_mem_nil,or_false]at hx
      rcases hx with rfl | rfl | rfl | rfl
      ·exact .inr rfl
      ·exact .inl ⟨by simp,by simp⟩
      ·exact .inl ⟨by simp,by simp⟩
      ·exact .inl ⟨by simp,by simp⟩)
     have h2:=h1.setc haw hjw (j:=1) (u:=.bool b2) (l2:=[(⟨j,0,none⟩,.slice Aq mq cq),(⟨j,1,none⟩,.bool b2),(⟨g,0,none⟩,.slice A2 m2 e2),(⟨g,1,none⟩,.bool b)]) ⟨.bool false,by simp⟩ (fun x hx=>by
      simp only[List.mem_cons,List.not_mem_nil,or_false]at hx
      rcases hx with rfl | rfl | rfl | rfl
      ·exact .inl ⟨by simp,by simp⟩
      ·exact .inr rfl
      ·exact .inl ⟨by simp,by simp⟩
      ·exact .inl ⟨by simp,by simp⟩)
     rw[hV3];exact h2
    have hBj:B≤j:=by omega
    have HB3:Hid (Below B WI V3):=by unfold Hid;rw[hV3];exact (HBF2.out.setCell (p:=⟨j,0,none⟩) hBj _).setCell (p:=⟨j,1,none⟩) hBj _
    have HR3:Hid (Rd V3 B 1 Aq mq cq (u8s r2)):=by unfold Hid;rw[hV3];exact (HRF.out.setCell (p:=⟨j,0,none⟩) hBj _).setCell (p:=⟨j,1,none⟩) hBj _
    have HV3:=Lib.hid hV3;clear n0 n1 f0 f1 m0 m1 m9 HGF HBF2 HRF hV3;obtain⟨z,hz⟩:∃ z,(!b2&&r2.isEmpty)=z:=⟨_,rfl⟩
    have hz2:(!b2&&((mq:Int)==0))=z:=by
     rw[← hz]
     congr 1
     rw[Bool.eq_iff_iff,beq_iff_eq,List.isEmpty_iff,← HMQ.out];exact⟨fun h=>List.eq_nil_of_length_eq_zero (by omega),fun h=>by rw[h];rfl⟩
    have HZ:=Lib.hid hz;have HZ2:=Lib.hid hz2
    have e1:(b2 != b2)=false:=by simp
    have e2':((mq:Int) != (mq:Int))=false:=by simp
    have e3:(z != z)=false:=by simp
    clear hz hz2;go_wp2_with fail;rw[← HV3.out];refine wp_region_held_drew (S:=fun W=>W.cell? ⟨j,0,none⟩=some (.slice Aq mq cq)∧W.cell? ⟨j,1,none⟩=some (.bool b2)) (by kernel_rfl) (by exact⟨(HG3.out.later (bel_drewN (Below.refl _ _) 1)).cell (p:=⟨j,0,none⟩) (v:=.slice Aq mq cq) (by simp),(HG3.out.later (bel_drewN (Below.refl _ _) 1)).cell (p:=⟨j,1,none⟩) (v:=.bool b2) (by simp)⟩) (fun hHeld=>?_);obtain⟨v4,hv4,hbz⟩:=drq V3;have HGT:=Lib.hid (HG3.out.later hbz);have HBT:=Lib.hid (HB3.out.trans (hbz.mono (by have h1:=HG3.out.2.size;omega)));have HRT:Hid (Rd v4 B 1 Aq mq cq (u8s r2)):=HR3.out.below (hbz.mono (by have h1:=HG3.out.2.size;omega));rw[← hv4]at hHeld ⊢;clear hv4 hbz HG3 HB3 HR3;refine Tk 0 42 ?_;refine Tk 1 43 ?_;refine Tk 2 44 ?_;refine Tk 3 45 ?_;refine Tk 5 47 ?_;refine Tk 6 48 ?_;refine Tc 4 (fun K hK=>?_);go_simp
    refine (bad_any HGT.out.1.at_).mono ?_;rintro e v5 ⟨rfl,rfl⟩;clear hHeld;refine Th hK ?_ (fun hHeld=>?_)
    ·exact⟨HGT.out.cell (p:=⟨j,0,none⟩) (v:=.slice Aq mq cq) (by simp),HGT.out.cell (p:=⟨j,1,none⟩) (v:=.bool b2) (by simp)⟩
    clear hK K;refine Tk 7 49 ?_;refine Tk 8 50 ?_;refine Tk 9 51 ?_;refine Tk 10 52 ?_;refine Tk 12 54 ?_;refine Tk 13 55 ?_;refine Tk 14 56 ?_;refine Tc 11 (fun K hK=>?_);go_simp;refine (left_any HGT.out.1.at_).mono ?_;rw[HMQ.out];rintro e v5 ⟨rfl,rfl⟩;clear hHeld;refine Th hK ?_ (fun hHeld=>?_)
    ·exact⟨HGT.out.cell (p:=⟨j,0,none⟩) (v:=.slice Aq mq cq) (by simp),HGT.out.cell (p:=⟨j,1,none⟩) (v:=.bool b2) (by simp)⟩
    clear hK K;refine Tk 15 57 ?_;refine Tk 16 58 ?_;refine Tk 17 59 ?_;refine Tk 18 60 ?_;refine Tk 20 62 ?_;refine Tc 19 (fun K hK=>?_);go_simp;refine (done_any HGT.out.1.at_).mono ?_;rw[HZ.out];rintro e v5 ⟨rfl,rfl⟩;clear hHeld;refine Th hK ?_ (fun hHeld=>?_)
    ·exact⟨HGT.out.cell (p:=⟨j,0,none⟩) (v:=.slice Aq mq cq) (by simp),HGT.out.cell (p:=⟨j,1,none⟩) (v:=.bool b2) (by simp)⟩
    clear hK K;refine Tc 21 (fun K hK=>?_);go_simp;refine (rdone_any mq Aq cq b2 v4).mono ?_;rw[HZ2.out];rintro e v6 ⟨rfl,hb9⟩;have HGU:=Lib.hid (HGT.out.later hb9);have HBU:=Lib.hid (HBT.out.trans (hb9.mono (by have h1:=HGT.out.2.size;omega)));have HRU:Hid (Rd v6 B 1 Aq mq cq (u8s r2)):=HRT.out.below (hb9.mono (by have h1:=HGT.out.2.size;omega));clear hb9;clear hHeld;refine Th hK ?_ (fun hHeld=>?_)
    ·exact⟨HGU.out.cell (p:=⟨j,0,none⟩) (v:=.slice Aq mq cq) (by simp),HGU.out.cell (p:=⟨j,1,none⟩) (v:=.bool b2) (by simp)⟩
    clear hK K;refine Tk 22 64 ?_;refine Tk 23 65 ?_;refine wpAnyH_done (by kernel_rfl) ?_ _;clear hHeld e1 e2' e3;have k0:=HGU.out.cell (p:=⟨j,0,none⟩) (v:=.slice Aq mq cq) (by simp);have k1:=HGU.out.cell (p:=⟨j,1,none⟩) (v:=.bool b2) (by simp);have k2:=HGU.out.cell (p:=⟨g,0,none⟩) (v:=.slice A2 m2 e2) (by simp);have k3:=HGU.out.cell (p:=⟨g,1,none⟩) (v:=.bool b) (by simp);have f0:=(HGU.out.1.free g (by simp)).1.2 0;have f1:=(HGU.out.1.free g (by simp)).1.2 1;obtain⟨V7,hV7⟩:∃ W,W=(v6.setCell ⟨g,0,none⟩ (.slice Aq mq cq)).setCell ⟨g,1,none⟩ (.bool b2):=⟨_,rfl⟩
    have HI7:Hid (InC V7 [(⟨g,0,none⟩,.slice Aq mq cq),(⟨g,1,none⟩,.bool b2)] [g] a r2 b2):=by
     have hk:∀ i,i≤a→V7.heap[i]?=v6.heap[i]?:=fun i hi=>by
      rw[hV7];exact (Below.heap_setCell _ ⟨g,1,none⟩ _ i (by dsimp only;omega)).trans (Below.heap_setCell _ ⟨g,0,none⟩ _ i (by dsimp only;omega))
     refine⟨HGU.out.1.at_.keepx hk,fun x hx=>?_,fun q hq=>?_⟩
     ·simp only[List.mem_cons,List.not_mem_nil,or_false]at hx
      have hsz:V7.heap.size=v6.heap.size:=by rw[hV7];simp[World.setCell]
      have hg6:g<v6.heap.size:=(HGU.out.1.free g (by simp)).1.1
      rcases hx with rfl | rfl <;> exact⟨by dsimp only;omega,by rw[hV7];go_simp,by dsimp only;omega⟩
     ·rw[List.mem_singleton.1 hq]
      refine⟨?_,by omega⟩;rw[hV7];exact ((HGU.out.1.free g (by simp)).1.set _ _).set _ _
    have HR7:Hid (Rd V7 B 1 Aq mq cq (u8s r2)):=by unfold Hid;rw[hV7];exact (HRU.out.setCell (p:=⟨g,0,none⟩) hBg _).setCell (p:=⟨g,1,none⟩) hBg _
    have HB7:Hid (Below B WI V7):=by unfold Hid;rw[hV7];exact (HBU.out.setCell (p:=⟨g,0,none⟩) hBg _).setCell (p:=⟨g,1,none⟩) hBg _
    have HV7:=Lib.hid hV7;clear hV7 HGU HRU HBU;go_wp2_with fail;rw[← HV7.out];go_roundw
    case rel=>exact⟨k+1,r2,b2,Aq,mq,cq,by go_num,by omega,HI7,HMQ,HR7,HMQ9,HB7⟩
    case measure=>simp[intOf];omega
   ·go_simp
    clear hHeld;refine Th hK ?_ (fun hHeld=>?_)
    ·exact⟨(HGS.out.later (Dt.box_below _ _ _)).cell (p:=⟨g,0,none⟩) (v:=.slice A2 m2 e2) (by simp),(HGS.out.later (Dt.box_below _ _ _)).cell (p:=⟨g,1,none⟩) (v:=.bool b) (by simp),((HBS.out.trans ((Dt.box_below _ _ _).mono (by have h1:=HGS.out.2.size;omega))).cell (p:=⟨bk,ok+k,none⟩) HBK.out).trans Q0.out⟩
    clear hK K;obtain⟨j,hj⟩:∃ g,g=wz.heap.size:=⟨_,rfl⟩;obtain⟨v1,hv1⟩:∃ W,W=wz.alloc (.cells #[.slice none 0 0,.bool false] 51):=⟨_,rfl⟩
    have hbJ:Below wz.heap.size wz v1:=by rw[hv1];exact Dt.box_below _ _ _
    have HGJ:Hid (Gt a wr ([(⟨j,0,none⟩,.slice none 0 0),(⟨j,1,none⟩,.bool false)]++[(⟨g,0,none⟩,.slice A2 m2 e2),(⟨g,1,none⟩,.bool b)]) ([j]++[g]) r b v1):=by
     refine HGS.out.add hbJ ?_ ?_
     ·intro x hx
      simp only[List.mem_cons,List.not_mem_nil,or_false]at hx
      rcases hx with rfl | rfl <;> exact⟨by dsimp only;omega,by rw[hv1];simp <;> omega,by rw[hv1,hj];go_simp⟩
     ·intro x hx
      rw[List.mem_singleton.1 hx];exact⟨by omega,by rw[hv1,hj];simp,fun i=>by rw[hv1,hj];go_simp⟩
    have hjw:wr.heap.size≤j:=by have h1:=HGS.out.2.size;omega
    have HBJ:=Lib.hid (HBS.out.trans (hbJ.mono (by have h1:=HGS.out.2.size;omega)));have HRS:Hid (Rd v1 B 1 A2 m2 e2 (u8s r)):=HRS.out.below (hbJ.mono (by have h1:=HGS.out.2.size;omega));(try rw[← hv1]at hHeld);rw[← hv1];(try rw[← hj]);clear HBS HGS hbJ hv1 hj;refine Tc 6 (fun K hK=>?_);go_simp;refine (get_any16 kd m2 A2 e2 ((HGJ.out.1).sub (l2:=[]) (F2:=[]) (by simp) (by simp)) HLR.out HM2.out hBa HRS.out).mono ?_;rintro e v2 ⟨r2,b2,Aq,mq,cq,rfl,HGC,HMQ,HRQ,HMQ9⟩;have HBC:Hid (Below B v1 v2):=gb_below HGC.out.2 hBa (by have h1:=HGJ.out.2.size;omega);have HGF:Hid (Gt a wr ([(⟨j,0,none⟩,.slice none 0 0),(⟨j,1,none⟩,.bool false)]++[(⟨g,0,none⟩,.slice A2 m2 e2),(⟨g,1,none⟩,.bool b)]) ([j]++[g]) r2 b2 v2):=HGJ.out.step HGC.out.1.at_ HGC.out.2;have HBF2:=Lib.hid (HBJ.out.trans HBC.out);have HRF:Hid (Rd v2 B 1 Aq mq cq (u8s r2)):=HRQ.out
    clear HGC HBC HRQ HGJ HBJ;have n0:=HGF.out.cell (p:=⟨j,0,none⟩) (v:=.slice none 0 0) (by simp);have n1:=HGF.out.cell (p:=⟨j,1,none⟩) (v:=.bool false) (by simp);have f0:=(HGF.out.1.free j (by simp)).1.2 0;have f1:=(HGF.out.1.free j (by simp)).1.2 1
    have hjg:¬j=g:=by omega
    have hgj:¬g=j:=by omega
    have hjbk:¬j=bk:=by have:=HBK.out;omega
    have hbkj:¬bk=j:=by have:=HBK.out;omega
    have m0:=HGF.out.cell (p:=⟨g,0,none⟩) (v:=.slice A2 m2 e2) (by simp);have m1:=HGF.out.cell (p:=⟨g,1,none⟩) (v:=.bool b) (by simp);have m9:=(HBF2.out.cell (p:=⟨bk,ok+k,none⟩) HBK.out).trans Q0.out;clear hHeld;refine Th hK ?_ (fun hHeld=>?_)
    ·exact⟨HGF.out.cell (p:=⟨g,0,none⟩) (v:=.slice A2 m2 e2) (by simp),HGF.out.cell (p:=⟨g,1,none⟩) (v:=.bool b) (by simp),(HBF2.out.cell (p:=⟨bk,ok+k,none⟩) HBK.out).trans Q0.out⟩
    clear hK K;refine Tk 7 32 ?_;refine Tk 8 40 ?_;refine Tk 9 41 ?_;refine Tc 11 (fun K hK=>?_);go_simp;refine Th hK ?_ (fun hHeld2=>?_)
    ·refine⟨?_,?_,?_⟩ <;> go_simp
    clear hK K hHeld;have hHeld:=hHeld2;clear hHeld2;refine Tk 12 9 ?_;refine wpAnyH_done (by kernel_rfl) ?_ _;clear hHeld;obtain⟨V3,hV3⟩:∃ W,W=(v2.setCell ⟨j,0,none⟩ (.slice Aq mq cq)).setCell ⟨j,1,none⟩ (.bool b2):=⟨_,rfl⟩
    have HG3:Hid (Gt a wr [(⟨j,0,none⟩,.slice Aq mq cq),(⟨j,1,none⟩,.bool b2),(⟨g,0,none⟩,.slice A2 m2 e2),(⟨g,1,none⟩,.bool b)] ([j]++[g]) r2 b2 V3):=by
     have h1:=HGF.out.setc haw hjw (j:=0) (u:=.slice Aq mq cq) (l2:=[(⟨j,0,none⟩,.slice Aq mq cq),(⟨j,1,none⟩,.bool false),(⟨g,0,none⟩,.slice A2 m2 e2),(⟨g,1,none⟩,.bool b)]) ⟨.slice none 0 0,by simp⟩ (fun x hx=>by
      simp only[List.mem_cons,List.not_mem_nil,or_false]at hx
      rcases hx with rfl | rfl | rfl | rfl
      ·exact .inr rfl
      ·exact .inl ⟨by simp,by simp⟩
      ·exact .inl ⟨by simp,by simp⟩
      ·exact .inl ⟨by simp,by simp⟩)
     have h2:=h1.setc haw hjw (j:=1) (u:=.bool b2) (l2:=[(⟨j,0,none⟩,.slice Aq mq cq),(⟨j,1,none⟩,.bool b2),(⟨g,0,none⟩,.slice A2 m2 e2),(⟨g,1,none⟩,.bool b)]) ⟨.bool false,by simp⟩ (fun x hx=>by
      simp only[List.mem_cons,List.not_mem_nil,or_false]at hx
      rcases hx with rfl | rfl | rfl | rfl
      ·exact .inl ⟨by simp,by simp⟩
      ·exact .inr rfl
      ·exact .inl ⟨by simp,by simp⟩
      ·exact .inl ⟨by simp,by simp⟩)
     rw[hV3];exact h2
    have hBj:B≤j:=by omega
    have HB3:Hid (Below B WI V3):=by unfold Hid;rw[hV3];exact (HBF2.out.setCell (p:=⟨j,0,none⟩) hBj _).setCell (p:=⟨j,1,none⟩) hBj _
    have HR3:Hid (Rd V3 B 1 Aq mq cq (u8s r2)):=by unfold Hid;rw[hV3];exact (HRF.out.setCell (p:=⟨j,0,none⟩) hBj _).setCell (p:=⟨j,1,none⟩) hBj _
    have HV3:=Lib.hid hV3;clear n0 n1 f0 f1 m0 m1 m9 HGF HBF2 HRF hV3;obtain⟨z,hz⟩:∃ z,(!b2&&r2.isEmpty)=z:=⟨_,rfl⟩
    have hz2:(!b2&&((mq:Int)==0))=z:=by
     rw[← hz]
     congr 1
     rw[Bool.eq_iff_iff,beq_iff_eq,List.isEmpty_iff,← HMQ.out];exact⟨fun h=>List.eq_nil_of_length_eq_zero (by omega),fun h=>by rw[h];rfl⟩
    have HZ:=Lib.hid hz;have HZ2:=Lib.hid hz2
    have e1:(b2 != b2)=false:=by simp
    have e2':((mq:Int) != (mq:Int))=false:=by simp
    have e3:(z != z)=false:=by simp
    clear hz hz2;go_wp2_with fail;rw[← HV3.out];refine wp_region_held_drew (S:=fun W=>W.cell? ⟨j,0,none⟩=some (.slice Aq mq cq)∧W.cell? ⟨j,1,none⟩=some (.bool b2)) (by kernel_rfl) (by exact⟨(HG3.out.later (bel_drewN (Below.refl _ _) 1)).cell (p:=⟨j,0,none⟩) (v:=.slice Aq mq cq) (by simp),(HG3.out.later (bel_drewN (Below.refl _ _) 1)).cell (p:=⟨j,1,none⟩) (v:=.bool b2) (by simp)⟩) (fun hHeld=>?_);obtain⟨v4,hv4,hbz⟩:=drq V3;have HGT:=Lib.hid (HG3.out.later hbz);have HBT:=Lib.hid (HB3.out.trans (hbz.mono (by have h1:=HG3.out.2.size;omega)));have HRT:Hid (Rd v4 B 1 Aq mq cq (u8s r2)):=HR3.out.below (hbz.mono (by have h1:=HG3.out.2.size;omega));rw[← hv4]at hHeld ⊢;clear hv4 hbz HG3 HB3 HR3;refine Tk 0 42 ?_;refine Tk 1 43 ?_;refine Tk 2 44 ?_;refine Tk 3 45 ?_;refine Tk 5 47 ?_;refine Tk 6 48 ?_;refine Tc 4 (fun K hK=>?_);go_simp
    refine (bad_any HGT.out.1.at_).mono ?_;rintro e v5 ⟨rfl,rfl⟩;clear hHeld;refine Th hK ?_ (fun hHeld=>?_)
    ·exact⟨HGT.out.cell (p:=⟨j,0,none⟩) (v:=.slice Aq mq cq) (by simp),HGT.out.cell (p:=⟨j,1,none⟩) (v:=.bool b2) (by simp)⟩
    clear hK K;refine Tk 7 49 ?_;refine Tk 8 50 ?_;refine Tk 9 51 ?_;refine Tk 10 52 ?_;refine Tk 12 54 ?_;refine Tk 13 55 ?_;refine Tk 14 56 ?_;refine Tc 11 (fun K hK=>?_);go_simp;refine (left_any HGT.out.1.at_).mono ?_;rw[HMQ.out];rintro e v5 ⟨rfl,rfl⟩;clear hHeld;refine Th hK ?_ (fun hHeld=>?_)
    ·exact⟨HGT.out.cell (p:=⟨j,0,none⟩) (v:=.slice Aq mq cq) (by simp),HGT.out.cell (p:=⟨j,1,none⟩) (v:=.bool b2) (by simp)⟩
    clear hK K;refine Tk 15 57 ?_;refine Tk 16 58 ?_;refine Tk 17 59 ?_;refine Tk 18 60 ?_;refine Tk 20 62 ?_;refine Tc 19 (fun K hK=>?_);go_simp;refine (done_any HGT.out.1.at_).mono ?_;rw[HZ.out];rintro e v5 ⟨rfl,rfl⟩;clear hHeld;refine Th hK ?_ (fun hHeld=>?_)
    ·exact⟨HGT.out.cell (p:=⟨j,0,none⟩) (v:=.slice Aq mq cq) (by simp),HGT.out.cell (p:=⟨j,1,none⟩) (v:=.bool b2) (by simp)⟩
    clear hK K;refine Tc 21 (fun K hK=>?_);go_simp;refine (rdone_any mq Aq cq b2 v4).mono ?_;rw[HZ2.out];rintro e v6 ⟨rfl,hb9⟩;have HGU:=Lib.hid (HGT.out.later hb9);have HBU:=Lib.hid (HBT.out.trans (hb9.mono (by have h1:=HGT.out.2.size;omega)));have HRU:Hid (Rd v6 B 1 Aq mq cq (u8s r2)):=HRT.out.below (hb9.mono (by have h1:=HGT.out.2.size;omega));clear hb9;clear hHeld;refine Th hK ?_ (fun hHeld=>?_)
    ·exact⟨HGU.out.cell (p:=⟨j,0,none⟩) (v:=.slice Aq mq cq) (by simp),HGU.out.cell (p:=⟨j,1,none⟩) (v:=.bool b2) (by simp)⟩
    clear hK K;refine Tk 22 64 ?_;refine Tk 23 65 ?_;refine wpAnyH_done (by kernel_rfl) ?_ _;clear hHeld e1 e2' e3;have k0:=HGU.out.cell (p:=⟨j,0,none⟩) (v:=.slice Aq mq cq) (by simp);have k1:=HGU.out.cell (p:=⟨j,1,none⟩) (v:=.bool b2) (by simp);have k2:=HGU.out.cell (p:=⟨g,0,none⟩) (v:=.slice A2 m2 e2) (by simp);have k3:=HGU.out.cell (p:=⟨g,1,none⟩) (v:=.bool b) (by simp);have f0:=(HGU.out.1.free g (by simp)).1.2 0;have f1:=(HGU.out.1.free g (by simp)).1.2 1;obtain⟨V7,hV7⟩:∃ W,W=(v6.setCell ⟨g,0,none⟩ (.slice Aq mq cq)).setCell ⟨g,1,none⟩ (.bool b2):=⟨_,rfl⟩
    have HI7:Hid (InC V7 [(⟨g,0,none⟩,.slice Aq mq cq),(⟨g,1,none⟩,.bool b2)] [g] a r2 b2):=by
     have hk:∀ i,i≤a→V7.heap[i]?=v6.heap[i]?:=fun i hi=>by
      rw[hV7];exact (Below.heap_setCell _ ⟨g,1,none⟩ _ i (by dsimp only;omega)).trans (Below.heap_setCell _ ⟨g,0,none⟩ _ i (by dsimp only;omega))
     refine⟨HGU.out.1.at_.keepx hk,fun x hx=>?_,fun q hq=>?_⟩
     ·simp only[List.mem_cons,List.not_mem_nil,or_false]at hx
      have hsz:V7.heap.size=v6.heap.size:=by rw[hV7];simp[World.setCell]
      have hg6:g<v6.heap.size:=(HGU.out.1.free g (by simp)).1.1
      rcases hx with rfl | rfl <;> exact⟨by dsimp only;omega,by rw[hV7];go_simp,by dsimp only;omega⟩
     ·rw[List.mem_singleton.1 hq]
      refine⟨?_,by omega⟩;rw[hV7];exact ((HGU.out.1.free g (by simp)).1.set _ _).set _ _
    have HR7:Hid (Rd V7 B 1 Aq mq cq (u8s r2)):=by unfold Hid;rw[hV7];exact (HRU.out.setCell (p:=⟨g,0,none⟩) hBg _).setCell (p:=⟨g,1,none⟩) hBg _
    have HB7:Hid (Below B WI V7):=by unfold Hid;rw[hV7];exact (HBU.out.setCell (p:=⟨g,0,none⟩) hBg _).setCell (p:=⟨g,1,none⟩) hBg _
    have HV7:=Lib.hid hV7;clear hV7 HGU HRU HBU;go_wp2_with fail;rw[← HV7.out];go_roundw
    case rel=>exact⟨k+1,r2,b2,Aq,mq,cq,by go_num,by omega,HI7,HMQ,HR7,HMQ9,HB7⟩
    case measure=>simp[intOf];omega
  ·have HBE:=Lib.hid (HBF.out _ HB.out)
   go_wp2;go_ret;exact⟨rfl,HBE.out⟩
set_option maxRecDepth 100000 in
theorem lifted (os:Os) (started:os.Started) (H:Type) (enc:TypeId×Value→H) :
  ReturnsInHanded {} Tryz.checked os 4 .any (Rows.packGetsSpec.pre6 enc Tryz.prog Tryz.f4 Rows.packGetsRow.domain false) (Rows.packGetsSpec.post enc Tryz.prog Tryz.f4 false true false false):=by
 refine returnsInHanded_of_change_sized (C:=Tryz.checked) own started (by kernel_rfl) Tryz.func4
  (ChangeSpec.witness6 (enc:=enc) (C:=Tryz.checked) false ⟨#[],#[.slice none 0 0,.slice none 0 0],[]⟩ 8 (by kernel_rfl) (by kernel_rfl) (by kernel_rfl) (by kernel_rfl)) ?_
 intro W base args ds gs before hval0 hW _ hsz0 _;have hval:∀ (j:Nat) t v,Tryz.f4.params[j]?=some t→args[j]?=some v→Value.okWide Tryz.prog W .any base t v:=hval0;have hW':=hW;obtain⟨p,q,hA0,hV,rfl,hfz,hnd⟩:=hW;have hA:DataW.TrodAll enc Tryz.prog W 0 (fun _=>true) true Tryz.f4.params.toList args.toList ds p:=hA0;rw[Tryz.params4]at hA hval;obtain⟨v0,v1,d0,d1,p0,p1,rfl,rfl,rfl,h0,h1⟩:=trodAll_two hA;obtain⟨rfl,rfl⟩:=trodVars_none hV;obtain⟨A0,n0,c0,rfl⟩:=okWide_slice Tryz.underlying25 (hval 0 25 v0 rfl rfl);obtain⟨f0,hf0⟩:=h0;obtain⟨bs0,hl0,hr0,_⟩:=bytes_of_trod hf0;obtain⟨A1,n1,c1,rfl⟩:=okWide_slice Tryz.underlying25 (hval 1 25 v1 rfl rfl);obtain⟨f1,hf1⟩:=h1;obtain⟨bs1,hl1,hr1,_⟩:=bytes_of_trod hf1
 refine (walk_any bs0 n0 A0 c0 bs1 n1 A1 c1 W hl0 hr0 hl1 hr1).mono fun e W' ⟨he,hb⟩=>?_;subst he;exact⟨_,rfl,law_post hW' (by kernel_rfl) rfl rfl rfl hb⟩
theorem proved:Rows.PackGetsSaid:=
 OpenClaim.holds_of_wide 4 Tryz.f4 rfl rfl rfl rfl rfl rfl rfl ⟨rfl,rfl,rfl,rfl,rfl⟩ rfl rfl rfl rfl rfl (by kernel_rfl) Tryz.func4 (by kernel_rfl)
  (of_decide_eq_true (by kernel_rfl)) (by unfold Func.isWrapper;first | (rw[if_pos (by decide +kernel)];kernel_rfl) | (rw[if_neg (by decide +kernel)];exact⟨rfl,rfl⟩))
  (fun os started H enc _=>lifted os started H enc)
#print axioms proved
end lawPackGets
end Go.Proofs.YtcbpgemiffmieaaGreat
