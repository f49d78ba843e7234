/- Maps: Update: the program's. -/
import Derived.Test.YtjpcechcefhcfaaGreatG00
import Derived.Test.YtjpcechcefhcfaaGreatG1660
import Derived.Test.YtjpcechcefhcfaaGreatCauMore
import Derived.Test.YtjpcechcefhcfaaGreatG10
namespace Go.Proofs.YtjpcechcefhcfaaGreat
open Go.ChangeShapes Go.WideShapes Go.ChangeAt Go.RowKit
namespace Cs
open Tr Cx Sp Rw Classical
theorem boxTCC (w:World) (Ae Ak De Dk Dc:Option Addr) (ne nk ce ck de1 de2 dk1 dk2 dc1 dc2:Nat):∃ (W:World) (p q r:Nat),Hid (W=(((w.alloc (.cells #[.slice Ae ne ce,.slice Ak nk ck] 25)).alloc (.cells #[.slice De de1 de2,.slice Dk dk1 dk2,.slice Dc dc1 dc2] 29)).alloc (.cells #[.slice none 0 0,.slice none 0 0,.slice none 0 0] 29)))∧Hid (p=w.heap.size)∧Hid (q=p+1)∧Hid (r=p+1+1)∧Hid (Kept [(⟨p,0,none⟩,.slice Ae ne ce),(⟨p,1,none⟩,.slice Ak nk ck),(⟨q,0,none⟩,.slice De de1 de2),(⟨q,1,none⟩,.slice Dk dk1 dk2),(⟨q,2,none⟩,.slice Dc dc1 dc2)] w W)∧Hid (Kept [(⟨r,0,none⟩,.slice none 0 0),(⟨r,1,none⟩,.slice none 0 0),(⟨r,2,none⟩,.slice none 0 0)] w W)∧Hid (Free r W):=by
 refine⟨_,_,_,_,rfl,rfl,rfl,rfl,?_,?_,⟨by simp,fun j=>by go_simp⟩⟩
 ·have h0:=Kept.nil_of (box3_below w #[.slice Ae ne ce,.slice Ak nk ck] #[.slice De de1 de2,.slice Dk dk1 dk2,.slice Dc dc1 dc2] #[.slice none 0 0,.slice none 0 0,.slice none 0 0] 25 29 29)
  refine ((((h0.cons_of ?_).cons_of ?_).cons_of ?_).cons_of ?_).cons_of ?_ <;> go_simp
 ·have h0:=Kept.nil_of (box3_below w #[.slice Ae ne ce,.slice Ak nk ck] #[.slice De de1 de2,.slice Dk dk1 dk2,.slice Dc dc1 dc2] #[.slice none 0 0,.slice none 0 0,.slice none 0 0] 25 29 29)
  refine ((h0.cons_of ?_).cons_of ?_).cons_of ?_ <;> go_simp
set_option maxRecDepth 100000 in
set_option maxHeartbeats 4000000 in
theorem update_any (t:T) (Ae Ak:Option Addr) (ne nk ce ck:Nat) (key:ByteArray) (kd:K) (De Dk Dc:Option Addr) (de1 de2 dk1 dk2 dc1 dc2:Nat) (w:World) (hl:LenT reachBytes t) (hn:nodes t≤1000) (hr:RdT w w.heap.size t ⟨Ae,ne,ce⟩ ⟨Ak,nk,ck⟩) (hld:LenT reachBytes kd.1) (hnd:nodes kd.1≤1000) (hdc:dc1≤1000) (hrd:RdP w ⟨kd,⟨De,de1,de2⟩,⟨Dk,dk1,dk2⟩,⟨Dc,dc1,dc2⟩⟩) :
  Calls Tryz.prog 11 #[.agg #[.slice Ae ne ce,.slice Ak nk ck],.string key,.agg #[.slice De de1 de2,.slice Dk dk1 dk2,.slice Dc dc1 dc2]] w (CausErr (updK t key kd) (updE t key kd) w):=by
 obtain⟨z,hz⟩:∃ z,updE t key kd=z:=⟨_,rfl⟩;obtain⟨k9,hk9⟩:∃ k,updK t key kd=k:=⟨_,rfl⟩;rw[hz,hk9];obtain⟨W,p,q,r,HW,HP,HQ,HR0,HKc,HKR,HFR⟩:=boxTCC w Ae Ak De Dk Dc ne nk ce ck de1 de2 dk1 dk2 dc1 dc2
 have hwr:w.heap.size≤r:=by have:=HP.out;have:=HR0.out;omega
 have hpr:p<r:=by have:=HP.out;have:=HR0.out;omega
 have hqr:q<r:=by have:=HQ.out;have:=HR0.out;omega
 have R:=Lib.hid (RdT.later hr HKc.out.below);have RD:=Lib.hid (RdP.later hrd HKc.out.below);have N:=Lib.hid (And.intro hl hn);have ND:=Lib.hid (And.intro hld (And.intro hnd hdc));have HZ:=Lib.hid hz;have HK9:=Lib.hid hk9;obtain⟨y1,hy1⟩:∃ y,Tr.rightB 5 t=y:=⟨_,rfl⟩;obtain⟨y2,hy2⟩:∃ y,rightKB kd=y:=⟨_,rfl⟩;have HY1:=Lib.hid hy1;have HY2:=Lib.hid hy2;clear hl hn hr hld hnd hdc hrd hz hk9 hy1 hy2;obtain⟨c0,c1,c2,c3,c4,-⟩:=HKc.out.cj;go_enter Tryz.func11,Tryz.ntmps11;go_wp2_with fail;rw[← HW.out,← HP.out]
 try rw[← HR0.out]
 try rw[← HQ.out]
 refine (rightT_any t Ae Ak ne nk ce ck W N.out.1 R.out).mono ?_;rw[HY1.out];rintro e v1 ⟨rfl,hb9⟩;have HKc:=Lib.hid (HKc.out.later hb9);have R:=Lib.hid (RdT.later R.out hb9);have RD:=Lib.hid (RD.out.later hb9);have HKR:=Lib.hid (HKR.out.later hb9);have HFR:=Lib.hid (HFR.out.later hb9);clear hb9;clear c0 c1 c2 c3 c4
 cases y1 with
 | false=>
  have hz1:z=1:=by rw[← HZ.out];exact updE_bad (.inl HY1.out)
  obtain rfl:=hz1
  obtain rfl:k9=noneK:=by rw[← HK9.out];exact upd_not (by rw[HZ.out];omega)
  obtain⟨z0,z1,z2,-⟩:=HKR.out.cj;have m0:=HFR.out.2 0;have m1:=HFR.out.2 1;have m2:=HFR.out.2 2;obtain⟨W9,hW9⟩:∃ W,W=((v1.setCell ⟨r,0,none⟩ (.slice none 0 0)).setCell ⟨r,1,none⟩ (.slice none 0 0)).setCell ⟨r,2,none⟩ (.slice none 0 0):=⟨_,rfl⟩
  have HB9:Hid (Below w.heap.size w W9):=by
   unfold Hid;rw[hW9];exact ((HKc.out.below.setCell (p:=⟨r,0,none⟩) hwr _).setCell (p:=⟨r,1,none⟩) hwr _).setCell (p:=⟨r,2,none⟩) hwr _
  have l0:W9.cell? ⟨r,0,none⟩=some (.slice none 0 0):=by rw[hW9];go_simp
  have l1:W9.cell? ⟨r,1,none⟩=some (.slice none 0 0):=by rw[hW9];go_simp
  have l2:W9.cell? ⟨r,2,none⟩=some (.slice none 0 0):=by rw[hW9];go_simp
  have HW9:=Lib.hid hW9;clear hW9;go_wp2_with fail;rw[← HW9.out];refine bodyPost_ret (v:=.tuple #[.agg #[.slice none 0 0,.slice none 0 0,.slice none 0 0],.int .i64 1]) (by simp[results,Tryz.results11,go_sem,l0,l1,l2]) rfl ⟨none,0,0,none,0,0,none,0,0,rfl,OwC.no _ _,HB9.out⟩
 | true=>
  obtain⟨c0,c1,c2,c3,c4,-⟩:=HKc.out.cj;go_wp2_with fail;refine (rightK_any kd.1 kd.2 De Dk Dc de1 dk1 de2 dk2 dc1 dc2 v1 ND.out.2.1 RD.out.len ND.out.2.2 RD.out.tree RD.out.ctx).mono ?_;rw[show rightKB (kd.1,kd.2)=y2 from HY2.out];rintro e v2 ⟨rfl,hb9⟩;have HKc:=Lib.hid (HKc.out.later hb9);have R:=Lib.hid (RdT.later R.out hb9);have RD:=Lib.hid (RD.out.later hb9);have HKR:=Lib.hid (HKR.out.later hb9);have HFR:=Lib.hid (HFR.out.later hb9);clear hb9;clear c0 c1 c2 c3 c4
  cases y2 with
  | false=>
   have hz1:z=1:=by rw[← HZ.out];exact updE_bad (.inr (.inl HY2.out))
   obtain rfl:=hz1
   obtain rfl:k9=noneK:=by rw[← HK9.out];exact upd_not (by rw[HZ.out];omega)
   obtain⟨z0,z1,z2,-⟩:=HKR.out.cj;have m0:=HFR.out.2 0;have m1:=HFR.out.2 1;have m2:=HFR.out.2 2;obtain⟨W9,hW9⟩:∃ W,W=((v2.setCell ⟨r,0,none⟩ (.slice none 0 0)).setCell ⟨r,1,none⟩ (.slice none 0 0)).setCell ⟨r,2,none⟩ (.slice none 0 0):=⟨_,rfl⟩
   have HB9:Hid (Below w.heap.size w W9):=by
    unfold Hid;rw[hW9];exact ((HKc.out.below.setCell (p:=⟨r,0,none⟩) hwr _).setCell (p:=⟨r,1,none⟩) hwr _).setCell (p:=⟨r,2,none⟩) hwr _
   have l0:W9.cell? ⟨r,0,none⟩=some (.slice none 0 0):=by rw[hW9];go_simp
   have l1:W9.cell? ⟨r,1,none⟩=some (.slice none 0 0):=by rw[hW9];go_simp
   have l2:W9.cell? ⟨r,2,none⟩=some (.slice none 0 0):=by rw[hW9];go_simp
   have HW9:=Lib.hid hW9;clear hW9;go_wp2_with fail;rw[← HW9.out];refine bodyPost_ret (v:=.tuple #[.agg #[.slice none 0 0,.slice none 0 0,.slice none 0 0],.int .i64 1]) (by simp[results,Tryz.results11,go_sem,l0,l1,l2]) rfl ⟨none,0,0,none,0,0,none,0,0,rfl,OwC.no _ _,HB9.out⟩
  | true=>
   obtain⟨e1,he1⟩:∃ x,wrapE kd.1 [key]=x:=⟨_,rfl⟩;have HE1:=Lib.hid he1;clear he1;obtain⟨c0,c1,c2,c3,c4,-⟩:=HKc.out.cj;obtain⟨gs,hgs⟩:∃ g,g=v2.heap.size:=⟨_,rfl⟩;obtain⟨v3,hv3⟩:∃ W,W=v2.alloc (.cells #[.string key] 9):=⟨_,rfl⟩
   have hb9:Below v2.heap.size v2 v3:=by rw[hv3];exact Dt.box_below _ _ _
   have HKc:=Lib.hid (HKc.out.later hb9);have R:=Lib.hid (RdT.later R.out hb9);have RD:=Lib.hid (RD.out.later hb9);have HKR:=Lib.hid (HKR.out.later hb9);have HFR:=Lib.hid (HFR.out.later hb9);clear hb9
   have RS:Hid (Rd v3 v3.heap.size 1 (some ⟨gs,0,none⟩) 1 1 (strs [key])):=by unfold Hid;rw[hv3,hgs];exact rd_one1 _ _
   have Hgs:=Lib.hid hgs;have Hv3:=Lib.hid hv3;clear hgs hv3;go_wp2_with fail;rw[← Hgs.out,← Hv3.out];refine (wrap_any kd.1 De Dk de1 dk1 de2 dk2 [key] (some ⟨gs,0,none⟩) 1 1 v3 rfl (by omega) RS.out ND.out.1 (by have:=ND.out.2.1;omega) RD.out.tree).mono ?_;rw[HE1.out];rintro e v4 ⟨We,wn,wc,Wk,wm,wd,rfl,ho,hb9⟩;have HRT:Hid (RdO v4 (fun b=>r<b) (wrapR kd.1 [key]) ⟨We,wn,wc⟩ ⟨Wk,wm,wd⟩):=RdO.mono (fun b hb _=>Nat.lt_of_lt_of_le HFR.out.1 hb) _ ho;clear ho;have HKc:=Lib.hid (HKc.out.later hb9);have R:=Lib.hid (RdT.later R.out hb9);have RD:=Lib.hid (RD.out.later hb9);have HKR:=Lib.hid (HKR.out.later hb9);have HFR:=Lib.hid (HFR.out.later hb9);have RS:=Lib.hid (RS.out.later hb9);clear hb9;clear c0 c1 c2 c3 c4;clear RS;have hrs:=HFR.out.1;obtain⟨b,hb⟩:∃ g,g=v4.heap.size:=⟨_,rfl⟩;obtain⟨v5,hv5⟩:∃ W,W=v4.alloc (.cells #[.slice We wn wc,.slice Wk wm wd] 25):=⟨_,rfl⟩
   have hb9:Below v4.heap.size v4 v5:=by rw[hv5];exact Dt.box_below _ _ _
   have b0:v5.cell? ⟨b,0,none⟩=some (.slice We wn wc):=by rw[hv5,hb];go_simp
   have b1:v5.cell? ⟨b,1,none⟩=some (.slice Wk wm wd):=by rw[hv5,hb];go_simp
   have HKc:=Lib.hid (HKc.out.later hb9);have R:=Lib.hid (RdT.later R.out hb9);have RD:=Lib.hid (RD.out.later hb9);have HKR:=Lib.hid (HKR.out.later hb9);have HFR:=Lib.hid (HFR.out.later hb9);have HRT:=Lib.hid (RdO.later HRT.out hb9);clear hb9;have HKc:=Lib.hid ((HKc.out.cons_of b1).cons_of b0);have Hb:=Lib.hid hb;have Hv5:=Lib.hid hv5;clear hb hv5 b0 b1
   have HRB:Hid (r<b):=by unfold Hid;rw[Hb.out];exact hrs
   clear hrs;have HE3:=Lib.hid (wrapE_three kd.1 [key]);rw[HE1.out]at HE3;have he3:=HE3.out;clear HE3
   rcases he3 with rfl | rfl | rfl
   ·obtain⟨y3,hy3⟩:∃ y,mroomB t key kd.1=y:=⟨_,rfl⟩
    have HY3:=Lib.hid hy3;clear hy3;obtain⟨c0,c1,c2,c3,c4,c5,c6,-⟩:=HKc.out.cj;rw[Hv5.out]at c0 c1 c2 c3 c4 c5 c6;rw[Hb.out]at c0 c1;go_wp2_with fail;rw[← Hb.out,← Hv5.out];refine (mroom_any t Ae Ak ne nk ce ck kd.1 De Dk de1 dk1 de2 dk2 key v5 y3 HY3.out (Tr.rightB_iff.1 HY1.out) N.out.1 N.out.2 R.out RD.out.tree).mono ?_;rintro e v6 ⟨rfl,hb9⟩;have HKc:=Lib.hid (HKc.out.later hb9);have R:=Lib.hid (RdT.later R.out hb9);have RD:=Lib.hid (RD.out.later hb9);have HKR:=Lib.hid (HKR.out.later hb9);have HFR:=Lib.hid (HFR.out.later hb9);have HRT:=Lib.hid (RdO.later HRT.out hb9);clear hb9;clear c0 c1 c2 c3 c4 c5 c6
    cases y3 with
    | false=>
     have hz1:z=4:=by rw[← HZ.out];rw[updE_of HY1.out HY2.out HE1.out (by omega),HY3.out];rfl
     obtain rfl:=hz1
     obtain rfl:k9=noneK:=by rw[← HK9.out];exact upd_not (by rw[HZ.out];omega)
     obtain⟨z0,z1,z2,-⟩:=HKR.out.cj;have m0:=HFR.out.2 0;have m1:=HFR.out.2 1;have m2:=HFR.out.2 2;obtain⟨W9,hW9⟩:∃ W,W=((v6.setCell ⟨r,0,none⟩ (.slice none 0 0)).setCell ⟨r,1,none⟩ (.slice none 0 0)).setCell ⟨r,2,none⟩ (.slice none 0 0):=⟨_,rfl⟩
     have HB9:Hid (Below w.heap.size w W9):=by
      unfold Hid;rw[hW9];exact ((HKc.out.below.setCell (p:=⟨r,0,none⟩) hwr _).setCell (p:=⟨r,1,none⟩) hwr _).setCell (p:=⟨r,2,none⟩) hwr _
     have l0:W9.cell? ⟨r,0,none⟩=some (.slice none 0 0):=by rw[hW9];go_simp
     have l1:W9.cell? ⟨r,1,none⟩=some (.slice none 0 0):=by rw[hW9];go_simp
     have l2:W9.cell? ⟨r,2,none⟩=some (.slice none 0 0):=by rw[hW9];go_simp
     have HW9:=Lib.hid hW9;clear hW9;go_wp2_with fail;rw[← HW9.out];refine bodyPost_ret (v:=.tuple #[.agg #[.slice none 0 0,.slice none 0 0,.slice none 0 0],.int .i64 4]) (by simp[results,Tryz.results11,go_sem,l0,l1,l2]) rfl ⟨none,0,0,none,0,0,none,0,0,rfl,OwC.no _ _,HB9.out⟩
    | true=>
     have hz1:z=0:=by rw[← HZ.out,updE_of HY1.out HY2.out HE1.out (by omega),HY3.out];rfl
     obtain rfl:=hz1
     obtain rfl:k9=(wrapR kd.1 [key],kd.2):=by rw[← HK9.out];exact (upd_ok HZ.out).2.2.2
     have hrb:r<b:=HRB.out;obtain⟨c0,c1,c2,c3,c4,c5,c6,-⟩:=HKc.out.cj;go_wp2_with fail;clear c0 c1 c2 c3 c4 c5 c6;refine wp_region_held_drew (S:=Conj _) (by kernel_rfl) HKc.out.drew.cj (fun hHeld=>?_);obtain⟨v7,hv7⟩:∃ v,v=v6.drew:=⟨_,rfl⟩
     have hb9:Below v6.heap.size v6 v7:=by rw[hv7];exact (Below.refl _ _).drew
     have HKc:=Lib.hid (HKc.out.later hb9);have R:=Lib.hid (RdT.later R.out hb9);have RD:=Lib.hid (RD.out.later hb9);have HKR:=Lib.hid (HKR.out.later hb9);have HFR:=Lib.hid (HFR.out.later hb9);have HRT:=Lib.hid (RdO.later HRT.out hb9);clear hb9;rw[← hv7]at hHeld ⊢;clear hv7;refine Tk 0 41 ?_;refine Tk 1 42 ?_;refine Tc 2 (fun K hK=>?_);go_simp;(go_at_call 40;refine (cloneK_any kd.1 kd.2 De Dk Dc de1 dk1 de2 dk2 dc1 dc2 v7 ND.out.2.1 RD.out.len ND.out.2.2 RD.out.tree RD.out.ctx).mono ?_);rintro e v8 ⟨Xe,xe1,xe2,Xk,xk1,xk2,Xc,xc1,xc2,rfl,how,hb9⟩;rw[show rightKB (kd.1,kd.2)=true from HY2.out,if_pos rfl]at how;have HRX:Hid (kd.2.length=xc1∧RO v8 (fun b=>r<b) 3 Xc xc1 xc2 (spsC kd.2)):=⟨how.len,how.ctx.mono fun b hb _=>Nat.lt_of_lt_of_le HFR.out.1 hb⟩;clear how;have HKc:=Lib.hid (HKc.out.later hb9);have R:=Lib.hid (RdT.later R.out hb9)
     have RD:=Lib.hid (RD.out.later hb9);have HKR:=Lib.hid (HKR.out.later hb9);have HFR:=Lib.hid (HFR.out.later hb9);have HRT:=Lib.hid (RdO.later HRT.out hb9);clear hb9
     have hfd:∀ w:World,(Instr.field 29 (.agg #[.slice Xe xe1 xe2,.slice Xk xk1 xk2,.slice Xc xc1 xc2]) 1).run Tryz.prog w = .ok (.slice Xc xc1 xc2) w:=fun _=>by kernel_rfl
     obtain⟨z0,z1,z2,-⟩:=HKR.out.cj;have m0:=HFR.out.2 0;have m1:=HFR.out.2 1;have m2:=HFR.out.2 2;clear hHeld;refine Th hK ?_ (fun hHeld=>?_)
     ·exact HKc.out.cj
     clear hK K;refine Tk 3 44 ?_;refine Tk 4 45 ?_;refine Tc 5 (fun K hK=>?_);go_simp;refine Th hK ?_ (fun hHeld2=>?_)
     ·(try dsimp only)
      have h9:=HKc.out.st3 (g:=r) hwr (fun x hx=>by simp at hx;rcases hx with rfl | rfl | rfl | rfl | rfl | rfl | rfl <;> (dsimp only;omega)) (.slice We wn wc) (.slice Wk wm wd) (.slice Xc xc1 xc2)
      exact h9.cj
     clear hK K hHeld;have hHeld:=hHeld2;clear hHeld2;refine Tk 6 7 ?_;refine wpAnyH_done (by kernel_rfl) ?_ _;clear hHeld;obtain⟨z0,z1,z2,-⟩:=HKR.out.cj;have m0:=HFR.out.2 0;have m1:=HFR.out.2 1;have m2:=HFR.out.2 2;obtain⟨W9,hW9⟩:∃ W,W=((v8.setCell ⟨r,0,none⟩ (.slice We wn wc)).setCell ⟨r,1,none⟩ (.slice Wk wm wd)).setCell ⟨r,2,none⟩ (.slice Xc xc1 xc2):=⟨_,rfl⟩
     have HB9:Hid (Below w.heap.size w W9):=by
      unfold Hid;rw[hW9];exact ((HKc.out.below.setCell (p:=⟨r,0,none⟩) hwr _).setCell (p:=⟨r,1,none⟩) hwr _).setCell (p:=⟨r,2,none⟩) hwr _
     have HO9:Hid (OwC W9 w.heap.size (wrapR kd.1 [key],kd.2) We wn wc Wk wm wd Xc xc1 xc2):=by
      unfold Hid;rw[hW9];exact⟨RdO.mono (fun b hb _=>Nat.le_trans hwr (Nat.le_of_lt hb)) _ (RdO.keep (by rw[cells3];exact Nat.le_refl _) (fun b hb _=>cells3_at b (by omega)) _ HRT.out),HRX.out.1,(HRX.out.2.keep (by rw[cells3];exact Nat.le_refl _) (fun b hb _=>cells3_at b (by omega))).mono fun b hb _=>Nat.le_trans hwr (Nat.le_of_lt hb)⟩
     have l0:W9.cell? ⟨r,0,none⟩=some (.slice We wn wc):=by rw[hW9];go_simp
     have l1:W9.cell? ⟨r,1,none⟩=some (.slice Wk wm wd):=by rw[hW9];go_simp
     have l2:W9.cell? ⟨r,2,none⟩=some (.slice Xc xc1 xc2):=by rw[hW9];go_simp
     have HW9:=Lib.hid hW9;clear hW9 z0 z1 z2 m0 m1 m2;rw[← HW9.out];go_wp2_with fail;refine bodyPost_ret (v:=.tuple #[.agg #[.slice We wn wc,.slice Wk wm wd,.slice Xc xc1 xc2],.int .i64 0]) (by simp[results,Tryz.results11,go_sem,l0,l1,l2]) rfl ⟨We,wn,wc,Wk,wm,wd,Xc,xc1,xc2,rfl,HO9.out,HB9.out⟩
   ·have c0:=HKc.out.c0
    have c1:=HKc.out.c1;have c2:=HKc.out.c2;have c3:=HKc.out.c3;have c4:=HKc.out.c4;have c5:=HKc.out.c5;have c6:=HKc.out.c6;rw[Hv5.out]at c0 c1 c2 c3 c4 c5 c6;rw[Hb.out]at c0 c1
    have hz1:z=1:=by rw[← HZ.out];exact updE_bad (.inr (.inr HE1.out))
    obtain rfl:=hz1
    obtain rfl:k9=noneK:=by rw[← HK9.out];exact upd_not (by rw[HZ.out];omega)
    obtain⟨z0,z1,z2,-⟩:=HKR.out.cj;have m0:=HFR.out.2 0;have m1:=HFR.out.2 1;have m2:=HFR.out.2 2;obtain⟨W9,hW9⟩:∃ W,W=((v5.setCell ⟨r,0,none⟩ (.slice none 0 0)).setCell ⟨r,1,none⟩ (.slice none 0 0)).setCell ⟨r,2,none⟩ (.slice none 0 0):=⟨_,rfl⟩
    have HB9:Hid (Below w.heap.size w W9):=by
     unfold Hid;rw[hW9];exact ((HKc.out.below.setCell (p:=⟨r,0,none⟩) hwr _).setCell (p:=⟨r,1,none⟩) hwr _).setCell (p:=⟨r,2,none⟩) hwr _
    have l0:W9.cell? ⟨r,0,none⟩=some (.slice none 0 0):=by rw[hW9];go_simp
    have l1:W9.cell? ⟨r,1,none⟩=some (.slice none 0 0):=by rw[hW9];go_simp
    have l2:W9.cell? ⟨r,2,none⟩=some (.slice none 0 0):=by rw[hW9];go_simp
    have HW9:=Lib.hid hW9;clear hW9;rw[Hv5.out]at z0 z1 z2 m0 m1 m2;go_wp2_with fail;rw[← Hb.out,← Hv5.out];rw[← HW9.out];refine bodyPost_ret (v:=.tuple #[.agg #[.slice none 0 0,.slice none 0 0,.slice none 0 0],.int .i64 1]) (by simp[results,Tryz.results11,go_sem,l0,l1,l2]) rfl ⟨none,0,0,none,0,0,none,0,0,rfl,OwC.no _ _,HB9.out⟩
   ·obtain⟨y3,hy3⟩:∃ y,mroomB t key kd.1=y:=⟨_,rfl⟩
    have HY3:=Lib.hid hy3;clear hy3;obtain⟨c0,c1,c2,c3,c4,c5,c6,-⟩:=HKc.out.cj;rw[Hv5.out]at c0 c1 c2 c3 c4 c5 c6;rw[Hb.out]at c0 c1;go_wp2_with fail;rw[← Hb.out,← Hv5.out];refine (mroom_any t Ae Ak ne nk ce ck kd.1 De Dk de1 dk1 de2 dk2 key v5 y3 HY3.out (Tr.rightB_iff.1 HY1.out) N.out.1 N.out.2 R.out RD.out.tree).mono ?_;rintro e v6 ⟨rfl,hb9⟩;have HKc:=Lib.hid (HKc.out.later hb9);have R:=Lib.hid (RdT.later R.out hb9);have RD:=Lib.hid (RD.out.later hb9);have HKR:=Lib.hid (HKR.out.later hb9);have HFR:=Lib.hid (HFR.out.later hb9);have HRT:=Lib.hid (RdO.later HRT.out hb9);clear hb9;clear c0 c1 c2 c3 c4 c5 c6
    cases y3 with
    | false=>
     have hz1:z=4:=by rw[← HZ.out];rw[updE_of HY1.out HY2.out HE1.out (by omega),HY3.out];rfl
     obtain rfl:=hz1
     obtain rfl:k9=noneK:=by rw[← HK9.out];exact upd_not (by rw[HZ.out];omega)
     obtain⟨z0,z1,z2,-⟩:=HKR.out.cj;have m0:=HFR.out.2 0;have m1:=HFR.out.2 1;have m2:=HFR.out.2 2;obtain⟨W9,hW9⟩:∃ W,W=((v6.setCell ⟨r,0,none⟩ (.slice none 0 0)).setCell ⟨r,1,none⟩ (.slice none 0 0)).setCell ⟨r,2,none⟩ (.slice none 0 0):=⟨_,rfl⟩
     have HB9:Hid (Below w.heap.size w W9):=by
      unfold Hid;rw[hW9];exact ((HKc.out.below.setCell (p:=⟨r,0,none⟩) hwr _).setCell (p:=⟨r,1,none⟩) hwr _).setCell (p:=⟨r,2,none⟩) hwr _
     have l0:W9.cell? ⟨r,0,none⟩=some (.slice none 0 0):=by rw[hW9];go_simp
     have l1:W9.cell? ⟨r,1,none⟩=some (.slice none 0 0):=by rw[hW9];go_simp
     have l2:W9.cell? ⟨r,2,none⟩=some (.slice none 0 0):=by rw[hW9];go_simp
     have HW9:=Lib.hid hW9;clear hW9;go_wp2_with fail;rw[← HW9.out];refine bodyPost_ret (v:=.tuple #[.agg #[.slice none 0 0,.slice none 0 0,.slice none 0 0],.int .i64 4]) (by simp[results,Tryz.results11,go_sem,l0,l1,l2]) rfl ⟨none,0,0,none,0,0,none,0,0,rfl,OwC.no _ _,HB9.out⟩
    | true=>
     have hz1:z=10:=by rw[← HZ.out];rw[updE_of HY1.out HY2.out HE1.out (by omega),HY3.out];rfl
     obtain rfl:=hz1
     obtain rfl:k9=noneK:=by rw[← HK9.out];exact upd_not (by rw[HZ.out];omega)
     obtain⟨z0,z1,z2,-⟩:=HKR.out.cj;have m0:=HFR.out.2 0;have m1:=HFR.out.2 1;have m2:=HFR.out.2 2;obtain⟨W9,hW9⟩:∃ W,W=((v6.setCell ⟨r,0,none⟩ (.slice none 0 0)).setCell ⟨r,1,none⟩ (.slice none 0 0)).setCell ⟨r,2,none⟩ (.slice none 0 0):=⟨_,rfl⟩
     have HB9:Hid (Below w.heap.size w W9):=by
      unfold Hid;rw[hW9];exact ((HKc.out.below.setCell (p:=⟨r,0,none⟩) hwr _).setCell (p:=⟨r,1,none⟩) hwr _).setCell (p:=⟨r,2,none⟩) hwr _
     have l0:W9.cell? ⟨r,0,none⟩=some (.slice none 0 0):=by rw[hW9];go_simp
     have l1:W9.cell? ⟨r,1,none⟩=some (.slice none 0 0):=by rw[hW9];go_simp
     have l2:W9.cell? ⟨r,2,none⟩=some (.slice none 0 0):=by rw[hW9];go_simp
     have HW9:=Lib.hid hW9;clear hW9;go_wp2_with fail;rw[← HW9.out];refine bodyPost_ret (v:=.tuple #[.agg #[.slice none 0 0,.slice none 0 0,.slice none 0 0],.int .i64 10]) (by simp[results,Tryz.results11,go_sem,l0,l1,l2]) rfl ⟨none,0,0,none,0,0,none,0,0,rfl,OwC.no _ _,HB9.out⟩
end Cs
end Go.Proofs.YtjpcechcefhcfaaGreat
