/- Proved: the law OrmapUpdates answers true for every tree, every text, everything known that can be handed in, and leaves its arguments as they were. Conditions: none. -/
import Derived.Test.YtjpcechcefhcfaaGreatG00
import Derived.Test.YtjpcechcefhcfaaGreatG170
import Derived.Test.YtjpcechcefhcfaaGreatG50
import Derived.Test.YtjpcechcefhcfaaGreatSetRef
import Derived.Test.YtjpcechcefhcfaaGreatG16660
import Derived.Test.YtjpcechcefhcfaaGreatTreeLeaves
import Derived.Test.YtjpcechcefhcfaaGreatG40
import Derived.Test.YtjpcechcefhcfaaGreatCauKit
open Go.ChangeShapes Go.WideShapes Go.ChangeAt Go.RowKit
namespace Go.Proofs.YtjpcechcefhcfaaGreat
namespace lawOrmapUpdates
open Tr Cx Cs Sp Rw Classical
theorem boxL (w:World) (Ae Ak:Option Addr) (ne nk ce ck:Nat) (De Dk Dc:Option Addr) (de1 de2 dk1 dk2 dc1 dc2:Nat):∃ (W:World) (p r:Nat),Hid (W=((w.alloc (.cells #[.slice Ae ne ce,.slice Ak nk ck] 25)).alloc (.cells #[.slice De de1 de2,.slice Dk dk1 dk2,.slice Dc dc1 dc2] 29)))∧Hid (p=w.heap.size)∧Hid (r=p+1)∧Hid (Kept [(⟨p,0,none⟩,.slice Ae ne ce),(⟨p,1,none⟩,.slice Ak nk ck),(⟨r,0,none⟩,.slice De de1 de2),(⟨r,1,none⟩,.slice Dk dk1 dk2),(⟨r,2,none⟩,.slice Dc dc1 dc2)] w W):=by
 refine⟨_,_,_,rfl,rfl,rfl,?_⟩;have h0:=Kept.nil_of (show Below w.heap.size w (((w.alloc (.cells #[.slice Ae ne ce,.slice Ak nk ck] 25)).alloc (.cells #[.slice De de1 de2,.slice Dk dk1 dk2,.slice Dc dc1 dc2] 29))) from ((Below.refl _ _).alloc (Nat.le_refl _) _).alloc (by simp) _)
 refine (((((h0).cons_of ?_).cons_of ?_).cons_of ?_).cons_of ?_).cons_of ?_ <;> go_simp
set_option maxRecDepth 100000 in
set_option maxHeartbeats 4000000 in
theorem walk_any (t:T) (Ae Ak:Option Addr) (ne nk ce ck:Nat) (tx:ByteArray) (kd:K) (De Dk Dc:Option Addr) (de1 de2 dk1 dk2 dc1 dc2:Nat) (w:World) (hr:RdT w w.heap.size t ⟨Ae,ne,ce⟩ ⟨Ak,nk,ck⟩) (hl:LenT reachBytes t) (hrd:RdP w ⟨kd,⟨De,de1,de2⟩,⟨Dk,dk1,dk2⟩,⟨Dc,dc1,dc2⟩⟩) (hld:LenT reachBytes kd.1) :
  Calls Tryz.prog 3 #[.agg #[.slice Ae ne ce,.slice Ak nk ck],.string tx,.agg #[.slice De de1 de2,.slice Dk dk1 dk2,.slice Dc dc1 dc2]] w fun e w'=>e = .returned (.bool true)∧Below w.heap.size w w':=by
 obtain⟨W,p,r,HW,HP,HR,HKc⟩:=boxL w Ae Ak ne nk ce ck De Dk Dc de1 de2 dk1 dk2 dc1 dc2;have HR0:=Lib.hid hr;have R:=Lib.hid (RdT.later hr HKc.out.below);have L:=Lib.hid hl;have RD:=Lib.hid (RdP.later hrd HKc.out.below);have LD:=Lib.hid hld;clear hrd hld;clear hr hl;obtain⟨c0,c1,c2,c3,c4,-⟩:=HKc.out.cj;go_enter Tryz.func3,Tryz.ntmps3;go_wp2_with fail;rw[← HW.out,← HP.out]
 try rw[← HR.out]
 refine (awake14 W).mono ?_;rintro e v1 ⟨rfl,hb9⟩;have HKc:=Lib.hid (HKc.out.later hb9);have R:=Lib.hid (RdT.later R.out hb9);have RD:=Lib.hid (RD.out.later hb9);clear hb9;clear c0 c1 c2 c3 c4;obtain⟨c0,c1,c2,c3,c4,-⟩:=HKc.out.cj;go_wp2_with fail;refine (small_tree t Ae Ak ne nk ce ck v1 L.out R.out).mono ?_;rintro e v2 ⟨b9,rfl,hsm,hb9⟩;have HKc:=Lib.hid (HKc.out.later hb9);have R:=Lib.hid (RdT.later R.out hb9);have RD:=Lib.hid (RD.out.later hb9);clear hb9;clear c0 c1 c2 c3 c4
 cases b9 with
 | false=>
  clear hsm;go_wp2_with fail;refine (awake14 _).mono ?_;rintro e v99 ⟨rfl,hb9⟩;have HKc:=Lib.hid (HKc.out.later hb9);clear hb9;go_wp2_with fail;go_ret;exact⟨by first | rfl | simp,HKc.out.below⟩
 | true=>
  have N:Hid (nodes t≤60):=hsm rfl;clear hsm;obtain⟨c0,c1,c2,c3,c4,-⟩:=HKc.out.cj;go_wp2_with fail;refine (smallK_any kd.1 De Dk Dc de1 dk1 de2 dk2 dc1 dc2 v2 LD.out RD.out.tree).mono ?_;rintro e v3 ⟨b8,rfl,hsm,hb9⟩;have HKc:=Lib.hid (HKc.out.later hb9);have R:=Lib.hid (RdT.later R.out hb9);have RD:=Lib.hid (RD.out.later hb9);clear hb9;clear c0 c1 c2 c3 c4
  cases b8 with
  | false=>
   clear hsm;go_wp2_with fail;refine (awake14 _).mono ?_;rintro e v99 ⟨rfl,hb9⟩;have HKc:=Lib.hid (HKc.out.later hb9);clear hb9;go_wp2_with fail;go_ret;exact⟨by first | rfl | simp,HKc.out.below⟩
  | true=>
   have ND:Hid (nodes kd.1≤40∧dc1≤40):=hsm rfl;clear hsm;obtain⟨zx,hzx⟩:∃ z,updE t tx kd=z:=⟨_,rfl⟩;obtain⟨kx,hkx⟩:∃ k,updK t tx kd=k:=⟨_,rfl⟩;have HZX:=Lib.hid hzx;have HKX:=Lib.hid hkx;clear hzx hkx;obtain⟨c0,c1,c2,c3,c4,-⟩:=HKc.out.cj;go_wp2_with fail;refine (update_any t Ae Ak ne nk ce ck tx kd De Dk Dc de1 de2 dk1 dk2 dc1 dc2 v3 L.out (by have:=N.out;omega) R.out LD.out (by have:=ND.out;omega) (by have:=ND.out;omega) RD.out).mono ?_;rw[HKX.out,HZX.out];rintro e v4 ⟨Xe,xe1,xe2,Xk,xk1,xk2,Xc,xc1,xc2,rfl,how,hb9⟩;have HKc:=Lib.hid (HKc.out.later hb9);have R:=Lib.hid (RdT.later R.out hb9);have RD:=Lib.hid (RD.out.later hb9);clear hb9;clear c0 c1 c2 c3 c4;have RX:Hid (RdP v4 ⟨kx,⟨Xe,xe1,xe2⟩,⟨Xk,xk1,xk2⟩,⟨Xc,xc1,xc2⟩⟩):=RdP.of_own how;clear how;obtain⟨g,hg⟩:∃ g,g=v4.heap.size:=⟨_,rfl⟩
   obtain⟨v5,hv5⟩:∃ W,W=v4.alloc (.cells #[.slice Xe xe1 xe2,.slice Xk xk1 xk2,.slice Xc xc1 xc2] 29):=⟨_,rfl⟩
   have hb9:Below v4.heap.size v4 v5:=by rw[hv5];exact Dt.box_below _ _ _
   have b0:v5.cell? ⟨g,0,none⟩=some (.slice Xe xe1 xe2):=by rw[hv5,hg];go_simp
   have b1:v5.cell? ⟨g,1,none⟩=some (.slice Xk xk1 xk2):=by rw[hv5,hg];go_simp
   have b2:v5.cell? ⟨g,2,none⟩=some (.slice Xc xc1 xc2):=by rw[hv5,hg];go_simp
   have HKc:=Lib.hid (HKc.out.later hb9);have R:=Lib.hid (RdT.later R.out hb9);have RD:=Lib.hid (RD.out.later hb9);have RX:=Lib.hid (RX.out.later hb9);clear hb9;have HKc:=Lib.hid (((HKc.out.cons_of b2).cons_of b1).cons_of b0);have Hg:=Lib.hid hg;have Hv5:=Lib.hid hv5;clear hg hv5 b0 b1 b2;obtain⟨y1,hy19⟩:∃ y1,Tr.rightB 5 t=y1:=⟨_,rfl⟩;have HY1:=Lib.hid hy19;clear hy19;obtain⟨y2,hy29⟩:∃ y2,rightKB kd=y2:=⟨_,rfl⟩;have HY2:=Lib.hid hy29;clear hy29;obtain⟨y3,hy39⟩:∃ y3,keyB tx=y3:=⟨_,rfl⟩;have HY3:=Lib.hid hy39;clear hy39;obtain⟨c0,c1,c2,c3,c4,c5,c6,c7,-⟩:=HKc.out.cj;rw[Hv5.out]at c0 c1 c2 c3 c4 c5 c6 c7;rw[Hg.out]at c0 c1 c2;go_wp2_with fail;rw[← Hg.out,← Hv5.out];refine (refrightT_any t Ae Ak ne nk ce ck v5 L.out R.out).mono ?_;rw[HY1.out];rintro e v6 ⟨rfl,hb9⟩;have HKc:=Lib.hid (HKc.out.later hb9)
   have R:=Lib.hid (RdT.later R.out hb9);have RD:=Lib.hid (RD.out.later hb9);have RX:=Lib.hid (RX.out.later hb9);clear hb9;clear c0 c1 c2 c3 c4 c5 c6 c7
   cases y1 with
   | false=>
    have hzx:zx=1:=by
     rw[← HZX.out];exact updE_bad (.inl HY1.out)
    obtain rfl:=hzx
    obtain rfl:kx=noneK:=by
     rw[← HKX.out];exact upd_not (by rw[HZX.out];omega)
    obtain⟨c0,c1,c2,c3,c4,c5,c6,c7,-⟩:=HKc.out.cj;go_wp2_with fail;refine (refsameK_any noneK.1 none_ noneK.2 [] Xe Xk Xc none none none xe1 xk1 xe2 xk2 xc1 xc2 0 0 0 0 0 0 v6 true (decide_eq_true rfl) (by show nodes none_≤_;rw[nodes_none];omega) RX.out.len (by have h:=RX.out.len;have h2:noneK.2.length=0:=rfl;dsimp only at h;omega) RX.out.tree RX.out.ctx rfl (RdP.zero _).tree (RdP.zero _).ctx).mono ?_;rintro e v7 ⟨rfl,hb9⟩;have HKc:=Lib.hid (HKc.out.later hb9);have R:=Lib.hid (RdT.later R.out hb9);have RD:=Lib.hid (RD.out.later hb9);have RX:=Lib.hid (RX.out.later hb9);clear hb9;clear c0 c1 c2 c3 c4 c5 c6 c7;go_wp2_with fail;go_ret;exact⟨by first | rfl | simp,HKc.out.below⟩
   | true=>
    obtain⟨c0,c1,c2,c3,c4,c5,c6,c7,-⟩:=HKc.out.cj;go_wp2_with fail;refine (refrightK_any kd.1 kd.2 De Dk Dc de1 dk1 de2 dk2 dc1 dc2 v6 (by have:=ND.out;omega) RD.out.len (by have:=ND.out;omega) RD.out.tree RD.out.ctx (by have:=ND.out;omega)).mono ?_;rw[show rightKB (kd.1,kd.2)=y2 from HY2.out];rintro e v7 ⟨rfl,hb9⟩;have HKc:=Lib.hid (HKc.out.later hb9);have R:=Lib.hid (RdT.later R.out hb9);have RD:=Lib.hid (RD.out.later hb9);have RX:=Lib.hid (RX.out.later hb9);clear hb9;clear c0 c1 c2 c3 c4 c5 c6 c7
    cases y2 with
    | false=>
     have hzx:zx=1:=by
      rw[← HZX.out];exact updE_bad (.inr (.inl HY2.out))
     obtain rfl:=hzx
     obtain rfl:kx=noneK:=by
      rw[← HKX.out];exact upd_not (by rw[HZX.out];omega)
     obtain⟨c0,c1,c2,c3,c4,c5,c6,c7,-⟩:=HKc.out.cj;go_wp2_with fail;refine (refsameK_any noneK.1 none_ noneK.2 [] Xe Xk Xc none none none xe1 xk1 xe2 xk2 xc1 xc2 0 0 0 0 0 0 v7 true (decide_eq_true rfl) (by show nodes none_≤_;rw[nodes_none];omega) RX.out.len (by have h:=RX.out.len;have h2:noneK.2.length=0:=rfl;dsimp only at h;omega) RX.out.tree RX.out.ctx rfl (RdP.zero _).tree (RdP.zero _).ctx).mono ?_;rintro e v8 ⟨rfl,hb9⟩;have HKc:=Lib.hid (HKc.out.later hb9);have R:=Lib.hid (RdT.later R.out hb9);have RD:=Lib.hid (RD.out.later hb9);have RX:=Lib.hid (RX.out.later hb9);clear hb9;clear c0 c1 c2 c3 c4 c5 c6 c7;go_wp2_with fail;go_ret;exact⟨by first | rfl | simp,HKc.out.below⟩
    | true=>
     obtain⟨c0,c1,c2,c3,c4,c5,c6,c7,-⟩:=HKc.out.cj;go_wp2_with fail;refine (refkeyb_any tx v7 y3 HY3.out).mono ?_;rintro e v8 ⟨rfl,hb9⟩;have HKc:=Lib.hid (HKc.out.later hb9);have R:=Lib.hid (RdT.later R.out hb9);have RD:=Lib.hid (RD.out.later hb9);have RX:=Lib.hid (RX.out.later hb9);clear hb9;clear c0 c1 c2 c3 c4 c5 c6 c7
     cases y3 with
     | false=>
      have hzx:zx=1:=by
       rw[← HZX.out];exact updE_bad (.inr (.inr (wrapE_key HY3.out)))
      obtain rfl:=hzx
      obtain rfl:kx=noneK:=by
       rw[← HKX.out];exact upd_not (by rw[HZX.out];omega)
      obtain⟨c0,c1,c2,c3,c4,c5,c6,c7,-⟩:=HKc.out.cj;go_wp2_with fail;refine (refsameK_any noneK.1 none_ noneK.2 [] Xe Xk Xc none none none xe1 xk1 xe2 xk2 xc1 xc2 0 0 0 0 0 0 v8 true (decide_eq_true rfl) (by show nodes none_≤_;rw[nodes_none];omega) RX.out.len (by have h:=RX.out.len;have h2:noneK.2.length=0:=rfl;dsimp only at h;omega) RX.out.tree RX.out.ctx rfl (RdP.zero _).tree (RdP.zero _).ctx).mono ?_;rintro e v9 ⟨rfl,hb9⟩;have HKc:=Lib.hid (HKc.out.later hb9);have R:=Lib.hid (RdT.later R.out hb9);have RD:=Lib.hid (RD.out.later hb9);have RX:=Lib.hid (RX.out.later hb9);clear hb9;clear c0 c1 c2 c3 c4 c5 c6 c7;go_wp2_with fail;go_ret;exact⟨by first | rfl | simp,HKc.out.below⟩
     | true=>
      have JD:Hid (RK kd):=rightKB_iff.1 HY2.out;have HRB:Hid (Tr.rightB 5 kd.1=true):=Tr.rightB_iff.2 JD.out.tree;have HW1:Hid (¬wrapE kd.1 [tx]=1):=wrapE_good HRB.out HY3.out
      have HNK:Hid (t.ks.length=nk):=by
       have h:=R.out;rw[← T.eta t]at h;exact (rd_lens h).2
      obtain⟨nl,hnl⟩:∃ n,(leaves kd.1).length=n:=⟨_,rfl⟩;have HNL:=Lib.hid hnl;clear hnl;obtain⟨c0,c1,c2,c3,c4,c5,c6,c7,-⟩:=HKc.out.cj;go_wp2_with fail;refine (leaves_any kd.1 De Dk de1 dk1 de2 dk2 v8 (by have:=ND.out;omega) RD.out.tree).mono ?_;rw[HNL.out];rintro e v9 ⟨Lf,lc,rfl,hlf,hb9⟩;clear hlf;have HKc:=Lib.hid (HKc.out.later hb9);have R:=Lib.hid (RdT.later R.out hb9);have RD:=Lib.hid (RD.out.later hb9);have RX:=Lib.hid (RX.out.later hb9);clear hb9;clear c0 c1 c2 c3 c4 c5 c6 c7
      by_cases h0:nl=0
      ·obtain rfl:=h0
       obtain⟨e1,he1⟩:∃ x,wrapE kd.1 [tx]=x:=⟨_,rfl⟩;have HE1:=Lib.hid he1;have HE3:=Lib.hid (wrapE_three kd.1 [tx]);rw[he1]at HE3
       have HRM:Hid (mroomB t tx kd.1=true):=by
        unfold Hid mroomB roomB;rw[decide_eq_true (p:=kd.1.es=[]∧kd.1.ks=[]) ((leaves_zero JD.out.tree).1 HNL.out)];rfl
       have hzx:zx=e1:=by
        rw[← HZX.out,updE_of HY1.out HY2.out he1 (by rw[← he1];exact HW1.out),HRM.out];rfl
       clear he1;obtain rfl:=hzx;obtain⟨c0,c1,c2,c3,c4,c5,c6,c7,-⟩:=HKc.out.cj;obtain⟨gs,hgs⟩:∃ g,g=v9.heap.size:=⟨_,rfl⟩;obtain⟨v10,hv10⟩:∃ W,W=v9.alloc (.cells #[.string tx] 9):=⟨_,rfl⟩
       have hb9:Below v9.heap.size v9 v10:=by rw[hv10];exact Dt.box_below _ _ _
       have HKc:=Lib.hid (HKc.out.later hb9);have R:=Lib.hid (RdT.later R.out hb9);have RD:=Lib.hid (RD.out.later hb9);have RX:=Lib.hid (RX.out.later hb9);clear hb9
       have RS:Hid (Rd v10 v10.heap.size 1 (some ⟨gs,0,none⟩) 1 1 (strs [tx])):=by unfold Hid;rw[hv10,hgs];exact rd_one1 _ _
       have Hgs:=Lib.hid hgs;have Hv10:=Lib.hid hv10;clear hgs hv10;go_wp2_with fail;rw[← Hgs.out,← Hv10.out];refine (refwrap_any kd.1 De Dk de1 dk1 de2 dk2 [tx] (some ⟨gs,0,none⟩) 1 1 v10 rfl (by omega) RS.out HRB.out (by have:=ND.out;omega) RD.out.tree).mono ?_;rw[HE1.out];rintro e v11 ⟨We,wn,wc,Wk,wm,wd,rfl,ho,hb9⟩;have RW:=Lib.hid ho.rd;clear ho;have HKc:=Lib.hid (HKc.out.later hb9);have R:=Lib.hid (RdT.later R.out hb9);have RD:=Lib.hid (RD.out.later hb9);have RX:=Lib.hid (RX.out.later hb9);have RS:=Lib.hid (RS.out.later hb9);clear hb9;clear c0 c1 c2 c3 c4 c5 c6 c7;obtain⟨b,hb⟩:∃ g,g=v11.heap.size:=⟨_,rfl⟩;obtain⟨v12,hv12⟩:∃ W,W=v11.alloc (.cells #[.slice We wn wc,.slice Wk wm wd] 25):=⟨_,rfl⟩
       have hb9:Below v11.heap.size v11 v12:=by rw[hv12];exact Dt.box_below _ _ _
       have b0:v12.cell? ⟨b,0,none⟩=some (.slice We wn wc):=by rw[hv12,hb];go_simp
       have b1:v12.cell? ⟨b,1,none⟩=some (.slice Wk wm wd):=by rw[hv12,hb];go_simp
       have HKc:=Lib.hid (HKc.out.later hb9);have R:=Lib.hid (RdT.later R.out hb9);have RD:=Lib.hid (RD.out.later hb9);have RX:=Lib.hid (RX.out.later hb9);have RS:=Lib.hid (RS.out.later hb9);have RW:=Lib.hid (RdT.later RW.out hb9);clear hb9;have HKc:=Lib.hid ((HKc.out.cons_of b1).cons_of b0);have Hb:=Lib.hid hb;have Hv12:=Lib.hid hv12;clear hb hv12 b0 b1;have he3:=HE3.out;clear HE3
       rcases he3 with rfl | rfl | rfl
       ·obtain rfl:kx=(wrapR kd.1 [tx],kd.2):=by
         rw[← HKX.out];exact (upd_ok HZX.out).2.2.2
        have HNX:Hid (nodes (wrapR kd.1 [tx])≤41):=by
         have h:=(wrap_ok HE1.out).nodes;have h2:=ND.out;have h3:[tx].length=1:=rfl;unfold Hid;omega
        obtain⟨c0,c1,c2,c3,c4,c5,c6,c7,c8,c9,-⟩:=HKc.out.cj;rw[Hv12.out]at c0 c1 c2 c3 c4 c5 c6 c7 c8 c9;rw[Hb.out]at c0 c1;go_wp2_with fail;rw[← Hb.out,← Hv12.out];refine (refsameK_any (wrapR kd.1 [tx]) (wrapR kd.1 [tx]) kd.2 kd.2 Xe Xk Xc We Wk Dc xe1 xk1 xe2 xk2 xc1 xc2 wn wm wc wd dc1 dc2 v12 true (decide_eq_true rfl) (by have:=HNX.out;omega) RX.out.len (by have h:=RX.out.len;have h2:=RD.out.len;have h3:=ND.out;dsimp only at h h2;omega) RX.out.tree RX.out.ctx RD.out.len RW.out RD.out.ctx).mono ?_;rintro e v13 ⟨rfl,hb9⟩;have HKc:=Lib.hid (HKc.out.later hb9);have R:=Lib.hid (RdT.later R.out hb9);have RD:=Lib.hid (RD.out.later hb9);have RX:=Lib.hid (RX.out.later hb9);have RS:=Lib.hid (RS.out.later hb9);have RW:=Lib.hid (RdT.later RW.out hb9);clear hb9;clear c0 c1 c2 c3 c4 c5 c6 c7 c8 c9;go_wp2_with fail;go_ret;exact⟨by first | rfl | simp,HKc.out.below⟩
       ·exact absurd HE1.out HW1.out
       ·obtain rfl:kx=noneK:=by
         rw[← HKX.out];exact upd_not (by rw[HZX.out];omega)
        obtain⟨c0,c1,c2,c3,c4,c5,c6,c7,c8,c9,-⟩:=HKc.out.cj;rw[Hv12.out]at c0 c1 c2 c3 c4 c5 c6 c7 c8 c9;rw[Hb.out]at c0 c1;go_wp2_with fail;rw[← Hb.out,← Hv12.out];refine (refsameK_any noneK.1 none_ noneK.2 [] Xe Xk Xc none none none xe1 xk1 xe2 xk2 xc1 xc2 0 0 0 0 0 0 v12 true (decide_eq_true rfl) (by show nodes none_≤_;rw[nodes_none];omega) RX.out.len (by have h:=RX.out.len;have h2:noneK.2.length=0:=rfl;dsimp only at h;omega) RX.out.tree RX.out.ctx rfl (RdP.zero _).tree (RdP.zero _).ctx).mono ?_;rintro e v13 ⟨rfl,hb9⟩;have HKc:=Lib.hid (HKc.out.later hb9);have R:=Lib.hid (RdT.later R.out hb9);have RD:=Lib.hid (RD.out.later hb9);have RX:=Lib.hid (RX.out.later hb9);have RS:=Lib.hid (RS.out.later hb9);have RW:=Lib.hid (RdT.later RW.out hb9);clear hb9;clear c0 c1 c2 c3 c4 c5 c6 c7 c8 c9;go_wp2_with fail;go_ret;exact⟨by first | rfl | simp,HKc.out.below⟩
      ·have f0:decide ((0:Int)<(nl:Int))=true:=decide_eq_true (by omega)
       have f0':decide (0<nl)=true:=decide_eq_true (by omega)
       by_cases h24:24≤nk
       ·have f24:decide ((24:Int)≤(nk:Int))=true:=decide_eq_true (by omega)
        obtain⟨y5,hy59⟩:∃ y5,decide (tx∈keysOf t.ks)=y5:=⟨_,rfl⟩;have HY5:=Lib.hid hy59;clear hy59;obtain⟨c0,c1,c2,c3,c4,c5,c6,c7,-⟩:=HKc.out.cj;go_wp2_with fail;refine (refkid_any t Ae Ak ne nk ce ck tx v9 y5 HY5.out L.out (by have:=N.out;omega) R.out).mono ?_;rintro e v10 ⟨rfl,hb9⟩;have HKc:=Lib.hid (HKc.out.later hb9);have R:=Lib.hid (RdT.later R.out hb9);have RD:=Lib.hid (RD.out.later hb9);have RX:=Lib.hid (RX.out.later hb9);clear hb9;clear c0 c1 c2 c3 c4 c5 c6 c7;clear f0 f0' f24
        cases y5 with
        | false=>
         have hzx:zx=4:=by
          rw[← HZX.out];rw[updE_of (x:=wrapE kd.1 [tx]) HY1.out HY2.out rfl HW1.out,if_neg];unfold mroomB roomB;rw[HY5.out,decide_eq_false (p:=t.ks.length<24) (by rw[HNK.out];omega),decide_eq_false (p:=kd.1.es=[]∧kd.1.ks=[]) (fun h=>h0 (by rw[← HNL.out];exact (leaves_zero JD.out.tree).2 h))]
          decide
         obtain rfl:=hzx
         obtain rfl:kx=noneK:=by
          rw[← HKX.out];exact upd_not (by rw[HZX.out];omega)
         obtain⟨c0,c1,c2,c3,c4,c5,c6,c7,-⟩:=HKc.out.cj;go_wp2_with fail;refine (refsameK_any noneK.1 none_ noneK.2 [] Xe Xk Xc none none none xe1 xk1 xe2 xk2 xc1 xc2 0 0 0 0 0 0 v10 true (decide_eq_true rfl) (by show nodes none_≤_;rw[nodes_none];omega) RX.out.len (by have h:=RX.out.len;have h2:noneK.2.length=0:=rfl;dsimp only at h;omega) RX.out.tree RX.out.ctx rfl (RdP.zero _).tree (RdP.zero _).ctx).mono ?_;rintro e v11 ⟨rfl,hb9⟩;have HKc:=Lib.hid (HKc.out.later hb9);have R:=Lib.hid (RdT.later R.out hb9);have RD:=Lib.hid (RD.out.later hb9);have RX:=Lib.hid (RX.out.later hb9);clear hb9;clear c0 c1 c2 c3 c4 c5 c6 c7;go_wp2_with fail;go_ret;exact⟨by first | rfl | simp,HKc.out.below⟩
        | true=>
         obtain⟨e1,he1⟩:∃ x,wrapE kd.1 [tx]=x:=⟨_,rfl⟩;have HE1:=Lib.hid he1;have HE3:=Lib.hid (wrapE_three kd.1 [tx]);rw[he1]at HE3
         have HRM:Hid (mroomB t tx kd.1=true):=by
          unfold Hid mroomB roomB;rw[HY5.out,Bool.or_true,Bool.or_true]
         have hzx:zx=e1:=by
          rw[← HZX.out,updE_of HY1.out HY2.out he1 (by rw[← he1];exact HW1.out),HRM.out];rfl
         clear he1;obtain rfl:=hzx;obtain⟨c0,c1,c2,c3,c4,c5,c6,c7,-⟩:=HKc.out.cj;obtain⟨gs,hgs⟩:∃ g,g=v10.heap.size:=⟨_,rfl⟩;obtain⟨v11,hv11⟩:∃ W,W=v10.alloc (.cells #[.string tx] 9):=⟨_,rfl⟩
         have hb9:Below v10.heap.size v10 v11:=by rw[hv11];exact Dt.box_below _ _ _
         have HKc:=Lib.hid (HKc.out.later hb9);have R:=Lib.hid (RdT.later R.out hb9);have RD:=Lib.hid (RD.out.later hb9);have RX:=Lib.hid (RX.out.later hb9);clear hb9
         have RS:Hid (Rd v11 v11.heap.size 1 (some ⟨gs,0,none⟩) 1 1 (strs [tx])):=by unfold Hid;rw[hv11,hgs];exact rd_one1 _ _
         have Hgs:=Lib.hid hgs;have Hv11:=Lib.hid hv11;clear hgs hv11;go_wp2_with fail;rw[← Hgs.out,← Hv11.out];refine (refwrap_any kd.1 De Dk de1 dk1 de2 dk2 [tx] (some ⟨gs,0,none⟩) 1 1 v11 rfl (by omega) RS.out HRB.out (by have:=ND.out;omega) RD.out.tree).mono ?_;rw[HE1.out];rintro e v12 ⟨We,wn,wc,Wk,wm,wd,rfl,ho,hb9⟩;have RW:=Lib.hid ho.rd;clear ho;have HKc:=Lib.hid (HKc.out.later hb9);have R:=Lib.hid (RdT.later R.out hb9);have RD:=Lib.hid (RD.out.later hb9);have RX:=Lib.hid (RX.out.later hb9);have RS:=Lib.hid (RS.out.later hb9);clear hb9;clear c0 c1 c2 c3 c4 c5 c6 c7;obtain⟨b,hb⟩:∃ g,g=v12.heap.size:=⟨_,rfl⟩;obtain⟨v13,hv13⟩:∃ W,W=v12.alloc (.cells #[.slice We wn wc,.slice Wk wm wd] 25):=⟨_,rfl⟩
         have hb9:Below v12.heap.size v12 v13:=by rw[hv13];exact Dt.box_below _ _ _
         have b0:v13.cell? ⟨b,0,none⟩=some (.slice We wn wc):=by rw[hv13,hb];go_simp
         have b1:v13.cell? ⟨b,1,none⟩=some (.slice Wk wm wd):=by rw[hv13,hb];go_simp
         have HKc:=Lib.hid (HKc.out.later hb9);have R:=Lib.hid (RdT.later R.out hb9);have RD:=Lib.hid (RD.out.later hb9);have RX:=Lib.hid (RX.out.later hb9);have RS:=Lib.hid (RS.out.later hb9);have RW:=Lib.hid (RdT.later RW.out hb9);clear hb9;have HKc:=Lib.hid ((HKc.out.cons_of b1).cons_of b0);have Hb:=Lib.hid hb;have Hv13:=Lib.hid hv13;clear hb hv13 b0 b1;have he3:=HE3.out;clear HE3
         rcases he3 with rfl | rfl | rfl
         ·obtain rfl:kx=(wrapR kd.1 [tx],kd.2):=by
           rw[← HKX.out];exact (upd_ok HZX.out).2.2.2
          have HNX:Hid (nodes (wrapR kd.1 [tx])≤41):=by
           have h:=(wrap_ok HE1.out).nodes;have h2:=ND.out;have h3:[tx].length=1:=rfl;unfold Hid;omega
          obtain⟨c0,c1,c2,c3,c4,c5,c6,c7,c8,c9,-⟩:=HKc.out.cj;rw[Hv13.out]at c0 c1 c2 c3 c4 c5 c6 c7 c8 c9;rw[Hb.out]at c0 c1;go_wp2_with fail;rw[← Hb.out,← Hv13.out];refine (refsameK_any (wrapR kd.1 [tx]) (wrapR kd.1 [tx]) kd.2 kd.2 Xe Xk Xc We Wk Dc xe1 xk1 xe2 xk2 xc1 xc2 wn wm wc wd dc1 dc2 v13 true (decide_eq_true rfl) (by have:=HNX.out;omega) RX.out.len (by have h:=RX.out.len;have h2:=RD.out.len;have h3:=ND.out;dsimp only at h h2;omega) RX.out.tree RX.out.ctx RD.out.len RW.out RD.out.ctx).mono ?_;rintro e v14 ⟨rfl,hb9⟩;have HKc:=Lib.hid (HKc.out.later hb9);have R:=Lib.hid (RdT.later R.out hb9);have RD:=Lib.hid (RD.out.later hb9);have RX:=Lib.hid (RX.out.later hb9);have RS:=Lib.hid (RS.out.later hb9);have RW:=Lib.hid (RdT.later RW.out hb9);clear hb9;clear c0 c1 c2 c3 c4 c5 c6 c7 c8 c9;go_wp2_with fail;go_ret;exact⟨by first | rfl | simp,HKc.out.below⟩
         ·exact absurd HE1.out HW1.out
         ·obtain rfl:kx=noneK:=by
           rw[← HKX.out];exact upd_not (by rw[HZX.out];omega)
          obtain⟨c0,c1,c2,c3,c4,c5,c6,c7,c8,c9,-⟩:=HKc.out.cj;rw[Hv13.out]at c0 c1 c2 c3 c4 c5 c6 c7 c8 c9;rw[Hb.out]at c0 c1;go_wp2_with fail;rw[← Hb.out,← Hv13.out];refine (refsameK_any noneK.1 none_ noneK.2 [] Xe Xk Xc none none none xe1 xk1 xe2 xk2 xc1 xc2 0 0 0 0 0 0 v13 true (decide_eq_true rfl) (by show nodes none_≤_;rw[nodes_none];omega) RX.out.len (by have h:=RX.out.len;have h2:noneK.2.length=0:=rfl;dsimp only at h;omega) RX.out.tree RX.out.ctx rfl (RdP.zero _).tree (RdP.zero _).ctx).mono ?_;rintro e v14 ⟨rfl,hb9⟩;have HKc:=Lib.hid (HKc.out.later hb9);have R:=Lib.hid (RdT.later R.out hb9);have RD:=Lib.hid (RD.out.later hb9);have RX:=Lib.hid (RX.out.later hb9);have RS:=Lib.hid (RS.out.later hb9);have RW:=Lib.hid (RdT.later RW.out hb9);clear hb9;clear c0 c1 c2 c3 c4 c5 c6 c7 c8 c9;go_wp2_with fail;go_ret;exact⟨by first | rfl | simp,HKc.out.below⟩
       ·have f24:decide ((24:Int)≤(nk:Int))=false:=decide_eq_false (by omega)
        obtain⟨e1,he1⟩:∃ x,wrapE kd.1 [tx]=x:=⟨_,rfl⟩;have HE1:=Lib.hid he1;have HE3:=Lib.hid (wrapE_three kd.1 [tx]);rw[he1]at HE3
        have HRM:Hid (mroomB t tx kd.1=true):=by
         unfold Hid mroomB roomB;rw[decide_eq_true (p:=t.ks.length<24) (by rw[HNK.out];omega),Bool.true_or,Bool.or_true]
        have hzx:zx=e1:=by
         rw[← HZX.out,updE_of HY1.out HY2.out he1 (by rw[← he1];exact HW1.out),HRM.out];rfl
        clear he1;obtain rfl:=hzx;obtain⟨c0,c1,c2,c3,c4,c5,c6,c7,-⟩:=HKc.out.cj;obtain⟨gs,hgs⟩:∃ g,g=v9.heap.size:=⟨_,rfl⟩;obtain⟨v10,hv10⟩:∃ W,W=v9.alloc (.cells #[.string tx] 9):=⟨_,rfl⟩
        have hb9:Below v9.heap.size v9 v10:=by rw[hv10];exact Dt.box_below _ _ _
        have HKc:=Lib.hid (HKc.out.later hb9);have R:=Lib.hid (RdT.later R.out hb9);have RD:=Lib.hid (RD.out.later hb9);have RX:=Lib.hid (RX.out.later hb9);clear hb9
        have RS:Hid (Rd v10 v10.heap.size 1 (some ⟨gs,0,none⟩) 1 1 (strs [tx])):=by unfold Hid;rw[hv10,hgs];exact rd_one1 _ _
        have Hgs:=Lib.hid hgs;have Hv10:=Lib.hid hv10;clear hgs hv10;go_wp2_with fail;rw[← Hgs.out,← Hv10.out];refine (refwrap_any kd.1 De Dk de1 dk1 de2 dk2 [tx] (some ⟨gs,0,none⟩) 1 1 v10 rfl (by omega) RS.out HRB.out (by have:=ND.out;omega) RD.out.tree).mono ?_;rw[HE1.out];rintro e v11 ⟨We,wn,wc,Wk,wm,wd,rfl,ho,hb9⟩;have RW:=Lib.hid ho.rd;clear ho;have HKc:=Lib.hid (HKc.out.later hb9);have R:=Lib.hid (RdT.later R.out hb9);have RD:=Lib.hid (RD.out.later hb9);have RX:=Lib.hid (RX.out.later hb9);have RS:=Lib.hid (RS.out.later hb9);clear hb9;clear c0 c1 c2 c3 c4 c5 c6 c7;obtain⟨b,hb⟩:∃ g,g=v11.heap.size:=⟨_,rfl⟩;obtain⟨v12,hv12⟩:∃ W,W=v11.alloc (.cells #[.slice We wn wc,.slice Wk wm wd] 25):=⟨_,rfl⟩
        have hb9:Below v11.heap.size v11 v12:=by rw[hv12];exact Dt.box_below _ _ _
        have b0:v12.cell? ⟨b,0,none⟩=some (.slice We wn wc):=by rw[hv12,hb];go_simp
        have b1:v12.cell? ⟨b,1,none⟩=some (.slice Wk wm wd):=by rw[hv12,hb];go_simp
        have HKc:=Lib.hid (HKc.out.later hb9);have R:=Lib.hid (RdT.later R.out hb9);have RD:=Lib.hid (RD.out.later hb9);have RX:=Lib.hid (RX.out.later hb9);have RS:=Lib.hid (RS.out.later hb9);have RW:=Lib.hid (RdT.later RW.out hb9);clear hb9;have HKc:=Lib.hid ((HKc.out.cons_of b1).cons_of b0);have Hb:=Lib.hid hb;have Hv12:=Lib.hid hv12;clear hb hv12 b0 b1;have he3:=HE3.out;clear HE3
        rcases he3 with rfl | rfl | rfl
        ·obtain rfl:kx=(wrapR kd.1 [tx],kd.2):=by
          rw[← HKX.out];exact (upd_ok HZX.out).2.2.2
         have HNX:Hid (nodes (wrapR kd.1 [tx])≤41):=by
          have h:=(wrap_ok HE1.out).nodes;have h2:=ND.out;have h3:[tx].length=1:=rfl;unfold Hid;omega
         obtain⟨c0,c1,c2,c3,c4,c5,c6,c7,c8,c9,-⟩:=HKc.out.cj;rw[Hv12.out]at c0 c1 c2 c3 c4 c5 c6 c7 c8 c9;rw[Hb.out]at c0 c1;go_wp2_with fail;rw[← Hb.out,← Hv12.out];refine (refsameK_any (wrapR kd.1 [tx]) (wrapR kd.1 [tx]) kd.2 kd.2 Xe Xk Xc We Wk Dc xe1 xk1 xe2 xk2 xc1 xc2 wn wm wc wd dc1 dc2 v12 true (decide_eq_true rfl) (by have:=HNX.out;omega) RX.out.len (by have h:=RX.out.len;have h2:=RD.out.len;have h3:=ND.out;dsimp only at h h2;omega) RX.out.tree RX.out.ctx RD.out.len RW.out RD.out.ctx).mono ?_;rintro e v13 ⟨rfl,hb9⟩;have HKc:=Lib.hid (HKc.out.later hb9);have R:=Lib.hid (RdT.later R.out hb9);have RD:=Lib.hid (RD.out.later hb9);have RX:=Lib.hid (RX.out.later hb9);have RS:=Lib.hid (RS.out.later hb9);have RW:=Lib.hid (RdT.later RW.out hb9);clear hb9;clear c0 c1 c2 c3 c4 c5 c6 c7 c8 c9;go_wp2_with fail;go_ret;exact⟨by first | rfl | simp,HKc.out.below⟩
        ·exact absurd HE1.out HW1.out
        ·obtain rfl:kx=noneK:=by
          rw[← HKX.out];exact upd_not (by rw[HZX.out];omega)
         obtain⟨c0,c1,c2,c3,c4,c5,c6,c7,c8,c9,-⟩:=HKc.out.cj;rw[Hv12.out]at c0 c1 c2 c3 c4 c5 c6 c7 c8 c9;rw[Hb.out]at c0 c1;go_wp2_with fail;rw[← Hb.out,← Hv12.out];refine (refsameK_any noneK.1 none_ noneK.2 [] Xe Xk Xc none none none xe1 xk1 xe2 xk2 xc1 xc2 0 0 0 0 0 0 v12 true (decide_eq_true rfl) (by show nodes none_≤_;rw[nodes_none];omega) RX.out.len (by have h:=RX.out.len;have h2:noneK.2.length=0:=rfl;dsimp only at h;omega) RX.out.tree RX.out.ctx rfl (RdP.zero _).tree (RdP.zero _).ctx).mono ?_;rintro e v13 ⟨rfl,hb9⟩;have HKc:=Lib.hid (HKc.out.later hb9);have R:=Lib.hid (RdT.later R.out hb9);have RD:=Lib.hid (RD.out.later hb9);have RX:=Lib.hid (RX.out.later hb9);have RS:=Lib.hid (RS.out.later hb9);have RW:=Lib.hid (RdT.later RW.out hb9);clear hb9;clear c0 c1 c2 c3 c4 c5 c6 c7 c8 c9;go_wp2_with fail;go_ret;exact⟨by first | rfl | simp,HKc.out.below⟩
set_option maxRecDepth 100000 in
theorem lifted (os:Os) (started:os.Started) (H:Type) (enc:TypeId×Value→H) :
  ReturnsInHanded {} Tryz.checked os 3 .any (Rows.ormapUpdatesSpec.pre6 enc Tryz.prog Tryz.f3 Rows.ormapUpdatesRow.domain false) (Rows.ormapUpdatesSpec.post enc Tryz.prog Tryz.f3 false true false false):=by
 refine returnsInHanded_of_change_sized (C:=Tryz.checked) own started (by kernel_rfl) Tryz.func3
  (ChangeSpec.witness6 (enc:=enc) (C:=Tryz.checked) false ⟨#[],#[.agg #[.slice none 0 0,.slice none 0 0],.string ByteArray.empty,.agg #[.slice none 0 0,.slice none 0 0,.slice none 0 0]],[]⟩ 8 (by kernel_rfl) (by kernel_rfl) (by kernel_rfl) (by kernel_rfl)) ?_
 intro W base args ds gs before hval0 hW _ hsz0 _;have hval:∀ (j:Nat) t v,Tryz.f3.params[j]?=some t→args[j]?=some v→Value.okWide Tryz.prog W .any base t v:=hval0;have hW':=hW;obtain⟨p,q,hA0,hV,rfl,hfz,hnd⟩:=hW;have hA:DataW.TrodAll enc Tryz.prog W 0 (fun _=>true) true Tryz.f3.params.toList args.toList ds p:=hA0;rw[Tryz.params3]at hA hval;obtain⟨v0,v1,v2,d0,d1,d2,p0,p1,p2,rfl,rfl,rfl,h0,h1,h2⟩:=trodAll_three hA;obtain⟨rfl,rfl⟩:=trodVars_none hV;have hsz:(DataW.weightsEach Tryz.prog (25::9::29::_) (d0::d1::d2::_)).all (· ≤ reachBytes)=true:=hsz0;obtain⟨hw0,hsz⟩:=Tr.weights_head hsz;obtain⟨hw1,hsz⟩:=Tr.weights_head hsz;obtain⟨hw2,hsz⟩:=Tr.weights_head hsz
 obtain⟨t0,ae0,ak0,ne0,nk0,ce0,ck0,rfl,hr0,hl0⟩:=Tr.treeV_of_trod (hval 0 25 v0 rfl rfl) h0 hw0;obtain⟨s1,rfl,rfl,rfl,hs1⟩:=Go.ChangeMaps.open_string Tryz.underlying9 (hval 1 9 v1 rfl rfl) h1;obtain⟨t2,s2,A2,B2,C2,n2,m2,ne2,nk2,nc2,nd2,rfl,hr2,hl2⟩:=Cs.cauV_of_trod (hval 2 29 v2 rfl rfl) h2 hw2;refine (walk_any t0 ae0 ak0 ne0 nk0 ce0 ck0 s1 (t2,s2) A2 B2 C2 n2 ne2 m2 nk2 nc2 nd2 W hr0 hl0 hr2 hl2).mono fun e W' ⟨he,hb⟩=>?_;subst he;exact⟨_,rfl,law_post hW' (by kernel_rfl) rfl rfl rfl hb⟩
theorem proved:Rows.OrmapUpdatesSaid:=
 OpenClaim.holds_of_wide 3 Tryz.f3 rfl rfl rfl rfl rfl rfl rfl ⟨rfl,rfl,rfl,rfl,rfl⟩ rfl rfl rfl rfl rfl (by kernel_rfl) Tryz.func3 (by kernel_rfl)
  (of_decide_eq_true (by kernel_rfl)) (by unfold Func.isWrapper;first | (rw[if_pos (by decide +kernel)];kernel_rfl) | (rw[if_neg (by decide +kernel)];exact⟨rfl,rfl⟩))
  (fun os started H enc _=>lifted os started H enc)
#print axioms proved
end lawOrmapUpdates
end Go.Proofs.YtjpcechcefhcfaaGreat
