/- Proved: the law OrmapBelow answers true for every tree, every text, everything known that can be handed in, and leaves its arguments as they were. Conditions: none. -/
import Derived.Test.YtjpcechcefhcfaaGreatG00
import Derived.Test.YtjpcechcefhcfaaGreatG170
import Derived.Test.YtjpcechcefhcfaaGreatSetRef
import Derived.Test.YtjpcechcefhcfaaGreatDltRef
import Derived.Test.YtjpcechcefhcfaaGreatCauJoin
import Derived.Test.YtjpcechcefhcfaaGreatCauAll
import Derived.Test.YtjpcechcefhcfaaGreatCauOwnRef
import Derived.Test.YtjpcechcefhcfaaGreatG150
import Derived.Test.YtjpcechcefhcfaaGreatG50
import Derived.Test.YtjpcechcefhcfaaGreatG16660
import Derived.Test.YtjpcechcefhcfaaGreatCauKit
import Derived.Test.YtjpcechcefhcfaaGreatG40
import Derived.Test.YtjpcechcefhcfaaGreatG10
import Derived.Test.YtjpcechcefhcfaaGreatTreeSame
open Go.ChangeShapes Go.WideShapes Go.ChangeAt Go.RowKit
namespace Go.Proofs.YtjpcechcefhcfaaGreat
namespace lawOrmapBelow
open Tr Cx Cs Sp Rw Classical
theorem boxL (w:World) (Ae Ak:Option Addr) (ne nk ce ck:Nat) (De Dk Dc:Option Addr) (de1 de2 dk1 dk2 dc1 dc2:Nat):∃ (W:World) (p r:Nat),Hid (W=((w.alloc (.cells #[.slice Ae ne ce,.slice Ak nk ck] 25)).alloc (.cells #[.slice De de1 de2,.slice Dk dk1 dk2,.slice Dc dc1 dc2] 29)))∧Hid (p=w.heap.size)∧Hid (r=p+1)∧Hid (Kept [(⟨p,0,none⟩,.slice Ae ne ce),(⟨p,1,none⟩,.slice Ak nk ck),(⟨r,0,none⟩,.slice De de1 de2),(⟨r,1,none⟩,.slice Dk dk1 dk2),(⟨r,2,none⟩,.slice Dc dc1 dc2)] w W):=by
 refine⟨_,_,_,rfl,rfl,rfl,?_⟩;have h0:=Kept.nil_of (show Below w.heap.size w (((w.alloc (.cells #[.slice Ae ne ce,.slice Ak nk ck] 25)).alloc (.cells #[.slice De de1 de2,.slice Dk dk1 dk2,.slice Dc dc1 dc2] 29))) from ((Below.refl _ _).alloc (Nat.le_refl _) _).alloc (by simp) _)
 refine (((((h0).cons_of ?_).cons_of ?_).cons_of ?_).cons_of ?_).cons_of ?_ <;> go_simp
set_option maxRecDepth 100000 in
set_option maxHeartbeats 4000000 in
theorem walk_any (t:T) (Ae Ak:Option Addr) (ne nk ce ck:Nat) (tx:ByteArray) (kd:K) (De Dk Dc:Option Addr) (de1 de2 dk1 dk2 dc1 dc2:Nat) (w:World) (hr:RdT w w.heap.size t ⟨Ae,ne,ce⟩ ⟨Ak,nk,ck⟩) (hl:LenT reachBytes t) (hrd:RdP w ⟨kd,⟨De,de1,de2⟩,⟨Dk,dk1,dk2⟩,⟨Dc,dc1,dc2⟩⟩) (hld:LenT reachBytes kd.1) :
  Calls Tryz.prog 6 #[.agg #[.slice Ae ne ce,.slice Ak nk ck],.string tx,.agg #[.slice De de1 de2,.slice Dk dk1 dk2,.slice Dc dc1 dc2]] w fun e w'=>e = .returned (.bool true)∧Below w.heap.size w w':=by
 obtain⟨W,p,r,HW,HP,HR,HKc⟩:=boxL w Ae Ak ne nk ce ck De Dk Dc de1 de2 dk1 dk2 dc1 dc2;have HR0:=Lib.hid hr;have R:=Lib.hid (RdT.later hr HKc.out.below);have L:=Lib.hid hl;have RD:=Lib.hid (RdP.later hrd HKc.out.below);have LD:=Lib.hid hld;clear hrd hld;clear hr hl;obtain⟨c0,c1,c2,c3,c4,-⟩:=HKc.out.cj;go_enter Tryz.func6,Tryz.ntmps6;go_wp2_with fail;rw[← HW.out,← HP.out]
 try rw[← HR.out]
 refine (awake14 W).mono ?_;rintro e v1 ⟨rfl,hb9⟩;have HKc:=Lib.hid (HKc.out.later hb9);have R:=Lib.hid (RdT.later R.out hb9);have RD:=Lib.hid (RD.out.later hb9);clear hb9;clear c0 c1 c2 c3 c4;obtain⟨c0,c1,c2,c3,c4,-⟩:=HKc.out.cj;go_wp2_with fail;refine (small_tree t Ae Ak ne nk ce ck v1 L.out R.out).mono ?_;rintro e v2 ⟨b9,rfl,hsm,hb9⟩;have HKc:=Lib.hid (HKc.out.later hb9);have R:=Lib.hid (RdT.later R.out hb9);have RD:=Lib.hid (RD.out.later hb9);clear hb9;clear c0 c1 c2 c3 c4
 cases b9 with
 | false=>
  clear hsm;go_wp2_with fail;refine (awake14 _).mono ?_;rintro e v99 ⟨rfl,hb9⟩;have HKc:=Lib.hid (HKc.out.later hb9);clear hb9;go_wp2_with fail;go_ret;exact⟨by first | rfl | simp,HKc.out.below⟩
 | true=>
  have N:Hid (nodes t≤60):=hsm rfl;clear hsm;obtain⟨c0,c1,c2,c3,c4,-⟩:=HKc.out.cj;go_wp2_with fail;refine (smallK_any kd.1 De Dk Dc de1 dk1 de2 dk2 dc1 dc2 v2 LD.out RD.out.tree).mono ?_;rintro e v3 ⟨b8,rfl,hsm,hb9⟩;have HKc:=Lib.hid (HKc.out.later hb9);have R:=Lib.hid (RdT.later R.out hb9);have RD:=Lib.hid (RD.out.later hb9);clear hb9;clear c0 c1 c2 c3 c4
  cases b8 with
  | false=>
   clear hsm;go_wp2_with fail;refine (awake14 _).mono ?_;rintro e v99 ⟨rfl,hb9⟩;have HKc:=Lib.hid (HKc.out.later hb9);clear hb9;go_wp2_with fail;go_ret;exact⟨by first | rfl | simp,HKc.out.below⟩
  | true=>
   have ND:Hid (nodes kd.1≤40∧dc1≤40):=hsm rfl;clear hsm;obtain⟨y,hy9⟩:∃ y,Tr.rightB 5 t=y:=⟨_,rfl⟩;have HY:=Lib.hid hy9;clear hy9;obtain⟨c0,c1,c2,c3,c4,-⟩:=HKc.out.cj;go_wp2_with fail;refine (refrightT_any t Ae Ak ne nk ce ck v3 L.out R.out).mono ?_;rw[HY.out];rintro e v4 ⟨rfl,hb9⟩;have HKc:=Lib.hid (HKc.out.later hb9);have R:=Lib.hid (RdT.later R.out hb9);have RD:=Lib.hid (RD.out.later hb9);clear hb9;clear c0 c1 c2 c3 c4
   cases y with
   | false=>
    go_wp2_with fail;refine (awake14 _).mono ?_;rintro e v99 ⟨rfl,hb9⟩;have HKc:=Lib.hid (HKc.out.later hb9);clear hb9;go_wp2_with fail;go_ret;exact⟨by first | rfl | simp,HKc.out.below⟩
   | true=>
    have HT:Hid (RightT 5 t):=Tr.rightB_iff.1 HY.out;obtain⟨u,hu1,hu2⟩:=some_of HT.out L.out (by have:=N.out;omega) R.out;obtain⟨m9,hm9⟩:∃ m9,u.length=m9:=⟨_,rfl⟩;have HU:Hid (OfC (dl t) u∧u.length=m9∧m9≤240):=⟨hu1,hm9,by have:=N.out;omega⟩;clear hu1 hu2 hm9;have JT:Hid (RK (t,u)):=known_right HT.out HU.out.1;obtain⟨zx,hzx⟩:∃ z,updE t tx kd=z:=⟨_,rfl⟩;obtain⟨kx,hkx⟩:∃ k,updK t tx kd=k:=⟨_,rfl⟩;have HZX:=Lib.hid hzx;have HKX:=Lib.hid hkx;clear hzx hkx;obtain⟨c0,c1,c2,c3,c4,-⟩:=HKc.out.cj;go_wp2_with fail;refine (update_any t Ae Ak ne nk ce ck tx kd De Dk Dc de1 de2 dk1 dk2 dc1 dc2 v4 L.out (by have:=N.out;omega) R.out LD.out (by have:=ND.out;omega) (by have:=ND.out;omega) RD.out).mono ?_;rw[HKX.out,HZX.out];rintro e v5 ⟨Xe,xe1,xe2,Xk,xk1,xk2,Xc,xc1,xc2,rfl,how,hb9⟩;have HKc:=Lib.hid (HKc.out.later hb9)
    have R:=Lib.hid (RdT.later R.out hb9);have RD:=Lib.hid (RD.out.later hb9);clear hb9;clear c0 c1 c2 c3 c4;have RX:Hid (RdP v5 ⟨kx,⟨Xe,xe1,xe2⟩,⟨Xk,xk1,xk2⟩,⟨Xc,xc1,xc2⟩⟩):=RdP.of_own how;clear how;obtain⟨g,hg⟩:∃ g,g=v5.heap.size:=⟨_,rfl⟩;obtain⟨v6,hv6⟩:∃ W,W=v5.alloc (.cells #[.slice Xe xe1 xe2,.slice Xk xk1 xk2,.slice Xc xc1 xc2] 29):=⟨_,rfl⟩
    have hb9:Below v5.heap.size v5 v6:=by rw[hv6];exact Dt.box_below _ _ _
    have b0:v6.cell? ⟨g,0,none⟩=some (.slice Xe xe1 xe2):=by rw[hv6,hg];go_simp
    have b1:v6.cell? ⟨g,1,none⟩=some (.slice Xk xk1 xk2):=by rw[hv6,hg];go_simp
    have b2:v6.cell? ⟨g,2,none⟩=some (.slice Xc xc1 xc2):=by rw[hv6,hg];go_simp
    have HKc:=Lib.hid (HKc.out.later hb9);have R:=Lib.hid (RdT.later R.out hb9);have RD:=Lib.hid (RD.out.later hb9);have RX:=Lib.hid (RX.out.later hb9);clear hb9;have HKc:=Lib.hid (((HKc.out.cons_of b2).cons_of b1).cons_of b0);have Hg:=Lib.hid hg;have Hv6:=Lib.hid hv6;clear hg hv6 b0 b1 b2;have HZ4:=Lib.hid (updE_four t tx kd);rw[HZX.out]at HZ4;have hz4:=HZ4.out;clear HZ4
    rcases hz4 with rfl | rfl | rfl | rfl
    ·have HUP:=Lib.hid (upd_ok HZX.out)
     obtain rfl:kx=(wrapR kd.1 [tx],kd.2):=by
      rw[← HKX.out];exact HUP.out.2.2.2
     have JD:Hid (RK kd):=rightKB_iff.1 HUP.out.2.1;have JX:Hid (RK (wrapR kd.1 [tx],kd.2)):=right_wrapR JD.out HUP.out.2.2.1
     have HNX:Hid (nodes (wrapR kd.1 [tx])≤41):=by
      have h:=(wrap_ok HUP.out.2.2.1).nodes;have h2:=ND.out;have h3:[tx].length=1:=rfl;unfold Hid;omega
     have HXL:Hid (xc1≤40):=by
      have h:=RX.out.len;have h2:=RD.out.len;have h3:=ND.out;dsimp only at h h2;unfold Hid;omega
     have JG:Hid (RK (kidAt t.ks tx,u)):=right_kid_known HT.out HU.out.1;have NG:Hid (nodes (kidAt t.ks tx)≤60):=Nat.le_trans (nodes_kid_at t tx) N.out;obtain⟨c0,c1,c2,c3,c4,c5,c6,c7,-⟩:=HKc.out.cj;rw[Hv6.out]at c0 c1 c2 c3 c4 c5 c6 c7;rw[Hg.out]at c0 c1 c2;go_wp2_with fail;rw[← Hg.out,← Hv6.out];refine (refknown_any t Ae Ak ne nk ce ck u m9 v6 HT.out (by have:=N.out;omega) R.out HU.out.1 HU.out.2.1 (by have:=HU.out.2.2;omega)).mono ?_;rintro e v7 ⟨B9,d9,rfl,hro,hb9⟩;have RK9:Hid (RdP v7 ⟨(t,u),⟨Ae,ne,ce⟩,⟨Ak,nk,ck⟩,⟨B9,m9,d9⟩⟩):=⟨RdT.later R.out hb9,HU.out.2.1,hro.rd⟩;clear hro;have HKc:=Lib.hid (HKc.out.later hb9);have R:=Lib.hid (RdT.later R.out hb9);have RD:=Lib.hid (RD.out.later hb9);have RX:=Lib.hid (RX.out.later hb9);clear hb9;clear c0 c1 c2 c3 c4 c5 c6 c7;obtain⟨h,hh⟩:∃ g,g=v7.heap.size:=⟨_,rfl⟩
     obtain⟨v8,hv8⟩:∃ W,W=v7.alloc (.cells #[.slice Ae ne ce,.slice Ak nk ck,.slice B9 m9 d9] 29):=⟨_,rfl⟩
     have hb9:Below v7.heap.size v7 v8:=by rw[hv8];exact Dt.box_below _ _ _
     have b0:v8.cell? ⟨h,0,none⟩=some (.slice Ae ne ce):=by rw[hv8,hh];go_simp
     have b1:v8.cell? ⟨h,1,none⟩=some (.slice Ak nk ck):=by rw[hv8,hh];go_simp
     have b2:v8.cell? ⟨h,2,none⟩=some (.slice B9 m9 d9):=by rw[hv8,hh];go_simp
     have HKc:=Lib.hid (HKc.out.later hb9);have R:=Lib.hid (RdT.later R.out hb9);have RD:=Lib.hid (RD.out.later hb9);have RX:=Lib.hid (RX.out.later hb9);have RK9:=Lib.hid (RK9.out.later hb9);clear hb9;have HKc:=Lib.hid (((HKc.out.cons_of b2).cons_of b1).cons_of b0);have Hh:=Lib.hid hh;have Hv8:=Lib.hid hv8;clear hh hv8 b0 b1 b2;obtain⟨c0,c1,c2,c3,c4,c5,c6,c7,c8,c9,c10,-⟩:=HKc.out.cj;rw[Hv8.out]at c0 c1 c2 c3 c4 c5 c6 c7 c8 c9 c10;rw[Hh.out]at c0 c1 c2;go_wp2_with fail;rw[← Hh.out,← Hv8.out];refine (joinE_any t (wrapR kd.1 [tx]) u kd.2 Ae Ak B9 Xe Xk Xc ne nk ce ck m9 d9 xe1 xk1 xe2 xk2 xc1 xc2 v8 (by have:=N.out;omega) RK9.out.len (by have:=HU.out.2.2;omega) RK9.out.tree RK9.out.ctx (by have:=HNX.out;omega) RX.out.len (by have:=HXL.out;omega) RX.out.tree RX.out.ctx).mono ?_;rintro e v9 ⟨ki,z9,hj,Ie,ie1,ie2,Ik,ik1,ik2,Ic,ic1,ic2,rfl,how,hb9⟩
     obtain⟨rfl,hjj,_⟩:=hj.1 ⟨JT.out,JX.out⟩;have PI:Hid (IsJ (t,u) (wrapR kd.1 [tx],kd.2) ki):=hjj;have RI:=Lib.hid (RdP.of_own how);clear hj hjj how;have HKc:=Lib.hid (HKc.out.later hb9);have R:=Lib.hid (RdT.later R.out hb9);have RD:=Lib.hid (RD.out.later hb9);have RX:=Lib.hid (RX.out.later hb9);have RK9:=Lib.hid (RK9.out.later hb9);clear hb9;clear c0 c1 c2 c3 c4 c5 c6 c7 c8 c9 c10;obtain⟨d,hd⟩:∃ g,g=v9.heap.size:=⟨_,rfl⟩;obtain⟨v10,hv10⟩:∃ W,W=v9.alloc (.cells #[.slice Ie ie1 ie2,.slice Ik ik1 ik2,.slice Ic ic1 ic2] 29):=⟨_,rfl⟩
     have hb9:Below v9.heap.size v9 v10:=by rw[hv10];exact Dt.box_below _ _ _
     have b0:v10.cell? ⟨d,0,none⟩=some (.slice Ie ie1 ie2):=by rw[hv10,hd];go_simp
     have b1:v10.cell? ⟨d,1,none⟩=some (.slice Ik ik1 ik2):=by rw[hv10,hd];go_simp
     have b2:v10.cell? ⟨d,2,none⟩=some (.slice Ic ic1 ic2):=by rw[hv10,hd];go_simp
     have HKc:=Lib.hid (HKc.out.later hb9);have R:=Lib.hid (RdT.later R.out hb9);have RD:=Lib.hid (RD.out.later hb9);have RX:=Lib.hid (RX.out.later hb9);have RK9:=Lib.hid (RK9.out.later hb9);have RI:=Lib.hid (RI.out.later hb9);clear hb9;have HKc:=Lib.hid (((HKc.out.cons_of b2).cons_of b1).cons_of b0);have Hd:=Lib.hid hd;have Hv10:=Lib.hid hv10;clear hd hv10 b0 b1 b2;obtain⟨c0,c1,c2,c3,c4,c5,c6,c7,c8,c9,c10,c11,c12,c13,-⟩:=HKc.out.cj;rw[Hv10.out]at c0 c1 c2 c3 c4 c5 c6 c7 c8 c9 c10 c11 c12 c13;rw[Hd.out]at c0 c1 c2;go_wp2_with fail;rw[← Hd.out,← Hv10.out];clear c0 c1 c2 c3 c4 c5 c6 c7 c8 c9 c10 c11 c12 c13
     go_cut [12,13] (fun s9 e9 wx=>∃ (g9:Nat) (p9:CP),s9 = .pointer (some ⟨g9,0,none⟩)∧e9 = .int .i64 0∧Hid (MidJ v10 g9 p9 wx)∧Hid (IsJ (kidAt t.ks tx,u) kd p9.k))
     case first=>
      refine wp_region_held_drew (S:=Conj _) (by kernel_rfl) HKc.out.drew.cj (fun hHeld=>?_);obtain⟨v11,hv11⟩:∃ v,v=v10.drew:=⟨_,rfl⟩
      have hb9:Below v10.heap.size v10 v11:=by rw[hv11];exact (Below.refl _ _).drew
      have HKc:=Lib.hid (HKc.out.later hb9);have R:=Lib.hid (RdT.later R.out hb9);have RD:=Lib.hid (RD.out.later hb9);have RX:=Lib.hid (RX.out.later hb9);have RK9:=Lib.hid (RK9.out.later hb9);have RI:=Lib.hid (RI.out.later hb9);clear hb9;have HBV9:Hid (v10.drew=v11):=hv11.symm;rw[← hv11]at hHeld ⊢;clear hv11
      have HBV:Hid (Below v10.heap.size v10 v11):=by unfold Hid;rw[← HBV9.out];exact (Below.refl _ _).drew
      clear HBV9;refine Tk 0 53 ?_;refine Tk 1 54 ?_;refine Tk 4 57 ?_;refine Tk 5 58 ?_;refine Tk 7 60 ?_;refine wpAnyH_ready (rs:=[2,12]) (by kernel_rfl) (by simp) ?_;refine AllReadyH.cons (o:=⟨some 55,_,_,_,_,_⟩) rfl (fun K hK=>?_) (AllReadyH.cons (o:=⟨some 12,_,_,_,_,_⟩) rfl (fun K hK=>?_) (AllReadyH.nil))
      ·go_simp
       clear hHeld;refine Th hK ?_ (fun hHeld=>?_)
       ·exact (HKc.out.alloc _).cj
       clear hK K;obtain⟨gs,hgs⟩:∃ g,g=v11.heap.size:=⟨_,rfl⟩;obtain⟨v12,hv12⟩:∃ W,W=v11.alloc (.cells #[.string tx] 9):=⟨_,rfl⟩
       have hb9:Below v11.heap.size v11 v12:=by rw[hv12];exact Dt.box_below _ _ _
       have HKc:=Lib.hid (HKc.out.later hb9);have R:=Lib.hid (RdT.later R.out hb9);have RD:=Lib.hid (RD.out.later hb9);have RX:=Lib.hid (RX.out.later hb9);have RK9:=Lib.hid (RK9.out.later hb9);have RI:=Lib.hid (RI.out.later hb9);have HBV:=Lib.hid (HBV.out.trans (hb9.mono HBV.out.size));clear hb9
       have RS:Hid (Rd v12 v12.heap.size 1 (some ⟨gs,0,none⟩) 1 1 (strs [tx])):=by unfold Hid;rw[hv12,hgs];exact rd_one1 _ _
       (try rw[← hv12]at hHeld);rw[← hv12];rw[← hgs];clear hgs hv12;refine wpAnyH_ready (rs:=[3,12]) (by kernel_rfl) (by simp) ?_;refine AllReadyH.cons (o:=⟨some 56,_,_,_,_,_⟩) rfl (fun K hK=>?_) (AllReadyH.cons (o:=⟨some 12,_,_,_,_,_⟩) rfl (fun K hK=>?_) (AllReadyH.nil))
       ·go_simp
        (go_at_call 28;refine (refget_any 4 t Ae Ak ne nk ce ck v12 [tx] (some ⟨gs,0,none⟩) 1 1 rfl (by omega) RS.out HT.out (by have:=N.out;omega) R.out).mono ?_);rintro e v13 ⟨Ge,gn,gc,Gk,gm,gd,rfl,ho,hb9⟩;have RG9:Hid (RdP v13 ⟨(kidAt t.ks tx,u),⟨Ge,gn,gc⟩,⟨Gk,gm,gd⟩,⟨B9,m9,d9⟩⟩):=⟨ho.rd,HU.out.2.1,RK9.out.ctx.later hb9⟩;clear ho;have HKc:=Lib.hid (HKc.out.later hb9);have R:=Lib.hid (RdT.later R.out hb9);have RD:=Lib.hid (RD.out.later hb9);have RX:=Lib.hid (RX.out.later hb9);have RK9:=Lib.hid (RK9.out.later hb9);have RI:=Lib.hid (RI.out.later hb9);have HBV:=Lib.hid (HBV.out.trans (hb9.mono HBV.out.size));have RS:=Lib.hid (RS.out.later hb9);clear hb9;clear hHeld;refine Th hK ?_ (fun hHeld=>?_)
        ·exact HKc.out.cj
        clear hK K;refine Tk 6 59 ?_;refine wpAnyH_ready (rs:=[8,12]) (by kernel_rfl) (by simp) ?_;refine AllReadyH.cons (o:=⟨some 61,_,_,_,_,_⟩) rfl (fun K hK=>?_) (AllReadyH.cons (o:=⟨some 12,_,_,_,_,_⟩) rfl (fun K hK=>?_) (AllReadyH.nil))
        ·go_simp
         (go_at_call 27;refine (joinE_any (kidAt t.ks tx,u).1 kd.1 (kidAt t.ks tx,u).2 kd.2 Ge Gk B9 De Dk Dc gn gm gc gd m9 d9 de1 dk1 de2 dk2 dc1 dc2 v13 (by have:=NG.out;show nodes (kidAt t.ks tx)≤1000;omega) RG9.out.len (by have:=HU.out.2.2;omega) RG9.out.tree RG9.out.ctx (by have:=ND.out;omega) RD.out.len (by have:=ND.out;omega) RD.out.tree RD.out.ctx).mono ?_);rintro e v14 ⟨kj,z9,hj,Je,je1,je2,Jk,jk1,jk2,Jc,jc1,jc2,rfl,how,hb9⟩;obtain⟨rfl,hjj,_⟩:=hj.1 ⟨JG.out,JD.out⟩;have HP:Hid (IsJ (kidAt t.ks tx,u) kd kj):=hjj;have HN:Hid (NoC v14 (fun _=>True) ⟨kj,⟨Je,je1,je2⟩,⟨Jk,jk1,jk2⟩,⟨Jc,jc1,jc2⟩⟩):=NoC.of_own how (fun b hb _=>trivial);clear hj hjj how;have HKc:=Lib.hid (HKc.out.later hb9);have R:=Lib.hid (RdT.later R.out hb9);have RD:=Lib.hid (RD.out.later hb9);have RX:=Lib.hid (RX.out.later hb9)
         have RK9:=Lib.hid (RK9.out.later hb9);have RI:=Lib.hid (RI.out.later hb9);have HBV:=Lib.hid (HBV.out.trans (hb9.mono HBV.out.size));have RS:=Lib.hid (RS.out.later hb9);have RG9:=Lib.hid (RG9.out.later hb9);clear hb9;clear hHeld;refine Th hK ?_ (fun hHeld=>?_)
         ·exact HKc.out.cj
         clear hK K;refine Tk 9 52 ?_;refine Tk 10 62 ?_;refine Tk 11 63 ?_;refine Tc 12 (fun K hK=>?_);go_simp;clear hHeld;refine Th hK ?_ (fun hHeld=>?_)
         ·exact (HKc.out.alloc _).cj
         clear hK K;obtain⟨gj,hgj⟩:∃ g,g=v14.heap.size:=⟨_,rfl⟩;obtain⟨v15,hv15⟩:∃ W,W=v14.alloc (.cells #[.slice none 0 0,.slice none 0 0,.slice none 0 0] 29):=⟨_,rfl⟩
         have hb9:Below v14.heap.size v14 v15:=by rw[hv15];exact Dt.box_below _ _ _
         have hvg:v10.heap.size≤gj:=by rw[hgj];exact HBV.out.size
         have hwg:w.heap.size≤gj:=by rw[hgj];exact HKc.out.below.size
         have hnd:d≠gj:=by have h:=World.block_lt_of_cell? v14 _ HKc.out.c0;dsimp only at h;omega
         have hnh:h≠gj:=by have h:=World.block_lt_of_cell? v14 _ HKc.out.c3;dsimp only at h;omega
         have hng:g≠gj:=by have h:=World.block_lt_of_cell? v14 _ HKc.out.c6;dsimp only at h;omega
         have hnp:p≠gj:=by have h:=World.block_lt_of_cell? v14 _ HKc.out.t8.c1;dsimp only at h;omega
         have hnr:r≠gj:=by have h:=World.block_lt_of_cell? v14 _ HKc.out.t8.c3;dsimp only at h;omega
         have b0:v15.cell? ⟨gj,0,none⟩=some (.slice none 0 0):=by rw[hv15,hgj];go_simp
         have b1:v15.cell? ⟨gj,1,none⟩=some (.slice none 0 0):=by rw[hv15,hgj];go_simp
         have b2:v15.cell? ⟨gj,2,none⟩=some (.slice none 0 0):=by rw[hv15,hgj];go_simp
         have HN:=Lib.hid (HN.out.mono (ok':=fun b=>b≠gj) (fun b _ hlt=>by omega));have HKc:=Lib.hid (HKc.out.later hb9);have R:=Lib.hid (RdT.later R.out hb9);have RD:=Lib.hid (RD.out.later hb9);have RX:=Lib.hid (RX.out.later hb9);have RK9:=Lib.hid (RK9.out.later hb9);have RI:=Lib.hid (RI.out.later hb9);have HBV:=Lib.hid (HBV.out.trans (hb9.mono HBV.out.size));have RS:=Lib.hid (RS.out.later hb9);have RG9:=Lib.hid (RG9.out.later hb9);have HN:=Lib.hid (HN.out.later hb9);have HZ:=Lib.hid ((((Kept.nil_of HBV.out).cons_of b2).cons_of b1).cons_of b0);have HF:Hid (Free gj v15):=⟨by rw[hv15,hgj];simp,fun j=>by rw[hv15,hgj];go_simp⟩;have hlt9:gj<v15.heap.size:=HF.out.1;(try rw[← hv15]at hHeld);rw[← hv15];rw[← hgj];clear hgj hv15 hb9 b0 b1 b2;obtain⟨z0,z1,z2,-⟩:=HZ.out.cj;have m0:=HF.out.2 0;have m1:=HF.out.2 1;have m2:=HF.out.2 2
         refine Tc 13 (fun K hK=>?_);go_simp;refine Th hK ?_ (fun hHeld2=>?_)
         ·(try dsimp only)
          have h9:=HKc.out.st3 (g:=gj) hwg (fun x hx=>by simp at hx;rcases hx with rfl | rfl | rfl | rfl | rfl | rfl | rfl | rfl | rfl | rfl | rfl | rfl | rfl | rfl <;> (dsimp only;omega)) (.slice Je je1 je2) (.slice Jk jk1 jk2) (.slice Jc jc1 jc2)
          exact h9.cj
         clear hK K hHeld;have hHeld:=hHeld2;clear hHeld2;refine Tk 14 13 ?_;refine wpAnyH_done (by kernel_rfl) ?_ _;clear hHeld
         have HMID:Hid (MidJ v10 gj ⟨kj,⟨Je,je1,je2⟩,⟨Jk,jk1,jk2⟩,⟨Jc,jc1,jc2⟩⟩ (((v15.setCell ⟨gj,0,none⟩ (.slice Je je1 je2)).setCell ⟨gj,1,none⟩ (.slice Jk jk1 jk2)).setCell ⟨gj,2,none⟩ (.slice Jc jc1 jc2))):=by
          obtain⟨W9,hW9⟩:∃ W,W=(((v15.setCell ⟨gj,0,none⟩ (.slice Je je1 je2)).setCell ⟨gj,1,none⟩ (.slice Jk jk1 jk2)).setCell ⟨gj,2,none⟩ (.slice Jc jc1 jc2)):=⟨_,rfl⟩;rw[← hW9]
          have hb:Below v10.heap.size v10 W9:=by
           rw[hW9];exact (((HBV.out.setCell (p:=⟨gj,0,none⟩) hvg _).setCell (p:=⟨gj,1,none⟩) hvg _).setCell (p:=⟨gj,2,none⟩) hvg _)
          refine⟨(HN.out.keep (by rw[hW9,cells3];exact Nat.le_refl _) (fun b hb _=>by rw[hW9];exact cells3_at b hb)).rd,?_⟩
          refine (((Kept.nil_of hb).cons_of ?_).cons_of ?_).cons_of ?_ <;> (rw[hW9];go_simp)
         clear z0 z1 z2 m0 m1 m2;go_wp2_with fail;go_meet;exact⟨gj,⟨kj,⟨Je,je1,je2⟩,⟨Jk,jk1,jk2⟩,⟨Jc,jc1,jc2⟩⟩,rfl,rfl,HMID.out,HP.out⟩
        ·go_simp
         clear hHeld;refine Th hK ?_ (fun hHeld=>?_)
         ·exact (HKc.out.alloc _).cj
         clear hK K;obtain⟨gj,hgj⟩:∃ g,g=v13.heap.size:=⟨_,rfl⟩;obtain⟨v14,hv14⟩:∃ W,W=v13.alloc (.cells #[.slice none 0 0,.slice none 0 0,.slice none 0 0] 29):=⟨_,rfl⟩
         have hb9:Below v13.heap.size v13 v14:=by rw[hv14];exact Dt.box_below _ _ _
         have hvg:v10.heap.size≤gj:=by rw[hgj];exact HBV.out.size
         have hwg:w.heap.size≤gj:=by rw[hgj];exact HKc.out.below.size
         have hnd:d≠gj:=by have h:=World.block_lt_of_cell? v13 _ HKc.out.c0;dsimp only at h;omega
         have hnh:h≠gj:=by have h:=World.block_lt_of_cell? v13 _ HKc.out.c3;dsimp only at h;omega
         have hng:g≠gj:=by have h:=World.block_lt_of_cell? v13 _ HKc.out.c6;dsimp only at h;omega
         have hnp:p≠gj:=by have h:=World.block_lt_of_cell? v13 _ HKc.out.t8.c1;dsimp only at h;omega
         have hnr:r≠gj:=by have h:=World.block_lt_of_cell? v13 _ HKc.out.t8.c3;dsimp only at h;omega
         have b0:v14.cell? ⟨gj,0,none⟩=some (.slice none 0 0):=by rw[hv14,hgj];go_simp
         have b1:v14.cell? ⟨gj,1,none⟩=some (.slice none 0 0):=by rw[hv14,hgj];go_simp
         have b2:v14.cell? ⟨gj,2,none⟩=some (.slice none 0 0):=by rw[hv14,hgj];go_simp
         have HKc:=Lib.hid (HKc.out.later hb9);have R:=Lib.hid (RdT.later R.out hb9);have RD:=Lib.hid (RD.out.later hb9);have RX:=Lib.hid (RX.out.later hb9);have RK9:=Lib.hid (RK9.out.later hb9);have RI:=Lib.hid (RI.out.later hb9);have HBV:=Lib.hid (HBV.out.trans (hb9.mono HBV.out.size));have RS:=Lib.hid (RS.out.later hb9);have RG9:=Lib.hid (RG9.out.later hb9);have HZ:=Lib.hid ((((Kept.nil_of HBV.out).cons_of b2).cons_of b1).cons_of b0);have HF:Hid (Free gj v14):=⟨by rw[hv14,hgj];simp,fun j=>by rw[hv14,hgj];go_simp⟩;have hlt9:gj<v14.heap.size:=HF.out.1;(try rw[← hv14]at hHeld);rw[← hv14];rw[← hgj];clear hgj hv14 hb9 b0 b1 b2;refine Tc 8 (fun K hK=>?_);go_simp;(go_at_call 27;refine (joinE_any (kidAt t.ks tx,u).1 kd.1 (kidAt t.ks tx,u).2 kd.2 Ge Gk B9 De Dk Dc gn gm gc gd m9 d9 de1 dk1 de2 dk2 dc1 dc2 v14 (by have:=NG.out;show nodes (kidAt t.ks tx)≤1000;omega) RG9.out.len (by have:=HU.out.2.2;omega) RG9.out.tree RG9.out.ctx (by have:=ND.out;omega) RD.out.len (by have:=ND.out;omega) RD.out.tree RD.out.ctx).mono ?_)
         rintro e v15 ⟨kj,z9,hj,Je,je1,je2,Jk,jk1,jk2,Jc,jc1,jc2,rfl,how,hb9⟩;obtain⟨rfl,hjj,_⟩:=hj.1 ⟨JG.out,JD.out⟩;have HP:Hid (IsJ (kidAt t.ks tx,u) kd kj):=hjj;have HN:Hid (NoC v15 (fun b=>b≠gj) ⟨kj,⟨Je,je1,je2⟩,⟨Jk,jk1,jk2⟩,⟨Jc,jc1,jc2⟩⟩):=NoC.of_own how (fun b hb _=>by have h:=HF.out.1;omega);clear hj hjj how;have HKc:=Lib.hid (HKc.out.later hb9);have R:=Lib.hid (RdT.later R.out hb9);have RD:=Lib.hid (RD.out.later hb9);have RX:=Lib.hid (RX.out.later hb9);have RK9:=Lib.hid (RK9.out.later hb9);have RI:=Lib.hid (RI.out.later hb9);have HBV:=Lib.hid (HBV.out.trans (hb9.mono HBV.out.size));have RS:=Lib.hid (RS.out.later hb9);have RG9:=Lib.hid (RG9.out.later hb9);have HZ:=Lib.hid (HZ.out.later hb9);have HF:=Lib.hid (HF.out.later hb9);clear hb9;obtain⟨z0,z1,z2,-⟩:=HZ.out.cj;have m0:=HF.out.2 0;have m1:=HF.out.2 1
         have m2:=HF.out.2 2;clear hHeld;refine Th hK ?_ (fun hHeld=>?_)
         ·exact HKc.out.cj
         clear hK K;refine Tk 9 52 ?_;refine Tk 10 62 ?_;refine Tk 11 63 ?_;refine Tc 13 (fun K hK=>?_);go_simp;refine Th hK ?_ (fun hHeld2=>?_)
         ·(try dsimp only)
          have h9:=HKc.out.st3 (g:=gj) hwg (fun x hx=>by simp at hx;rcases hx with rfl | rfl | rfl | rfl | rfl | rfl | rfl | rfl | rfl | rfl | rfl | rfl | rfl | rfl <;> (dsimp only;omega)) (.slice Je je1 je2) (.slice Jk jk1 jk2) (.slice Jc jc1 jc2)
          exact h9.cj
         clear hK K hHeld;have hHeld:=hHeld2;clear hHeld2;refine Tk 14 13 ?_;refine wpAnyH_done (by kernel_rfl) ?_ _;clear hHeld
         have HMID:Hid (MidJ v10 gj ⟨kj,⟨Je,je1,je2⟩,⟨Jk,jk1,jk2⟩,⟨Jc,jc1,jc2⟩⟩ (((v15.setCell ⟨gj,0,none⟩ (.slice Je je1 je2)).setCell ⟨gj,1,none⟩ (.slice Jk jk1 jk2)).setCell ⟨gj,2,none⟩ (.slice Jc jc1 jc2))):=by
          obtain⟨W9,hW9⟩:∃ W,W=(((v15.setCell ⟨gj,0,none⟩ (.slice Je je1 je2)).setCell ⟨gj,1,none⟩ (.slice Jk jk1 jk2)).setCell ⟨gj,2,none⟩ (.slice Jc jc1 jc2)):=⟨_,rfl⟩;rw[← hW9]
          have hb:Below v10.heap.size v10 W9:=by
           rw[hW9];exact (((HBV.out.setCell (p:=⟨gj,0,none⟩) hvg _).setCell (p:=⟨gj,1,none⟩) hvg _).setCell (p:=⟨gj,2,none⟩) hvg _)
          refine⟨(HN.out.keep (by rw[hW9,cells3];exact Nat.le_refl _) (fun b hb _=>by rw[hW9];exact cells3_at b hb)).rd,?_⟩
          refine (((Kept.nil_of hb).cons_of ?_).cons_of ?_).cons_of ?_ <;> (rw[hW9];go_simp)
         clear z0 z1 z2 m0 m1 m2;go_wp2_with fail;go_meet;exact⟨gj,⟨kj,⟨Je,je1,je2⟩,⟨Jk,jk1,jk2⟩,⟨Jc,jc1,jc2⟩⟩,rfl,rfl,HMID.out,HP.out⟩
       ·go_simp
        clear hHeld;refine Th hK ?_ (fun hHeld=>?_)
        ·exact (HKc.out.alloc _).cj
        clear hK K;obtain⟨gj,hgj⟩:∃ g,g=v12.heap.size:=⟨_,rfl⟩;obtain⟨v13,hv13⟩:∃ W,W=v12.alloc (.cells #[.slice none 0 0,.slice none 0 0,.slice none 0 0] 29):=⟨_,rfl⟩
        have hb9:Below v12.heap.size v12 v13:=by rw[hv13];exact Dt.box_below _ _ _
        have hvg:v10.heap.size≤gj:=by rw[hgj];exact HBV.out.size
        have hwg:w.heap.size≤gj:=by rw[hgj];exact HKc.out.below.size
        have hnd:d≠gj:=by have h:=World.block_lt_of_cell? v12 _ HKc.out.c0;dsimp only at h;omega
        have hnh:h≠gj:=by have h:=World.block_lt_of_cell? v12 _ HKc.out.c3;dsimp only at h;omega
        have hng:g≠gj:=by have h:=World.block_lt_of_cell? v12 _ HKc.out.c6;dsimp only at h;omega
        have hnp:p≠gj:=by have h:=World.block_lt_of_cell? v12 _ HKc.out.t8.c1;dsimp only at h;omega
        have hnr:r≠gj:=by have h:=World.block_lt_of_cell? v12 _ HKc.out.t8.c3;dsimp only at h;omega
        have b0:v13.cell? ⟨gj,0,none⟩=some (.slice none 0 0):=by rw[hv13,hgj];go_simp
        have b1:v13.cell? ⟨gj,1,none⟩=some (.slice none 0 0):=by rw[hv13,hgj];go_simp
        have b2:v13.cell? ⟨gj,2,none⟩=some (.slice none 0 0):=by rw[hv13,hgj];go_simp
        have HKc:=Lib.hid (HKc.out.later hb9);have R:=Lib.hid (RdT.later R.out hb9);have RD:=Lib.hid (RD.out.later hb9);have RX:=Lib.hid (RX.out.later hb9);have RK9:=Lib.hid (RK9.out.later hb9);have RI:=Lib.hid (RI.out.later hb9);have HBV:=Lib.hid (HBV.out.trans (hb9.mono HBV.out.size));have RS:=Lib.hid (RS.out.later hb9);have HZ:=Lib.hid ((((Kept.nil_of HBV.out).cons_of b2).cons_of b1).cons_of b0);have HF:Hid (Free gj v13):=⟨by rw[hv13,hgj];simp,fun j=>by rw[hv13,hgj];go_simp⟩;have hlt9:gj<v13.heap.size:=HF.out.1;(try rw[← hv13]at hHeld);rw[← hv13];rw[← hgj];clear hgj hv13 hb9 b0 b1 b2;refine Tc 3 (fun K hK=>?_);go_simp;(go_at_call 28;refine (refget_any 4 t Ae Ak ne nk ce ck v13 [tx] (some ⟨gs,0,none⟩) 1 1 rfl (by omega) RS.out HT.out (by have:=N.out;omega) R.out).mono ?_);rintro e v14 ⟨Ge,gn,gc,Gk,gm,gd,rfl,ho,hb9⟩
        have RG9:Hid (RdP v14 ⟨(kidAt t.ks tx,u),⟨Ge,gn,gc⟩,⟨Gk,gm,gd⟩,⟨B9,m9,d9⟩⟩):=⟨ho.rd,HU.out.2.1,RK9.out.ctx.later hb9⟩;clear ho;have HKc:=Lib.hid (HKc.out.later hb9);have R:=Lib.hid (RdT.later R.out hb9);have RD:=Lib.hid (RD.out.later hb9);have RX:=Lib.hid (RX.out.later hb9);have RK9:=Lib.hid (RK9.out.later hb9);have RI:=Lib.hid (RI.out.later hb9);have HBV:=Lib.hid (HBV.out.trans (hb9.mono HBV.out.size));have RS:=Lib.hid (RS.out.later hb9);have HZ:=Lib.hid (HZ.out.later hb9);have HF:=Lib.hid (HF.out.later hb9);clear hb9;clear hHeld;refine Th hK ?_ (fun hHeld=>?_)
        ·exact HKc.out.cj
        clear hK K;refine Tk 6 59 ?_;refine Tc 8 (fun K hK=>?_);go_simp;(go_at_call 27;refine (joinE_any (kidAt t.ks tx,u).1 kd.1 (kidAt t.ks tx,u).2 kd.2 Ge Gk B9 De Dk Dc gn gm gc gd m9 d9 de1 dk1 de2 dk2 dc1 dc2 v14 (by have:=NG.out;show nodes (kidAt t.ks tx)≤1000;omega) RG9.out.len (by have:=HU.out.2.2;omega) RG9.out.tree RG9.out.ctx (by have:=ND.out;omega) RD.out.len (by have:=ND.out;omega) RD.out.tree RD.out.ctx).mono ?_);rintro e v15 ⟨kj,z9,hj,Je,je1,je2,Jk,jk1,jk2,Jc,jc1,jc2,rfl,how,hb9⟩;obtain⟨rfl,hjj,_⟩:=hj.1 ⟨JG.out,JD.out⟩;have HP:Hid (IsJ (kidAt t.ks tx,u) kd kj):=hjj;have HN:Hid (NoC v15 (fun b=>b≠gj) ⟨kj,⟨Je,je1,je2⟩,⟨Jk,jk1,jk2⟩,⟨Jc,jc1,jc2⟩⟩):=NoC.of_own how (fun b hb _=>by have h:=HF.out.1;omega);clear hj hjj how;have HKc:=Lib.hid (HKc.out.later hb9);have R:=Lib.hid (RdT.later R.out hb9)
        have RD:=Lib.hid (RD.out.later hb9);have RX:=Lib.hid (RX.out.later hb9);have RK9:=Lib.hid (RK9.out.later hb9);have RI:=Lib.hid (RI.out.later hb9);have HBV:=Lib.hid (HBV.out.trans (hb9.mono HBV.out.size));have RS:=Lib.hid (RS.out.later hb9);have HZ:=Lib.hid (HZ.out.later hb9);have HF:=Lib.hid (HF.out.later hb9);have RG9:=Lib.hid (RG9.out.later hb9);clear hb9;obtain⟨z0,z1,z2,-⟩:=HZ.out.cj;have m0:=HF.out.2 0;have m1:=HF.out.2 1;have m2:=HF.out.2 2;clear hHeld;refine Th hK ?_ (fun hHeld=>?_)
        ·exact HKc.out.cj
        clear hK K;refine Tk 9 52 ?_;refine Tk 10 62 ?_;refine Tk 11 63 ?_;refine Tc 13 (fun K hK=>?_);go_simp;refine Th hK ?_ (fun hHeld2=>?_)
        ·(try dsimp only)
         have h9:=HKc.out.st3 (g:=gj) hwg (fun x hx=>by simp at hx;rcases hx with rfl | rfl | rfl | rfl | rfl | rfl | rfl | rfl | rfl | rfl | rfl | rfl | rfl | rfl <;> (dsimp only;omega)) (.slice Je je1 je2) (.slice Jk jk1 jk2) (.slice Jc jc1 jc2)
         exact h9.cj
        clear hK K hHeld;have hHeld:=hHeld2;clear hHeld2;refine Tk 14 13 ?_;refine wpAnyH_done (by kernel_rfl) ?_ _;clear hHeld
        have HMID:Hid (MidJ v10 gj ⟨kj,⟨Je,je1,je2⟩,⟨Jk,jk1,jk2⟩,⟨Jc,jc1,jc2⟩⟩ (((v15.setCell ⟨gj,0,none⟩ (.slice Je je1 je2)).setCell ⟨gj,1,none⟩ (.slice Jk jk1 jk2)).setCell ⟨gj,2,none⟩ (.slice Jc jc1 jc2))):=by
         obtain⟨W9,hW9⟩:∃ W,W=(((v15.setCell ⟨gj,0,none⟩ (.slice Je je1 je2)).setCell ⟨gj,1,none⟩ (.slice Jk jk1 jk2)).setCell ⟨gj,2,none⟩ (.slice Jc jc1 jc2)):=⟨_,rfl⟩;rw[← hW9]
         have hb:Below v10.heap.size v10 W9:=by
          rw[hW9];exact (((HBV.out.setCell (p:=⟨gj,0,none⟩) hvg _).setCell (p:=⟨gj,1,none⟩) hvg _).setCell (p:=⟨gj,2,none⟩) hvg _)
         refine⟨(HN.out.keep (by rw[hW9,cells3];exact Nat.le_refl _) (fun b hb _=>by rw[hW9];exact cells3_at b hb)).rd,?_⟩
         refine (((Kept.nil_of hb).cons_of ?_).cons_of ?_).cons_of ?_ <;> (rw[hW9];go_simp)
        clear z0 z1 z2 m0 m1 m2;go_wp2_with fail;go_meet;exact⟨gj,⟨kj,⟨Je,je1,je2⟩,⟨Jk,jk1,jk2⟩,⟨Jc,jc1,jc2⟩⟩,rfl,rfl,HMID.out,HP.out⟩
      ·go_simp
       clear hHeld;refine Th hK ?_ (fun hHeld=>?_)
       ·exact (HKc.out.alloc _).cj
       clear hK K;obtain⟨gj,hgj⟩:∃ g,g=v11.heap.size:=⟨_,rfl⟩;obtain⟨v12,hv12⟩:∃ W,W=v11.alloc (.cells #[.slice none 0 0,.slice none 0 0,.slice none 0 0] 29):=⟨_,rfl⟩
       have hb9:Below v11.heap.size v11 v12:=by rw[hv12];exact Dt.box_below _ _ _
       have hvg:v10.heap.size≤gj:=by rw[hgj];exact HBV.out.size
       have hwg:w.heap.size≤gj:=by rw[hgj];exact HKc.out.below.size
       have hnd:d≠gj:=by have h:=World.block_lt_of_cell? v11 _ HKc.out.c0;dsimp only at h;omega
       have hnh:h≠gj:=by have h:=World.block_lt_of_cell? v11 _ HKc.out.c3;dsimp only at h;omega
       have hng:g≠gj:=by have h:=World.block_lt_of_cell? v11 _ HKc.out.c6;dsimp only at h;omega
       have hnp:p≠gj:=by have h:=World.block_lt_of_cell? v11 _ HKc.out.t8.c1;dsimp only at h;omega
       have hnr:r≠gj:=by have h:=World.block_lt_of_cell? v11 _ HKc.out.t8.c3;dsimp only at h;omega
       have b0:v12.cell? ⟨gj,0,none⟩=some (.slice none 0 0):=by rw[hv12,hgj];go_simp
       have b1:v12.cell? ⟨gj,1,none⟩=some (.slice none 0 0):=by rw[hv12,hgj];go_simp
       have b2:v12.cell? ⟨gj,2,none⟩=some (.slice none 0 0):=by rw[hv12,hgj];go_simp
       have HKc:=Lib.hid (HKc.out.later hb9);have R:=Lib.hid (RdT.later R.out hb9);have RD:=Lib.hid (RD.out.later hb9);have RX:=Lib.hid (RX.out.later hb9);have RK9:=Lib.hid (RK9.out.later hb9);have RI:=Lib.hid (RI.out.later hb9);have HBV:=Lib.hid (HBV.out.trans (hb9.mono HBV.out.size));have HZ:=Lib.hid ((((Kept.nil_of HBV.out).cons_of b2).cons_of b1).cons_of b0);have HF:Hid (Free gj v12):=⟨by rw[hv12,hgj];simp,fun j=>by rw[hv12,hgj];go_simp⟩;have hlt9:gj<v12.heap.size:=HF.out.1;(try rw[← hv12]at hHeld);rw[← hv12];rw[← hgj];clear hgj hv12 hb9 b0 b1 b2;refine Tc 2 (fun K hK=>?_);go_simp;clear hHeld;refine Th hK ?_ (fun hHeld=>?_)
       ·exact (HKc.out.alloc _).cj
       clear hK K;obtain⟨gs,hgs⟩:∃ g,g=v12.heap.size:=⟨_,rfl⟩;obtain⟨v13,hv13⟩:∃ W,W=v12.alloc (.cells #[.string tx] 9):=⟨_,rfl⟩
       have hb9:Below v12.heap.size v12 v13:=by rw[hv13];exact Dt.box_below _ _ _
       have HKc:=Lib.hid (HKc.out.later hb9);have R:=Lib.hid (RdT.later R.out hb9);have RD:=Lib.hid (RD.out.later hb9);have RX:=Lib.hid (RX.out.later hb9);have RK9:=Lib.hid (RK9.out.later hb9);have RI:=Lib.hid (RI.out.later hb9);have HBV:=Lib.hid (HBV.out.trans (hb9.mono HBV.out.size));have HZ:=Lib.hid (HZ.out.later hb9);have HF:=Lib.hid (HF.out.later hb9);clear hb9
       have RS:Hid (Rd v13 v13.heap.size 1 (some ⟨gs,0,none⟩) 1 1 (strs [tx])):=by unfold Hid;rw[hv13,hgs];exact rd_one1 _ _
       (try rw[← hv13]at hHeld);rw[← hv13];rw[← hgs];clear hgs hv13;refine Tc 3 (fun K hK=>?_);go_simp;(go_at_call 28;refine (refget_any 4 t Ae Ak ne nk ce ck v13 [tx] (some ⟨gs,0,none⟩) 1 1 rfl (by omega) RS.out HT.out (by have:=N.out;omega) R.out).mono ?_);rintro e v14 ⟨Ge,gn,gc,Gk,gm,gd,rfl,ho,hb9⟩;have RG9:Hid (RdP v14 ⟨(kidAt t.ks tx,u),⟨Ge,gn,gc⟩,⟨Gk,gm,gd⟩,⟨B9,m9,d9⟩⟩):=⟨ho.rd,HU.out.2.1,RK9.out.ctx.later hb9⟩;clear ho;have HKc:=Lib.hid (HKc.out.later hb9);have R:=Lib.hid (RdT.later R.out hb9);have RD:=Lib.hid (RD.out.later hb9);have RX:=Lib.hid (RX.out.later hb9);have RK9:=Lib.hid (RK9.out.later hb9);have RI:=Lib.hid (RI.out.later hb9);have HBV:=Lib.hid (HBV.out.trans (hb9.mono HBV.out.size));have HZ:=Lib.hid (HZ.out.later hb9);have HF:=Lib.hid (HF.out.later hb9);have RS:=Lib.hid (RS.out.later hb9)
       clear hb9;clear hHeld;refine Th hK ?_ (fun hHeld=>?_)
       ·exact HKc.out.cj
       clear hK K;refine Tk 6 59 ?_;refine Tc 8 (fun K hK=>?_);go_simp;(go_at_call 27;refine (joinE_any (kidAt t.ks tx,u).1 kd.1 (kidAt t.ks tx,u).2 kd.2 Ge Gk B9 De Dk Dc gn gm gc gd m9 d9 de1 dk1 de2 dk2 dc1 dc2 v14 (by have:=NG.out;show nodes (kidAt t.ks tx)≤1000;omega) RG9.out.len (by have:=HU.out.2.2;omega) RG9.out.tree RG9.out.ctx (by have:=ND.out;omega) RD.out.len (by have:=ND.out;omega) RD.out.tree RD.out.ctx).mono ?_);rintro e v15 ⟨kj,z9,hj,Je,je1,je2,Jk,jk1,jk2,Jc,jc1,jc2,rfl,how,hb9⟩;obtain⟨rfl,hjj,_⟩:=hj.1 ⟨JG.out,JD.out⟩;have HP:Hid (IsJ (kidAt t.ks tx,u) kd kj):=hjj;have HN:Hid (NoC v15 (fun b=>b≠gj) ⟨kj,⟨Je,je1,je2⟩,⟨Jk,jk1,jk2⟩,⟨Jc,jc1,jc2⟩⟩):=NoC.of_own how (fun b hb _=>by have h:=HF.out.1;omega);clear hj hjj how;have HKc:=Lib.hid (HKc.out.later hb9);have R:=Lib.hid (RdT.later R.out hb9)
       have RD:=Lib.hid (RD.out.later hb9);have RX:=Lib.hid (RX.out.later hb9);have RK9:=Lib.hid (RK9.out.later hb9);have RI:=Lib.hid (RI.out.later hb9);have HBV:=Lib.hid (HBV.out.trans (hb9.mono HBV.out.size));have HZ:=Lib.hid (HZ.out.later hb9);have HF:=Lib.hid (HF.out.later hb9);have RS:=Lib.hid (RS.out.later hb9);have RG9:=Lib.hid (RG9.out.later hb9);clear hb9;obtain⟨z0,z1,z2,-⟩:=HZ.out.cj;have m0:=HF.out.2 0;have m1:=HF.out.2 1;have m2:=HF.out.2 2;clear hHeld;refine Th hK ?_ (fun hHeld=>?_)
       ·exact HKc.out.cj
       clear hK K;refine Tk 9 52 ?_;refine Tk 10 62 ?_;refine Tk 11 63 ?_;refine Tc 13 (fun K hK=>?_);go_simp;refine Th hK ?_ (fun hHeld2=>?_)
       ·(try dsimp only)
        have h9:=HKc.out.st3 (g:=gj) hwg (fun x hx=>by simp at hx;rcases hx with rfl | rfl | rfl | rfl | rfl | rfl | rfl | rfl | rfl | rfl | rfl | rfl | rfl | rfl <;> (dsimp only;omega)) (.slice Je je1 je2) (.slice Jk jk1 jk2) (.slice Jc jc1 jc2)
        exact h9.cj
       clear hK K hHeld;have hHeld:=hHeld2;clear hHeld2;refine Tk 14 13 ?_;refine wpAnyH_done (by kernel_rfl) ?_ _;clear hHeld
       have HMID:Hid (MidJ v10 gj ⟨kj,⟨Je,je1,je2⟩,⟨Jk,jk1,jk2⟩,⟨Jc,jc1,jc2⟩⟩ (((v15.setCell ⟨gj,0,none⟩ (.slice Je je1 je2)).setCell ⟨gj,1,none⟩ (.slice Jk jk1 jk2)).setCell ⟨gj,2,none⟩ (.slice Jc jc1 jc2))):=by
        obtain⟨W9,hW9⟩:∃ W,W=(((v15.setCell ⟨gj,0,none⟩ (.slice Je je1 je2)).setCell ⟨gj,1,none⟩ (.slice Jk jk1 jk2)).setCell ⟨gj,2,none⟩ (.slice Jc jc1 jc2)):=⟨_,rfl⟩;rw[← hW9]
        have hb:Below v10.heap.size v10 W9:=by
         rw[hW9];exact (((HBV.out.setCell (p:=⟨gj,0,none⟩) hvg _).setCell (p:=⟨gj,1,none⟩) hvg _).setCell (p:=⟨gj,2,none⟩) hvg _)
        refine⟨(HN.out.keep (by rw[hW9,cells3];exact Nat.le_refl _) (fun b hb _=>by rw[hW9];exact cells3_at b hb)).rd,?_⟩
        refine (((Kept.nil_of hb).cons_of ?_).cons_of ?_).cons_of ?_ <;> (rw[hW9];go_simp)
       clear z0 z1 z2 m0 m1 m2;go_wp2_with fail;go_meet;exact⟨gj,⟨kj,⟨Je,je1,je2⟩,⟨Jk,jk1,jk2⟩,⟨Jc,jc1,jc2⟩⟩,rfl,rfl,HMID.out,HP.out⟩
     case rest=>
      obtain⟨wcgj,hwcgj⟩:∃ W,W=wc:=⟨_,rfl⟩;subst hwcgj;obtain⟨gj,⟨kj,⟨Je,je1,je2⟩,⟨Jk,jk1,jk2⟩,⟨Jc,jc1,jc2⟩⟩,rfl,rfl,hmid,hprop⟩:=hcut;obtain⟨hrp,hkp⟩:=hmid.out;have hb9:=hkp.below;have HKc:=Lib.hid (HKc.out.later hb9);have R:=Lib.hid (RdT.later R.out hb9);have RD:=Lib.hid (RD.out.later hb9);have RX:=Lib.hid (RX.out.later hb9);have RK9:=Lib.hid (RK9.out.later hb9);have RI:=Lib.hid (RI.out.later hb9);clear hb9;have RJ:=Lib.hid hrp;have PJ:Hid (IsJ (kidAt t.ks tx,u) kd kj):=hprop.out;have HKc:=Lib.hid ((((HKc.out.cons_of hkp.c2).cons_of hkp.c1).cons_of hkp.c0));clear hmid hprop hrp hkp;have JI:=Lib.hid (PI.out.right JT.out JX.out)
      have NI:Hid (nodes ki.1≤101):=by
       have h:=isj_nodes2 PI.out;have h2:=N.out;have h3:=HNX.out;dsimp only at h;unfold Hid;omega
      have EB:Hid (kidAt ki.1.ks tx=kj.1):=map_below (x:=kd) (x':=wrapR kd.1 [tx]) HT.out HU.out.1 JD.out JX.out (fun p q=>ent_wrapR HUP.out.2.2.1 p q) PI.out PJ.out;have NB:Hid (nodes (kidAt ki.1.ks tx)≤101):=Nat.le_trans (nodes_kid_at ki.1 tx) NI.out;obtain⟨c0,c1,c2,c3,c4,c5,c6,c7,c8,c9,c10,c11,c12,c13,c14,c15,c16,-⟩:=HKc.out.cj;go_wp2_with fail;clear c0 c1 c2 c3 c4 c5 c6 c7 c8 c9 c10 c11 c12 c13 c14 c15 c16;refine wp_region_held_drew (S:=Conj _) (by kernel_rfl) HKc.out.drew.cj (fun hHeld=>?_);obtain⟨v11,hv11⟩:∃ v,v=wcgj.drew:=⟨_,rfl⟩
      have hb9:Below wcgj.heap.size wcgj v11:=by rw[hv11];exact (Below.refl _ _).drew
      have HKc:=Lib.hid (HKc.out.later hb9);have R:=Lib.hid (RdT.later R.out hb9);have RD:=Lib.hid (RD.out.later hb9);have RX:=Lib.hid (RX.out.later hb9);have RK9:=Lib.hid (RK9.out.later hb9);have RI:=Lib.hid (RI.out.later hb9);have RJ:=Lib.hid (RJ.out.later hb9);clear hb9;rw[← hv11]at hHeld ⊢;clear hv11;refine Tk 0 64 ?_;refine Tk 1 65 ?_;refine Tk 2 66 ?_;refine Tk 3 67 ?_;refine Tk 4 68 ?_;refine Tk 5 69 ?_;refine Tk 6 70 ?_;refine Tk 7 71 ?_;refine Tk 8 72 ?_;refine Tk 9 73 ?_;refine Tk 12 76 ?_;refine Tk 13 77 ?_;refine Tc 10 (fun K hK=>?_);go_simp;clear hHeld;refine Th hK ?_ (fun hHeld=>?_)
      ·exact (HKc.out.alloc _).cj
      clear hK K;obtain⟨gs2,hgs2⟩:∃ g,g=v11.heap.size:=⟨_,rfl⟩;obtain⟨v12,hv12⟩:∃ W,W=v11.alloc (.cells #[.string tx] 9):=⟨_,rfl⟩
      have hb9:Below v11.heap.size v11 v12:=by rw[hv12];exact Dt.box_below _ _ _
      have HKc:=Lib.hid (HKc.out.later hb9);have R:=Lib.hid (RdT.later R.out hb9);have RD:=Lib.hid (RD.out.later hb9);have RX:=Lib.hid (RX.out.later hb9);have RK9:=Lib.hid (RK9.out.later hb9);have RI:=Lib.hid (RI.out.later hb9);have RJ:=Lib.hid (RJ.out.later hb9);clear hb9
      have RS2:Hid (Rd v12 v12.heap.size 1 (some ⟨gs2,0,none⟩) 1 1 (strs [tx])):=by unfold Hid;rw[hv12,hgs2];exact rd_one1 _ _
      (try rw[← hv12]at hHeld);rw[← hv12];rw[← hgs2];clear hgs2 hv12;refine Tc 11 (fun K hK=>?_);go_simp;(go_at_call 30;refine (get_any ki.1 Ie Ik ie1 ik1 ie2 ik2 v12 [tx] (some ⟨gs2,0,none⟩) 1 1 rfl (by omega) RS2.out (LenT.few (by have:=NI.out;omega)) (by have:=NI.out;omega) RI.out.tree).mono ?_);rintro e v13 ⟨He,hn1,hc1,Hk,hm1,hd1,rfl,ho,hb9⟩;rw[if_pos (Tr.rightB_iff.2 JI.out.tree)]at ho;have RH:Hid (RdT v13 v13.heap.size (kidAt ki.1.ks tx) ⟨He,hn1,hc1⟩ ⟨Hk,hm1,hd1⟩):=ho.rd;clear ho;have HKc:=Lib.hid (HKc.out.later hb9);have R:=Lib.hid (RdT.later R.out hb9);have RD:=Lib.hid (RD.out.later hb9);have RX:=Lib.hid (RX.out.later hb9);have RK9:=Lib.hid (RK9.out.later hb9);have RI:=Lib.hid (RI.out.later hb9);have RJ:=Lib.hid (RJ.out.later hb9);have RS2:=Lib.hid (RS2.out.later hb9);clear hb9;clear hHeld;refine Th hK ?_ (fun hHeld=>?_)
      ·exact HKc.out.cj
      clear hK K;refine Tc 14 (fun K hK=>?_);go_simp;(go_at_call 29;refine (sameT_any (kidAt ki.1.ks tx) kj.1 He Hk hn1 hm1 hc1 hd1 Je Jk je1 jk1 je2 jk2 v13 (LenT.few (by have:=NB.out;omega)) (by have:=NB.out;omega) RH.out RJ.out.tree).mono ?_);rw[Tr.rightB_iff.2 (kid_right JI.out.tree tx),eqB_yes EB.out];rintro e v14 ⟨rfl,hb9⟩;have HKc:=Lib.hid (HKc.out.later hb9);have R:=Lib.hid (RdT.later R.out hb9);have RD:=Lib.hid (RD.out.later hb9);have RX:=Lib.hid (RX.out.later hb9);have RK9:=Lib.hid (RK9.out.later hb9);have RI:=Lib.hid (RI.out.later hb9);have RJ:=Lib.hid (RJ.out.later hb9);have RS2:=Lib.hid (RS2.out.later hb9);have RH:=Lib.hid (RdT.later RH.out hb9);clear hb9;clear hHeld;refine Th hK ?_ (fun hHeld=>?_)
      ·exact HKc.out.cj
      clear hK K;refine Tk 15 79 ?_;refine Tk 16 6 ?_;refine wpAnyH_done (by kernel_rfl) ?_ _;clear hHeld;go_wp2_with fail;go_ret;exact⟨by first | rfl | simp,HKc.out.below⟩
    ·obtain rfl:kx=noneK:=by
      rw[← HKX.out];exact upd_not (by rw[HZX.out];omega)
     obtain⟨c0,c1,c2,c3,c4,c5,c6,c7,-⟩:=HKc.out.cj;rw[Hv6.out]at c0 c1 c2 c3 c4 c5 c6 c7;rw[Hg.out]at c0 c1 c2;go_wp2_with fail;rw[← Hg.out,← Hv6.out];refine (refsameK_any noneK.1 none_ noneK.2 [] Xe Xk Xc none none none xe1 xk1 xe2 xk2 xc1 xc2 0 0 0 0 0 0 v6 true (decide_eq_true rfl) (by show nodes none_≤_;rw[nodes_none];omega) RX.out.len (by have h:=RX.out.len;have h2:noneK.2.length=0:=rfl;dsimp only at h;omega) RX.out.tree RX.out.ctx rfl (RdP.zero _).tree (RdP.zero _).ctx).mono ?_;rintro e v7 ⟨rfl,hb9⟩;have HKc:=Lib.hid (HKc.out.later hb9);have R:=Lib.hid (RdT.later R.out hb9);have RD:=Lib.hid (RD.out.later hb9);have RX:=Lib.hid (RX.out.later hb9);clear hb9;clear c0 c1 c2 c3 c4 c5 c6 c7;go_wp2_with fail;go_ret;exact⟨by first | rfl | simp,HKc.out.below⟩
    ·obtain rfl:kx=noneK:=by
      rw[← HKX.out];exact upd_not (by rw[HZX.out];omega)
     obtain⟨c0,c1,c2,c3,c4,c5,c6,c7,-⟩:=HKc.out.cj;rw[Hv6.out]at c0 c1 c2 c3 c4 c5 c6 c7;rw[Hg.out]at c0 c1 c2;go_wp2_with fail;rw[← Hg.out,← Hv6.out];refine (refsameK_any noneK.1 none_ noneK.2 [] Xe Xk Xc none none none xe1 xk1 xe2 xk2 xc1 xc2 0 0 0 0 0 0 v6 true (decide_eq_true rfl) (by show nodes none_≤_;rw[nodes_none];omega) RX.out.len (by have h:=RX.out.len;have h2:noneK.2.length=0:=rfl;dsimp only at h;omega) RX.out.tree RX.out.ctx rfl (RdP.zero _).tree (RdP.zero _).ctx).mono ?_;rintro e v7 ⟨rfl,hb9⟩;have HKc:=Lib.hid (HKc.out.later hb9);have R:=Lib.hid (RdT.later R.out hb9);have RD:=Lib.hid (RD.out.later hb9);have RX:=Lib.hid (RX.out.later hb9);clear hb9;clear c0 c1 c2 c3 c4 c5 c6 c7;go_wp2_with fail;go_ret;exact⟨by first | rfl | simp,HKc.out.below⟩
    ·obtain rfl:kx=noneK:=by
      rw[← HKX.out];exact upd_not (by rw[HZX.out];omega)
     obtain⟨c0,c1,c2,c3,c4,c5,c6,c7,-⟩:=HKc.out.cj;rw[Hv6.out]at c0 c1 c2 c3 c4 c5 c6 c7;rw[Hg.out]at c0 c1 c2;go_wp2_with fail;rw[← Hg.out,← Hv6.out];refine (refsameK_any noneK.1 none_ noneK.2 [] Xe Xk Xc none none none xe1 xk1 xe2 xk2 xc1 xc2 0 0 0 0 0 0 v6 true (decide_eq_true rfl) (by show nodes none_≤_;rw[nodes_none];omega) RX.out.len (by have h:=RX.out.len;have h2:noneK.2.length=0:=rfl;dsimp only at h;omega) RX.out.tree RX.out.ctx rfl (RdP.zero _).tree (RdP.zero _).ctx).mono ?_;rintro e v7 ⟨rfl,hb9⟩;have HKc:=Lib.hid (HKc.out.later hb9);have R:=Lib.hid (RdT.later R.out hb9);have RD:=Lib.hid (RD.out.later hb9);have RX:=Lib.hid (RX.out.later hb9);clear hb9;clear c0 c1 c2 c3 c4 c5 c6 c7;go_wp2_with fail;go_ret;exact⟨by first | rfl | simp,HKc.out.below⟩
set_option maxRecDepth 100000 in
theorem lifted (os:Os) (started:os.Started) (H:Type) (enc:TypeId×Value→H) :
  ReturnsInHanded {} Tryz.checked os 6 .any (Rows.ormapBelowSpec.pre6 enc Tryz.prog Tryz.f6 Rows.ormapBelowRow.domain false) (Rows.ormapBelowSpec.post enc Tryz.prog Tryz.f6 false true false false):=by
 refine returnsInHanded_of_change_sized (C:=Tryz.checked) own started (by kernel_rfl) Tryz.func6
  (ChangeSpec.witness6 (enc:=enc) (C:=Tryz.checked) false ⟨#[],#[.agg #[.slice none 0 0,.slice none 0 0],.string ByteArray.empty,.agg #[.slice none 0 0,.slice none 0 0,.slice none 0 0]],[]⟩ 8 (by kernel_rfl) (by kernel_rfl) (by kernel_rfl) (by kernel_rfl)) ?_
 intro W base args ds gs before hval0 hW _ hsz0 _;have hval:∀ (j:Nat) t v,Tryz.f6.params[j]?=some t→args[j]?=some v→Value.okWide Tryz.prog W .any base t v:=hval0;have hW':=hW;obtain⟨p,q,hA0,hV,rfl,hfz,hnd⟩:=hW;have hA:DataW.TrodAll enc Tryz.prog W 0 (fun _=>true) true Tryz.f6.params.toList args.toList ds p:=hA0;rw[Tryz.params6]at hA hval;obtain⟨v0,v1,v2,d0,d1,d2,p0,p1,p2,rfl,rfl,rfl,h0,h1,h2⟩:=trodAll_three hA;obtain⟨rfl,rfl⟩:=trodVars_none hV;have hsz:(DataW.weightsEach Tryz.prog (25::9::29::_) (d0::d1::d2::_)).all (· ≤ reachBytes)=true:=hsz0;obtain⟨hw0,hsz⟩:=Tr.weights_head hsz;obtain⟨hw1,hsz⟩:=Tr.weights_head hsz;obtain⟨hw2,hsz⟩:=Tr.weights_head hsz
 obtain⟨t0,ae0,ak0,ne0,nk0,ce0,ck0,rfl,hr0,hl0⟩:=Tr.treeV_of_trod (hval 0 25 v0 rfl rfl) h0 hw0;obtain⟨s1,rfl,rfl,rfl,hs1⟩:=Go.ChangeMaps.open_string Tryz.underlying9 (hval 1 9 v1 rfl rfl) h1;obtain⟨t2,s2,A2,B2,C2,n2,m2,ne2,nk2,nc2,nd2,rfl,hr2,hl2⟩:=Cs.cauV_of_trod (hval 2 29 v2 rfl rfl) h2 hw2;refine (walk_any t0 ae0 ak0 ne0 nk0 ce0 ck0 s1 (t2,s2) A2 B2 C2 n2 ne2 m2 nk2 nc2 nd2 W hr0 hl0 hr2 hl2).mono fun e W' ⟨he,hb⟩=>?_;subst he;exact⟨_,rfl,law_post hW' (by kernel_rfl) rfl rfl rfl hb⟩
theorem proved:Rows.OrmapBelowSaid:=
 OpenClaim.holds_of_wide 6 Tryz.f6 rfl rfl rfl rfl rfl rfl rfl ⟨rfl,rfl,rfl,rfl,rfl⟩ rfl rfl rfl rfl rfl (by kernel_rfl) Tryz.func6 (by kernel_rfl)
  (of_decide_eq_true (by kernel_rfl)) (by unfold Func.isWrapper;first | (rw[if_pos (by decide +kernel)];kernel_rfl) | (rw[if_neg (by decide +kernel)];exact⟨rfl,rfl⟩))
  (fun os started H enc _=>lifted os started H enc)
#print axioms proved
end lawOrmapBelow
end Go.Proofs.YtjpcechcefhcfaaGreat
