/- Maps: awake, small; what a change of one entry is. -/
import Derived.Test.YtjpcechcefhcfaaGreatG00
import Derived.Test.YtjpcechcefhcfaaGreatG16660
import Derived.Test.YtjpcechcefhcfaaGreatG50
import Derived.Test.YtjpcechcefhcfaaGreatDltRef
import Derived.Test.YtjpcechcefhcfaaGreatSetRef
import Derived.Test.YtjpcechcefhcfaaGreatG40
import Derived.Test.YtjpcechcefhcfaaGreatTreeRefSame
import Derived.Test.YtjpcechcefhcfaaGreatG20
import Derived.Test.YtjpcechcefhcfaaGreatG120
import Derived.Test.YtjpcechcefhcfaaGreatCauKit
import Derived.Test.YtjpcechcefhcfaaGreatG140
import Derived.Test.YtjpcechcefhcfaaGreatG90
set_option maxRecDepth 100000
set_option maxHeartbeats 4000000
namespace Go.Proofs.YtjpcechcefhcfaaGreat
open Go.ChangeShapes Go.WideShapes Go.ChangeAt Go.RowKit
namespace Cs
open Tr Cx Sp Rw Classical
theorem small_tree (t:T) (Ae Ak:Option Addr) (ne nk ce ck:Nat) (w:World) (hl:LenT reachBytes t) (hr:RdT w w.heap.size t ⟨Ae,ne,ce⟩ ⟨Ak,nk,ck⟩) :
  Calls Tryz.prog 9 #[.agg #[.slice Ae ne ce,.slice Ak nk ck]] w fun e w'=>∃ b:Bool,e = .returned (.bool b)∧(b=true→nodes t≤60)∧Below w.heap.size w w':=by
 obtain⟨p,hp⟩:∃ p,p=w.heap.size:=⟨_,rfl⟩;have HKc:=Lib.hid (tree_box w Ae Ak ne nk ce ck);rw[← hp]at HKc;obtain⟨W,hW⟩:∃ W,W=w.alloc (.cells #[.slice Ae ne ce,.slice Ak nk ck] 25):=⟨_,rfl⟩;rw[← hW]at HKc;have HP:=Lib.hid hp;have HW:=Lib.hid hW;have HSM:=Lib.hid (small_to t Ae Ak ne nk ce ck 60 60 rfl W (by omega) hl (RdT.more HKc.out.below.size _ (RdT.below hr HKc.out.below)));have c0:=HKc.out.c0;have c1:=HKc.out.c1;clear hp hW hl hr;go_enter Tryz.func9,Tryz.ntmps9;go_wp2_with fail;rw[← HP.out,← HW.out];refine HSM.out.mono ?_;rintro e v1 ⟨b,rfl,hb,hb9⟩;have HKc:=Lib.hid (HKc.out.later hb9);have HB:=Lib.hid hb;clear hb9 hb c0 c1 HSM;go_wp2_with fail;go_ret;exact⟨b,rfl,HB.out,HKc.out.below⟩
theorem right_e1:RightE ⟨1,1,⟨#[]⟩,0⟩:=flag_e (by decide)
theorem key_k:KeyOk ⟨#[107]⟩:=by
 show 1≤ByteArray.size ⟨#[107]⟩∧ByteArray.size ⟨#[107]⟩≤30
 decide
theorem upd_none {e:E} {s:ByteArray} {c:List S3} (he:RightE e) (hs:KeyOk s) (hc:RK (oneT e,c)):updE none_ s (oneT e,c)=0:=by
 rw[updE_of (x:=0) right_none (rightKB_iff.2 hc) (wrapE_one he hs) (by omega),if_pos];unfold mroomB roomB;rw[decide_eq_true (p:=none_.ks.length<24) (by show [].length<24;decide),Bool.true_or,Bool.or_true]
theorem updK_one {t:T} {e:E} {s:ByteArray} {c:List S3} (he:RightE e) (hs:KeyOk s) (h:updE t s (oneT e,c)=0):updK t s (oneT e,c)=(wrapT (oneT e) [s],c):=by
 rw[(upd_ok h).2.2.2,wrapR_one he hs]
theorem right_put {e:E} (he:RightE e):RK (oneT e,oneC e.a e.n):=right_one (right_oneT (d:=4) he) (right_oneC he.1) (by rw[has_oneC];exact decide_eq_true ⟨rfl,rfl⟩)
theorem one_len (a n:Int):(oneC a n).length=1:=rfl
theorem isj_nodes2 {a b x:K} (h:IsJ a b x):nodes x.1≤nodes a.1+nodes b.1:=by
 rw[h.tree];exact joinT_nodes _ _ _ _ _
theorem updE_four (t:T) (s:ByteArray) (k:K):updE t s k=0∨updE t s k=1∨updE t s k=4∨updE t s k=10:=by
 unfold updE
 rcases wrapE_three k.1 [s]with h | h | h <;> rw[h] <;> (repeat' split) <;> simp
theorem awake14 (w:World):Calls Tryz.prog 8 #[] w fun e w'=>e = .returned (.bool true)∧Below w.heap.size w w':=by
 obtain⟨tx,htx⟩:∃ x:ByteArray,x=⟨#[107]⟩:=⟨_,rfl⟩;have HTX:=Lib.hid htx
 have HKY:Hid (KeyOk tx):=by unfold Hid;rw[htx];exact key_k
 have HKc:Hid (Kept [] w w):=Kept.nil_of (Below.refl _ _);have HE0:Hid (updE none_ tx (oneT ⟨1,1,⟨#[]⟩,0⟩,oneC 1 1)=0):=upd_none right_e1 HKY.out (right_put right_e1);clear htx;go_enter Tryz.func8,Tryz.ntmps8;go_wp2_with fail;refine (refput_any [] none 0 0 1 1 ⟨#[]⟩ 0 [] (oneC 1 1) none 0 0 1 w rfl (Rd.nil _) rfl (by omega) (Rd.nil _) right_noneC right_e1 (right_oneT (d:=4) right_e1) (by omega) (put_one (by decide)) rfl (by omega)).mono ?_;rintro e v1 ⟨Xe,xe1,xe2,Xk,xk1,xk2,Xc,xc1,xc2,rfl,how,hb9⟩;have RX:Hid (RdP v1 ⟨(oneT ⟨1,1,⟨#[]⟩,0⟩,oneC 1 1),⟨Xe,xe1,xe2⟩,⟨Xk,xk1,xk2⟩,⟨Xc,xc1,xc2⟩⟩):=RdP.of_own how;have HX1:Hid (1=xc1):=how.len;have HKc:=Lib.hid (HKc.out.later hb9);clear how hb9;obtain⟨g,hg⟩:∃ g,g=v1.heap.size:=⟨_,rfl⟩;obtain⟨v2,hv2⟩:∃ W,W=v1.alloc (.cells #[.slice Xe xe1 xe2,.slice Xk xk1 xk2,.slice Xc xc1 xc2] 29):=⟨_,rfl⟩
 have hb9:Below v1.heap.size v1 v2:=by rw[hv2];exact Dt.box_below _ _ _
 have b0:v2.cell? ⟨g,0,none⟩=some (.slice Xe xe1 xe2):=by rw[hv2,hg];go_simp
 have b1:v2.cell? ⟨g,1,none⟩=some (.slice Xk xk1 xk2):=by rw[hv2,hg];go_simp
 have b2:v2.cell? ⟨g,2,none⟩=some (.slice Xc xc1 xc2):=by rw[hv2,hg];go_simp
 have HKc:=Lib.hid (HKc.out.later hb9);have RX:=Lib.hid (RX.out.later hb9);clear hb9;have HKc:=Lib.hid (((HKc.out.cons_of b2).cons_of b1).cons_of b0);have Hg:=Lib.hid hg;have Hv2:=Lib.hid hv2;clear hg hv2 b0 b1 b2;obtain⟨c0,c1,c2,-⟩:=HKc.out.cj;rw[Hv2.out]at c0 c1 c2;rw[Hg.out]at c0 c1 c2;go_wp2_with fail;rw[← Hg.out,← Hv2.out];rw[← HTX.out];refine (update_any none_ none none 0 0 0 0 tx (oneT ⟨1,1,⟨#[]⟩,0⟩,oneC 1 1) Xe Xk Xc xe1 xe2 xk1 xk2 xc1 xc2 v2 (LenT.few (by rw[nodes_none];omega)) (by rw[nodes_none];omega) (RdT.none _ _ _ _) (LenT.few (by rw[nodes_one];omega)) (by rw[nodes_one];omega) (by have:=HX1.out;omega) RX.out).mono ?_;rw[updK_one right_e1 HKY.out HE0.out,HE0.out];rintro e v3 ⟨Ye,ye1,ye2,Yk,yk1,yk2,Yc,yc1,yc2,rfl,how,hb9⟩;have RY:Hid (RdP v3 ⟨(wrapT (oneT ⟨1,1,⟨#[]⟩,0⟩) [tx],oneC 1 1),⟨Ye,ye1,ye2⟩,⟨Yk,yk1,yk2⟩,⟨Yc,yc1,yc2⟩⟩):=RdP.of_own how
 clear how;have HKc:=Lib.hid (HKc.out.later hb9);have RX:=Lib.hid (RX.out.later hb9);clear hb9;clear c0 c1 c2;obtain⟨h,hh⟩:∃ g,g=v3.heap.size:=⟨_,rfl⟩;obtain⟨v4,hv4⟩:∃ W,W=v3.alloc (.cells #[.slice Ye ye1 ye2,.slice Yk yk1 yk2,.slice Yc yc1 yc2] 29):=⟨_,rfl⟩
 have hb9:Below v3.heap.size v3 v4:=by rw[hv4];exact Dt.box_below _ _ _
 have b0:v4.cell? ⟨h,0,none⟩=some (.slice Ye ye1 ye2):=by rw[hv4,hh];go_simp
 have b1:v4.cell? ⟨h,1,none⟩=some (.slice Yk yk1 yk2):=by rw[hv4,hh];go_simp
 have b2:v4.cell? ⟨h,2,none⟩=some (.slice Yc yc1 yc2):=by rw[hv4,hh];go_simp
 have HKc:=Lib.hid (HKc.out.later hb9);have RX:=Lib.hid (RX.out.later hb9);have RY:=Lib.hid (RY.out.later hb9);clear hb9;have HKc:=Lib.hid (((HKc.out.cons_of b2).cons_of b1).cons_of b0);have Hh:=Lib.hid hh;have Hv4:=Lib.hid hv4;clear hh hv4 b0 b1 b2;have HRW:Hid (RightT 5 (wrapT (oneT ⟨1,1,⟨#[]⟩,0⟩) [tx])):=right_wrap1 right_e1 HKY.out
 have HNW:Hid (nodes (wrapT (oneT ⟨1,1,⟨#[]⟩,0⟩) [tx])≤2):=by unfold Hid;rw[nodes_wrap,nodes_one];simp
 have HGW:Hid (getT (wrapT (oneT ⟨1,1,⟨#[]⟩,0⟩) [tx]) [tx]=oneT ⟨1,1,⟨#[]⟩,0⟩):=get_wrap _ _;have HYK:Hid (yk1=1):=(rd_lens (show RdT _ _ (.mk [] [(tx,oneT ⟨1,1,⟨#[]⟩,0⟩)]) _ _ from RY.out.tree)).2.symm;obtain⟨c0,c1,c2,c3,c4,c5,-⟩:=HKc.out.cj;rw[Hv4.out]at c0 c1 c2 c3 c4 c5;rw[Hh.out]at c0 c1 c2;go_wp2_with fail;rw[← Hh.out,← Hv4.out];refine wp_region_held_drew (S:=Conj _) (by kernel_rfl) HKc.out.drew.cj (fun hHeld=>?_);obtain⟨v5,hv5⟩:∃ v,v=v4.drew:=⟨_,rfl⟩
 have hb9:Below v4.heap.size v4 v5:=by rw[hv5];exact (Below.refl _ _).drew
 have HKc:=Lib.hid (HKc.out.later hb9);have RX:=Lib.hid (RX.out.later hb9);have RY:=Lib.hid (RY.out.later hb9);clear hb9;rw[← hv5]at hHeld ⊢;clear hv5;refine Tk 0 13 ?_;refine Tk 1 14 ?_;refine Tk 2 15 ?_;refine Tk 3 16 ?_;refine Tk 4 17 ?_;refine wpAnyH_ready (rs:=[5,6]) (by kernel_rfl) (by simp) ?_;refine AllReadyH.cons (o:=⟨some 18,_,_,_,_,_⟩) rfl (fun K hK=>?_) (AllReadyH.cons (o:=⟨some 19,_,_,_,_,_⟩) rfl (fun K hK=>?_) (AllReadyH.nil))
 ·go_simp
  (go_at_call 25;refine (mkeys_any (wrapT (oneT ⟨1,1,⟨#[]⟩,0⟩) [tx]) Ye Yk ye1 yk1 ye2 yk2 v5 true (Tr.rightB_iff.2 HRW.out) (LenT.few (by have:=HNW.out;omega)) (by have:=HNW.out;omega) RY.out.tree).mono ?_);rintro e v6 ⟨Vl,vq,vc,rfl,hq,hro,hb9⟩;have HQV:Hid (vq=1):=hq.out.trans HYK.out;have RV:Hid (Rd v6 v6.heap.size 1 Vl vq vc (strs [tx])):=hro.out;clear hro hq;have HKc:=Lib.hid (HKc.out.later hb9);have RX:=Lib.hid (RX.out.later hb9);have RY:=Lib.hid (RY.out.later hb9);clear hb9;clear hHeld;refine Th hK ?_ (fun hHeld=>?_)
  ·exact HKc.out.cj
  clear hK K;refine Tc 6 (fun K hK=>?_);go_simp;clear hHeld;refine Th hK ?_ (fun hHeld=>?_)
  ·exact (HKc.out.alloc _).cj
  clear hK K;(try rw[← HTX.out]);obtain⟨gs,hgs⟩:∃ g,g=v6.heap.size:=⟨_,rfl⟩;obtain⟨v7,hv7⟩:∃ W,W=v6.alloc (.cells #[.string tx] 9):=⟨_,rfl⟩
  have hb9:Below v6.heap.size v6 v7:=by rw[hv7];exact Dt.box_below _ _ _
  have HKc:=Lib.hid (HKc.out.later hb9);have RX:=Lib.hid (RX.out.later hb9);have RY:=Lib.hid (RY.out.later hb9);have RV:=Lib.hid (RV.out.later hb9);clear hb9
  have RS:Hid (Rd v7 v7.heap.size 1 (some ⟨gs,0,none⟩) 1 1 (strs [tx])):=by unfold Hid;rw[hv7,hgs];exact rd_one1 _ _
  (try rw[← hv7]at hHeld);rw[← hv7];rw[← hgs];clear hgs hv7;refine Tc 7 (fun K hK=>?_);go_simp;(go_at_call 24;refine (refalike_any [tx] [tx] vq 1 Vl (some ⟨gs,0,none⟩) vc 1 v7 (by have:=HQV.out;omega) RV.out RS.out true (decide_eq_true rfl)).mono ?_);rintro e v8 ⟨rfl,hb9⟩;have HKc:=Lib.hid (HKc.out.later hb9);have RX:=Lib.hid (RX.out.later hb9);have RY:=Lib.hid (RY.out.later hb9);have RV:=Lib.hid (RV.out.later hb9);have RS:=Lib.hid (RS.out.later hb9);clear hb9;clear hHeld;refine Th hK ?_ (fun hHeld=>?_)
  ·exact HKc.out.cj
  clear hK K;refine Tk 8 21 ?_;refine Tk 9 22 ?_;refine Tk 10 23 ?_;refine Tk 11 24 ?_;refine Tk 14 27 ?_;refine Tk 15 28 ?_;refine Tc 12 (fun K hK=>?_);go_simp;clear hHeld;refine Th hK ?_ (fun hHeld=>?_)
  ·exact (HKc.out.alloc _).cj
  clear hK K;(try rw[← HTX.out]);obtain⟨gs2,hgs2⟩:∃ g,g=v8.heap.size:=⟨_,rfl⟩;obtain⟨v9,hv9⟩:∃ W,W=v8.alloc (.cells #[.string tx] 9):=⟨_,rfl⟩
  have hb9:Below v8.heap.size v8 v9:=by rw[hv9];exact Dt.box_below _ _ _
  have HKc:=Lib.hid (HKc.out.later hb9);have RX:=Lib.hid (RX.out.later hb9);have RY:=Lib.hid (RY.out.later hb9);have RV:=Lib.hid (RV.out.later hb9);have RS:=Lib.hid (RS.out.later hb9);clear hb9
  have RS2:Hid (Rd v9 v9.heap.size 1 (some ⟨gs2,0,none⟩) 1 1 (strs [tx])):=by unfold Hid;rw[hv9,hgs2];exact rd_one1 _ _
  (try rw[← hv9]at hHeld);rw[← hv9];rw[← hgs2];clear hgs2 hv9;refine Tc 13 (fun K hK=>?_);go_simp;(go_at_call 28;refine (refget_any 4 (wrapT (oneT ⟨1,1,⟨#[]⟩,0⟩) [tx]) Ye Yk ye1 yk1 ye2 yk2 v9 [tx] (some ⟨gs2,0,none⟩) 1 1 rfl (by omega) RS2.out HRW.out (by have:=HNW.out;omega) RY.out.tree).mono ?_);rintro e v10 ⟨Ge,gn,gc,Gk,gm,gd,rfl,ho,hb9⟩
  have RG:Hid (RdT v10 v10.heap.size (oneT ⟨1,1,⟨#[]⟩,0⟩) ⟨Ge,gn,gc⟩ ⟨Gk,gm,gd⟩):=by unfold Hid;rw[← HGW.out];exact ho.rd
  clear ho;have HKc:=Lib.hid (HKc.out.later hb9);have RX:=Lib.hid (RX.out.later hb9);have RY:=Lib.hid (RY.out.later hb9);have RV:=Lib.hid (RV.out.later hb9);have RS:=Lib.hid (RS.out.later hb9);have RS2:=Lib.hid (RS2.out.later hb9);clear hb9;clear hHeld;refine Th hK ?_ (fun hHeld=>?_)
  ·exact HKc.out.cj
  clear hK K;refine Tc 16 (fun K hK=>?_);go_simp;(go_at_call 33;refine (refsameT_any (oneT ⟨1,1,⟨#[]⟩,0⟩) (oneT ⟨1,1,⟨#[]⟩,0⟩) Ge Gk gn gm gc gd Xe Xk xe1 xk1 xe2 xk2 v10 (by rw[nodes_one];omega) RG.out RX.out.tree).mono ?_);rw[eqB_yes rfl];rintro e v11 ⟨rfl,hb9⟩;have HKc:=Lib.hid (HKc.out.later hb9);have RX:=Lib.hid (RX.out.later hb9);have RY:=Lib.hid (RY.out.later hb9);have RV:=Lib.hid (RV.out.later hb9);have RS:=Lib.hid (RS.out.later hb9);have RS2:=Lib.hid (RS2.out.later hb9);have RG:=Lib.hid (RdT.later RG.out hb9);clear hb9;clear hHeld;refine Th hK ?_ (fun hHeld=>?_)
  ·exact HKc.out.cj
  clear hK K;refine Tk 17 30 ?_;refine Tk 18 0 ?_;refine wpAnyH_done (by kernel_rfl) ?_ _;clear hHeld;go_wp2_with fail;go_ret;exact⟨by first | rfl | simp,HKc.out.below⟩
 ·go_simp
  clear hHeld;refine Th hK ?_ (fun hHeld=>?_)
  ·exact (HKc.out.alloc _).cj
  clear hK K;(try rw[← HTX.out]);obtain⟨gs,hgs⟩:∃ g,g=v5.heap.size:=⟨_,rfl⟩;obtain⟨v6,hv6⟩:∃ W,W=v5.alloc (.cells #[.string tx] 9):=⟨_,rfl⟩
  have hb9:Below v5.heap.size v5 v6:=by rw[hv6];exact Dt.box_below _ _ _
  have HKc:=Lib.hid (HKc.out.later hb9);have RX:=Lib.hid (RX.out.later hb9);have RY:=Lib.hid (RY.out.later hb9);clear hb9
  have RS:Hid (Rd v6 v6.heap.size 1 (some ⟨gs,0,none⟩) 1 1 (strs [tx])):=by unfold Hid;rw[hv6,hgs];exact rd_one1 _ _
  (try rw[← hv6]at hHeld);rw[← hv6];rw[← hgs];clear hgs hv6;refine Tc 5 (fun K hK=>?_);go_simp;(go_at_call 25;refine (mkeys_any (wrapT (oneT ⟨1,1,⟨#[]⟩,0⟩) [tx]) Ye Yk ye1 yk1 ye2 yk2 v6 true (Tr.rightB_iff.2 HRW.out) (LenT.few (by have:=HNW.out;omega)) (by have:=HNW.out;omega) RY.out.tree).mono ?_);rintro e v7 ⟨Vl,vq,vc,rfl,hq,hro,hb9⟩;have HQV:Hid (vq=1):=hq.out.trans HYK.out;have RV:Hid (Rd v7 v7.heap.size 1 Vl vq vc (strs [tx])):=hro.out;clear hro hq;have HKc:=Lib.hid (HKc.out.later hb9);have RX:=Lib.hid (RX.out.later hb9);have RY:=Lib.hid (RY.out.later hb9);have RS:=Lib.hid (RS.out.later hb9);clear hb9;clear hHeld;refine Th hK ?_ (fun hHeld=>?_)
  ·exact HKc.out.cj
  clear hK K;refine Tc 7 (fun K hK=>?_);go_simp;(go_at_call 24;refine (refalike_any [tx] [tx] vq 1 Vl (some ⟨gs,0,none⟩) vc 1 v7 (by have:=HQV.out;omega) RV.out RS.out true (decide_eq_true rfl)).mono ?_);rintro e v8 ⟨rfl,hb9⟩;have HKc:=Lib.hid (HKc.out.later hb9);have RX:=Lib.hid (RX.out.later hb9);have RY:=Lib.hid (RY.out.later hb9);have RS:=Lib.hid (RS.out.later hb9);have RV:=Lib.hid (RV.out.later hb9);clear hb9;clear hHeld;refine Th hK ?_ (fun hHeld=>?_)
  ·exact HKc.out.cj
  clear hK K;refine Tk 8 21 ?_;refine Tk 9 22 ?_;refine Tk 10 23 ?_;refine Tk 11 24 ?_;refine Tk 14 27 ?_;refine Tk 15 28 ?_;refine Tc 12 (fun K hK=>?_);go_simp;clear hHeld;refine Th hK ?_ (fun hHeld=>?_)
  ·exact (HKc.out.alloc _).cj
  clear hK K;(try rw[← HTX.out]);obtain⟨gs2,hgs2⟩:∃ g,g=v8.heap.size:=⟨_,rfl⟩;obtain⟨v9,hv9⟩:∃ W,W=v8.alloc (.cells #[.string tx] 9):=⟨_,rfl⟩
  have hb9:Below v8.heap.size v8 v9:=by rw[hv9];exact Dt.box_below _ _ _
  have HKc:=Lib.hid (HKc.out.later hb9);have RX:=Lib.hid (RX.out.later hb9);have RY:=Lib.hid (RY.out.later hb9);have RS:=Lib.hid (RS.out.later hb9);have RV:=Lib.hid (RV.out.later hb9);clear hb9
  have RS2:Hid (Rd v9 v9.heap.size 1 (some ⟨gs2,0,none⟩) 1 1 (strs [tx])):=by unfold Hid;rw[hv9,hgs2];exact rd_one1 _ _
  (try rw[← hv9]at hHeld);rw[← hv9];rw[← hgs2];clear hgs2 hv9;refine Tc 13 (fun K hK=>?_);go_simp;(go_at_call 28;refine (refget_any 4 (wrapT (oneT ⟨1,1,⟨#[]⟩,0⟩) [tx]) Ye Yk ye1 yk1 ye2 yk2 v9 [tx] (some ⟨gs2,0,none⟩) 1 1 rfl (by omega) RS2.out HRW.out (by have:=HNW.out;omega) RY.out.tree).mono ?_);rintro e v10 ⟨Ge,gn,gc,Gk,gm,gd,rfl,ho,hb9⟩
  have RG:Hid (RdT v10 v10.heap.size (oneT ⟨1,1,⟨#[]⟩,0⟩) ⟨Ge,gn,gc⟩ ⟨Gk,gm,gd⟩):=by unfold Hid;rw[← HGW.out];exact ho.rd
  clear ho;have HKc:=Lib.hid (HKc.out.later hb9);have RX:=Lib.hid (RX.out.later hb9);have RY:=Lib.hid (RY.out.later hb9);have RS:=Lib.hid (RS.out.later hb9);have RV:=Lib.hid (RV.out.later hb9);have RS2:=Lib.hid (RS2.out.later hb9);clear hb9;clear hHeld;refine Th hK ?_ (fun hHeld=>?_)
  ·exact HKc.out.cj
  clear hK K;refine Tc 16 (fun K hK=>?_);go_simp;(go_at_call 33;refine (refsameT_any (oneT ⟨1,1,⟨#[]⟩,0⟩) (oneT ⟨1,1,⟨#[]⟩,0⟩) Ge Gk gn gm gc gd Xe Xk xe1 xk1 xe2 xk2 v10 (by rw[nodes_one];omega) RG.out RX.out.tree).mono ?_);rw[eqB_yes rfl];rintro e v11 ⟨rfl,hb9⟩;have HKc:=Lib.hid (HKc.out.later hb9);have RX:=Lib.hid (RX.out.later hb9);have RY:=Lib.hid (RY.out.later hb9);have RS:=Lib.hid (RS.out.later hb9);have RV:=Lib.hid (RV.out.later hb9);have RS2:=Lib.hid (RS2.out.later hb9);have RG:=Lib.hid (RdT.later RG.out hb9);clear hb9;clear hHeld;refine Th hK ?_ (fun hHeld=>?_)
  ·exact HKc.out.cj
  clear hK K;refine Tk 17 30 ?_;refine Tk 18 0 ?_;refine wpAnyH_done (by kernel_rfl) ?_ _;clear hHeld;go_wp2_with fail;go_ret;exact⟨by first | rfl | simp,HKc.out.below⟩
end Cs
end Go.Proofs.YtjpcechcefhcfaaGreat
