/- Proved: the law OrmapKeeps answers true for every tree, every text, every dot, every dot that can be handed in, and leaves its arguments as they were. Conditions: none. -/
import Derived.Test.YtjpcechcefhcfaaGreatG00
import Derived.Test.YtjpcechcefhcfaaGreatG170
import Derived.Test.YtjpcechcefhcfaaGreatSetRef
import Derived.Test.YtjpcechcefhcfaaGreatDltRef
import Derived.Test.YtjpcechcefhcfaaGreatCauJoin
import Derived.Test.YtjpcechcefhcfaaGreatCauAll
import Derived.Test.YtjpcechcefhcfaaGreatCauOwnRef
import Derived.Test.YtjpcechcefhcfaaGreatG150
import Derived.Test.YtjpcechcefhcfaaGreatG50
import Derived.Test.YtjpcechcefhcfaaGreatG16660
import Derived.Test.YtjpcechcefhcfaaGreatG1220
import Derived.Test.YtjpcechcefhcfaaGreatSetSort
open Go.ChangeShapes Go.WideShapes Go.ChangeAt Go.RowKit
namespace Go.Proofs.YtjpcechcefhcfaaGreat
namespace lawOrmapKeeps
open Tr Cx Cs Sp Rw Classical
theorem boxL (w:World) (Ae Ak:Option Addr) (ne nk ce ck:Nat) (a n:Int) (b m:Int):∃ (W:World) (p q s:Nat),Hid (W=(((w.alloc (.cells #[.slice Ae ne ce,.slice Ak nk ck] 25)).alloc (.cells #[.int .i64 a,.int .i64 n] 47)).alloc (.cells #[.int .i64 b,.int .i64 m] 47)))∧Hid (p=w.heap.size)∧Hid (q=p+1)∧Hid (s=q+1)∧Hid (Kept [(⟨p,0,none⟩,.slice Ae ne ce),(⟨p,1,none⟩,.slice Ak nk ck),(⟨q,0,none⟩,.int .i64 a),(⟨q,1,none⟩,.int .i64 n),(⟨s,0,none⟩,.int .i64 b),(⟨s,1,none⟩,.int .i64 m)] w W):=by
 refine⟨_,_,_,_,rfl,rfl,rfl,rfl,?_⟩;have h0:=Kept.nil_of (show Below w.heap.size w ((((w.alloc (.cells #[.slice Ae ne ce,.slice Ak nk ck] 25)).alloc (.cells #[.int .i64 a,.int .i64 n] 47)).alloc (.cells #[.int .i64 b,.int .i64 m] 47))) from (((Below.refl _ _).alloc (Nat.le_refl _) _).alloc (by simp) _).alloc (by simp;omega) _)
 refine ((((((h0).cons_of ?_).cons_of ?_).cons_of ?_).cons_of ?_).cons_of ?_).cons_of ?_ <;> go_simp
set_option maxRecDepth 100000 in
set_option maxHeartbeats 4000000 in
theorem walk_any (t:T) (Ae Ak:Option Addr) (ne nk ce ck:Nat) (tx:ByteArray) (a n:Int) (b m:Int) (w:World) (hr:RdT w w.heap.size t ⟨Ae,ne,ce⟩ ⟨Ak,nk,ck⟩) (hl:LenT reachBytes t) :
  Calls Tryz.prog 7 #[.agg #[.slice Ae ne ce,.slice Ak nk ck],.string tx,.agg #[.int .i64 a,.int .i64 n],.agg #[.int .i64 b,.int .i64 m]] w fun e w'=>e = .returned (.bool true)∧Below w.heap.size w w':=by
 obtain⟨W,p,q,s,HW,HP,HQ,HS,HKc⟩:=boxL w Ae Ak ne nk ce ck a n b m;have HR0:=Lib.hid hr;have R:=Lib.hid (RdT.later hr HKc.out.below);have L:=Lib.hid hl;clear hr hl;go_enter Tryz.func7,Tryz.ntmps7
 go_upto_region 1 with fail
 rw[← HW.out,← HP.out]
 try rw[← HQ.out]
 try rw[← HS.out]
 go_cut [52] (fun s9 wx=>∃ c9:Bool,s9 = .bool c9∧Hid (c9=false→nodes t≤60∧¬(a=b∧n=m)∧checkB t a n=true∧checkB t b m=true∧KeyOk tx∧nk<24)∧Hid (Kept [(⟨p,0,none⟩,.slice Ae ne ce),(⟨p,1,none⟩,.slice Ak nk ck),(⟨q,0,none⟩,.int .i64 a),(⟨q,1,none⟩,.int .i64 n),(⟨s,0,none⟩,.int .i64 b),(⟨s,1,none⟩,.int .i64 m)] w wx))
 case first=>
  obtain⟨c0,c1,c2,c3,c4,c5,-⟩:=HKc.out.cj;go_wp2_with fail;refine (awake14 W).mono ?_;rintro e v1 ⟨rfl,hb9⟩;have HKc:=Lib.hid (HKc.out.later hb9);have R:=Lib.hid (RdT.later R.out hb9);clear hb9;clear c0 c1 c2 c3 c4 c5;obtain⟨c0,c1,c2,c3,c4,c5,-⟩:=HKc.out.cj;go_wp2_with fail;refine (small_tree t Ae Ak ne nk ce ck v1 L.out R.out).mono ?_;rintro e v2 ⟨b9,rfl,hsm,hb9⟩;have HKc:=Lib.hid (HKc.out.later hb9);have R:=Lib.hid (RdT.later R.out hb9);clear hb9;clear c0 c1 c2 c3 c4 c5
  cases b9 with
  | false=>
   clear hsm;obtain⟨c0,c1,c2,c3,c4,c5,-⟩:=HKc.out.cj;go_wp2_with fail;go_meet;exact⟨true,rfl,(fun h=>by cases h),HKc.out⟩
  | true=>
   have N:Hid (nodes t≤60):=hsm rfl;clear hsm
   by_cases hab:a=b∧n=m
   ·have g1:(a==b)=true:=by simpa using hab.1
    have g2:(n==m)=true:=by simpa using hab.2
    clear hab;obtain⟨c0,c1,c2,c3,c4,c5,-⟩:=HKc.out.cj;go_wp2_with fail;go_meet;exact⟨true,rfl,(fun h=>by cases h),HKc.out⟩
   ·have HN0:Hid (¬(a=b∧n=m)):=hab
    have hf:((a==b)=false)∨((a==b)=true∧(n==m)=false):=by
     by_cases h:a=b
     ·exact .inr ⟨by simpa using h,by simpa using fun h2=>hab ⟨h,h2⟩⟩
     ·exact .inl (by simpa using h)
    clear hab
    rcases hf with fa | ⟨fa,fb⟩
    ·obtain⟨y1,hy19⟩:∃ y1,checkB t a n=y1:=⟨_,rfl⟩
     have HY1:=Lib.hid hy19;clear hy19;obtain⟨y2,hy29⟩:∃ y2,checkB t b m=y2:=⟨_,rfl⟩;have HY2:=Lib.hid hy29;clear hy29;obtain⟨y3,hy39⟩:∃ y3,keyB tx=y3:=⟨_,rfl⟩;have HY3:=Lib.hid hy39;clear hy39;obtain⟨c0,c1,c2,c3,c4,c5,-⟩:=HKc.out.cj;go_wp2_with fail;refine (refcheck_any t Ae Ak ne nk ce ck a n v2 y1 HY1.out L.out (by have:=N.out;omega) R.out).mono ?_;rintro e v3 ⟨rfl,hb9⟩;have HKc:=Lib.hid (HKc.out.later hb9);have R:=Lib.hid (RdT.later R.out hb9);clear hb9;clear c0 c1 c2 c3 c4 c5
     cases y1 with
     | false=>
      obtain⟨c0,c1,c2,c3,c4,c5,-⟩:=HKc.out.cj;go_wp2_with fail;go_meet;exact⟨true,rfl,(fun h=>by cases h),HKc.out⟩
     | true=>
      obtain⟨c0,c1,c2,c3,c4,c5,-⟩:=HKc.out.cj;go_wp2_with fail;refine (refcheck_any t Ae Ak ne nk ce ck b m v3 y2 HY2.out L.out (by have:=N.out;omega) R.out).mono ?_;rintro e v4 ⟨rfl,hb9⟩;have HKc:=Lib.hid (HKc.out.later hb9);have R:=Lib.hid (RdT.later R.out hb9);clear hb9;clear c0 c1 c2 c3 c4 c5
      cases y2 with
      | false=>
       obtain⟨c0,c1,c2,c3,c4,c5,-⟩:=HKc.out.cj;go_wp2_with fail;go_meet;exact⟨true,rfl,(fun h=>by cases h),HKc.out⟩
      | true=>
       obtain⟨c0,c1,c2,c3,c4,c5,-⟩:=HKc.out.cj;go_wp2_with fail;refine (refkeyb_any tx v4 y3 HY3.out).mono ?_;rintro e v5 ⟨rfl,hb9⟩;have HKc:=Lib.hid (HKc.out.later hb9);have R:=Lib.hid (RdT.later R.out hb9);clear hb9;clear c0 c1 c2 c3 c4 c5
       cases y3 with
       | false=>
        obtain⟨c0,c1,c2,c3,c4,c5,-⟩:=HKc.out.cj;go_wp2_with fail;go_meet;exact⟨true,rfl,(fun h=>by cases h),HKc.out⟩
       | true=>
        by_cases h24:24≤nk
        ·have f24:decide ((24:Int)≤(nk:Int))=true:=decide_eq_true (by omega)
         obtain⟨c0,c1,c2,c3,c4,c5,-⟩:=HKc.out.cj;go_wp2_with fail;go_meet;exact⟨true,rfl,(fun h=>by cases h),HKc.out⟩
        ·have f24:decide ((24:Int)≤(nk:Int))=false:=decide_eq_false (by omega)
         have H24:Hid (nk<24):=by unfold Hid;omega
         clear h24;obtain⟨c0,c1,c2,c3,c4,c5,-⟩:=HKc.out.cj;go_wp2_with fail;go_meet;exact⟨false,rfl,(fun _=>⟨N.out,HN0.out,HY1.out,HY2.out,keyB_iff.1 HY3.out,H24.out⟩),HKc.out⟩
    ·obtain⟨y1,hy19⟩:∃ y1,checkB t a n=y1:=⟨_,rfl⟩
     have HY1:=Lib.hid hy19;clear hy19;obtain⟨y2,hy29⟩:∃ y2,checkB t b m=y2:=⟨_,rfl⟩;have HY2:=Lib.hid hy29;clear hy29;obtain⟨y3,hy39⟩:∃ y3,keyB tx=y3:=⟨_,rfl⟩;have HY3:=Lib.hid hy39;clear hy39;obtain⟨c0,c1,c2,c3,c4,c5,-⟩:=HKc.out.cj;go_wp2_with fail;refine (refcheck_any t Ae Ak ne nk ce ck a n v2 y1 HY1.out L.out (by have:=N.out;omega) R.out).mono ?_;rintro e v3 ⟨rfl,hb9⟩;have HKc:=Lib.hid (HKc.out.later hb9);have R:=Lib.hid (RdT.later R.out hb9);clear hb9;clear c0 c1 c2 c3 c4 c5
     cases y1 with
     | false=>
      obtain⟨c0,c1,c2,c3,c4,c5,-⟩:=HKc.out.cj;go_wp2_with fail;go_meet;exact⟨true,rfl,(fun h=>by cases h),HKc.out⟩
     | true=>
      obtain⟨c0,c1,c2,c3,c4,c5,-⟩:=HKc.out.cj;go_wp2_with fail;refine (refcheck_any t Ae Ak ne nk ce ck b m v3 y2 HY2.out L.out (by have:=N.out;omega) R.out).mono ?_;rintro e v4 ⟨rfl,hb9⟩;have HKc:=Lib.hid (HKc.out.later hb9);have R:=Lib.hid (RdT.later R.out hb9);clear hb9;clear c0 c1 c2 c3 c4 c5
      cases y2 with
      | false=>
       obtain⟨c0,c1,c2,c3,c4,c5,-⟩:=HKc.out.cj;go_wp2_with fail;go_meet;exact⟨true,rfl,(fun h=>by cases h),HKc.out⟩
      | true=>
       obtain⟨c0,c1,c2,c3,c4,c5,-⟩:=HKc.out.cj;go_wp2_with fail;refine (refkeyb_any tx v4 y3 HY3.out).mono ?_;rintro e v5 ⟨rfl,hb9⟩;have HKc:=Lib.hid (HKc.out.later hb9);have R:=Lib.hid (RdT.later R.out hb9);clear hb9;clear c0 c1 c2 c3 c4 c5
       cases y3 with
       | false=>
        obtain⟨c0,c1,c2,c3,c4,c5,-⟩:=HKc.out.cj;go_wp2_with fail;go_meet;exact⟨true,rfl,(fun h=>by cases h),HKc.out⟩
       | true=>
        by_cases h24:24≤nk
        ·have f24:decide ((24:Int)≤(nk:Int))=true:=decide_eq_true (by omega)
         obtain⟨c0,c1,c2,c3,c4,c5,-⟩:=HKc.out.cj;go_wp2_with fail;go_meet;exact⟨true,rfl,(fun h=>by cases h),HKc.out⟩
        ·have f24:decide ((24:Int)≤(nk:Int))=false:=decide_eq_false (by omega)
         have H24:Hid (nk<24):=by unfold Hid;omega
         clear h24;obtain⟨c0,c1,c2,c3,c4,c5,-⟩:=HKc.out.cj;go_wp2_with fail;go_meet;exact⟨false,rfl,(fun _=>⟨N.out,HN0.out,HY1.out,HY2.out,keyB_iff.1 HY3.out,H24.out⟩),HKc.out⟩
 case rest=>
  obtain⟨wc1,hwc1⟩:∃ W,W=wc:=⟨_,rfl⟩;subst hwc1;obtain⟨c9,rfl,HGD,HKd⟩:=hcut;have R:=Lib.hid (RdT.more HKd.out.below.size _ (RdT.below HR0.out HKd.out.below));have HKc:=HKd;clear HKd
  cases c9 with
  | true=>
   go_wp2_with fail;refine (awake14 _).mono ?_;rintro e v99 ⟨rfl,hb9⟩;have HKc:=Lib.hid (HKc.out.later hb9);clear hb9;go_wp2_with fail;go_ret;exact⟨by first | rfl | simp,HKc.out.below⟩
  | false=>
   have HGO:=Lib.hid (HGD.out rfl);have N:Hid (nodes t≤60):=HGO.out.1;have HNE:Hid (¬(a=b∧n=m)):=HGO.out.2.1;have HCK:Hid (checkB t a n=true):=HGO.out.2.2.1;have HCK2:Hid (checkB t b m=true):=HGO.out.2.2.2.1;have HKY:Hid (KeyOk tx):=HGO.out.2.2.2.2.1;have H24:Hid (nk<24):=HGO.out.2.2.2.2.2;have HT:Hid (RightT 5 t):=(check_iff.1 HCK.out).1;have HD:Hid (Dt.rightB a n=true):=(check_iff.1 HCK.out).2.1;have HD2:Hid (Dt.rightB b m=true):=(check_iff.1 HCK2.out).2.1;have HE:Hid (RightE ⟨b,m,⟨#[]⟩,7⟩):=⟨HD2.out,by show ByteArray.size ⟨#[]⟩≤30;decide,by show (-1099511627776:Int)≤7;decide,by show (7:Int)≤1099511627776;decide⟩
   have HNK:Hid (t.ks.length=nk):=by
    have h:=R.out;rw[← T.eta t]at h;exact (rd_lens h).2
   have HUP:Hid (updE t tx (oneT ⟨b,m,⟨#[]⟩,7⟩,oneC b m)=0):=by
    unfold Hid;rw[updE_of (x:=0) (Tr.rightB_iff.2 HT.out) (rightKB_iff.2 (right_put HE.out)) (wrapE_one HE.out HKY.out) (by omega),if_pos];unfold mroomB roomB;rw[decide_eq_true (p:=t.ks.length<24) (by rw[HNK.out];exact H24.out),Bool.true_or,Bool.or_true]
   clear HGD HGO;obtain⟨u,hu1,hu2⟩:=some_of HT.out L.out (by have:=N.out;omega) R.out;obtain⟨m9,hm9⟩:∃ m9,u.length=m9:=⟨_,rfl⟩;have HU:Hid (OfC (dl t) u∧u.length=m9∧m9≤240):=⟨hu1,hm9,by have:=N.out;omega⟩;clear hu1 hu2 hm9;have JT:Hid (RK (t,u)):=known_right HT.out HU.out.1;obtain⟨c0,c1,c2,c3,c4,c5,-⟩:=HKc.out.cj;go_wp2_with fail;refine (mreset_any t Ae Ak ne nk ce ck a n wc1 L.out (by have:=N.out;omega) R.out).mono ?_;rintro e v1 ⟨kx,zx,Xe,xe1,xe2,Xk,xk1,xk2,Xc,xc1,xc2,rfl,how,hz,hb9⟩;have HKc:=Lib.hid (HKc.out.later hb9);have R:=Lib.hid (RdT.later R.out hb9);clear hb9;clear c0 c1 c2 c3 c4 c5;have RX:=Lib.hid (RdP.of_own how.out);have ZX:=Lib.hid hz.out;clear how hz;obtain⟨rfl,hk1,hna,u2,hu2,hpv⟩:=ZX.out.1 (HCK.out);have KX:Hid (kx.1=none_):=hk1
   have BX:Hid (xc1≤244):=by have:=N.out;unfold Hid;omega
   have VX:Hid (PutC uniF u (oneC a n) kx.2):=by unfold Hid;rw[← hu2.eq HU.out.1];exact hpv
   clear hk1 hna hu2 hpv
   have JX:Hid (RK kx):=by
    have h:=right_gone VX.out.right;rw[← KX.out]at h;exact h
   obtain⟨g,hg⟩:∃ g,g=v1.heap.size:=⟨_,rfl⟩;obtain⟨v2,hv2⟩:∃ W,W=v1.alloc (.cells #[.slice Xe xe1 xe2,.slice Xk xk1 xk2,.slice Xc xc1 xc2] 29):=⟨_,rfl⟩
   have hb9:Below v1.heap.size v1 v2:=by rw[hv2];exact Dt.box_below _ _ _
   have b0:v2.cell? ⟨g,0,none⟩=some (.slice Xe xe1 xe2):=by rw[hv2,hg];go_simp
   have b1:v2.cell? ⟨g,1,none⟩=some (.slice Xk xk1 xk2):=by rw[hv2,hg];go_simp
   have b2:v2.cell? ⟨g,2,none⟩=some (.slice Xc xc1 xc2):=by rw[hv2,hg];go_simp
   have HKc:=Lib.hid (HKc.out.later hb9);have R:=Lib.hid (RdT.later R.out hb9);have RX:=Lib.hid (RX.out.later hb9);clear hb9;have HKc:=Lib.hid (((HKc.out.cons_of b2).cons_of b1).cons_of b0);have Hg:=Lib.hid hg;have Hv2:=Lib.hid hv2;clear hg hv2 b0 b1 b2;obtain⟨c0,c1,c2,c3,c4,c5,c6,c7,c8,-⟩:=HKc.out.cj;rw[Hv2.out]at c0 c1 c2 c3 c4 c5 c6 c7 c8;rw[Hg.out]at c0 c1 c2;go_wp2_with fail;rw[← Hg.out,← Hv2.out];clear c0 c1 c2 c3 c4 c5 c6 c7 c8
   go_cut [11,12] (fun s9 e9 wx=>∃ (g9:Nat) (p9:CP),s9 = .pointer (some ⟨g9,0,none⟩)∧e9 = .int .i64 0∧Hid (MidJ v2 g9 p9 wx)∧Hid (p9.k=(wrapT (oneT ⟨b,m,⟨#[]⟩,7⟩) [tx],oneC b m)))
   case first=>
    refine wp_region_held_drew (S:=Conj _) (by kernel_rfl) HKc.out.drew.cj (fun hHeld=>?_);obtain⟨v3,hv3⟩:∃ v,v=v2.drew:=⟨_,rfl⟩
    have hb9:Below v2.heap.size v2 v3:=by rw[hv3];exact (Below.refl _ _).drew
    have HKc:=Lib.hid (HKc.out.later hb9);have R:=Lib.hid (RdT.later R.out hb9);have RX:=Lib.hid (RX.out.later hb9);clear hb9;have HBV9:Hid (v2.drew=v3):=hv3.symm;rw[← hv3]at hHeld ⊢;clear hv3
    have HBV:Hid (Below v2.heap.size v2 v3):=by unfold Hid;rw[← HBV9.out];exact (Below.refl _ _).drew
    clear HBV9;refine Tk 0 61 ?_;refine Tk 1 62 ?_;refine Tk 2 63 ?_;refine Tk 3 64 ?_;refine wpAnyH_ready (rs:=[4,9]) (by kernel_rfl) (by simp) ?_;refine AllReadyH.cons (o:=⟨some 65,_,_,_,_,_⟩) rfl (fun K hK=>?_) (AllReadyH.cons (o:=⟨some 11,_,_,_,_,_⟩) rfl (fun K hK=>?_) (AllReadyH.nil))
    ·go_simp
     (go_at_call 31;refine (refput_any [] none 0 0 b m ⟨#[]⟩ 7 [] (oneC b m) none 0 0 1 v3 rfl (Rd.nil _) rfl (by omega) (Rd.nil _) right_noneC HE.out (right_oneT (d:=4) HE.out) (by omega) (put_one HD2.out) rfl (by omega)).mono ?_);rintro e v4 ⟨Pe,pe1,pe2,Pk,pk1,pk2,Pc,pc1,pc2,rfl,how,hb9⟩;have RP:Hid (RdP v4 ⟨(oneT ⟨b,m,⟨#[]⟩,7⟩,oneC b m),⟨Pe,pe1,pe2⟩,⟨Pk,pk1,pk2⟩,⟨Pc,pc1,pc2⟩⟩):=RdP.of_own how;have HP1:Hid (1=pc1):=how.len;clear how;have HKc:=Lib.hid (HKc.out.later hb9);have R:=Lib.hid (RdT.later R.out hb9);have RX:=Lib.hid (RX.out.later hb9);have HBV:=Lib.hid (HBV.out.trans (hb9.mono HBV.out.size));clear hb9;clear hHeld;refine Th hK ?_ (fun hHeld=>?_)
     ·exact HKc.out.cj
     clear hK K;refine wpAnyH_ready (rs:=[5,9]) (by kernel_rfl) (by simp) ?_;refine AllReadyH.cons (o:=⟨some 66,_,_,_,_,_⟩) rfl (fun K hK=>?_) (AllReadyH.cons (o:=⟨some 11,_,_,_,_,_⟩) rfl (fun K hK=>?_) (AllReadyH.nil))
     ·go_simp
      (go_at_call 11;refine (update_any t Ae Ak ne nk ce ck tx (oneT ⟨b,m,⟨#[]⟩,7⟩,oneC b m) Pe Pk Pc pe1 pe2 pk1 pk2 pc1 pc2 v4 L.out (by have:=N.out;omega) R.out (LenT.few (by rw[nodes_one];omega)) (by rw[nodes_one];omega) (by have:=HP1.out;omega) RP.out).mono ?_);rw[updK_one HE.out HKY.out HUP.out,HUP.out];rintro e v5 ⟨Ye,ye1,ye2,Yk,yk1,yk2,Yc,yc1,yc2,rfl,how,hb9⟩;obtain⟨ky,hky⟩:∃ k,k=(wrapT (oneT ⟨b,m,⟨#[]⟩,7⟩) [tx],oneC b m):=⟨_,rfl⟩;rw[← hky]at how;have HP:Hid (ky=(wrapT (oneT ⟨b,m,⟨#[]⟩,7⟩) [tx],oneC b m)):=hky;have HN:Hid (NoC v5 (fun _=>True) ⟨ky,⟨Ye,ye1,ye2⟩,⟨Yk,yk1,yk2⟩,⟨Yc,yc1,yc2⟩⟩):=NoC.of_own how (fun b hb _=>trivial);clear hky how;have HKc:=Lib.hid (HKc.out.later hb9);have R:=Lib.hid (RdT.later R.out hb9);have RX:=Lib.hid (RX.out.later hb9);have HBV:=Lib.hid (HBV.out.trans (hb9.mono HBV.out.size))
      have RP:=Lib.hid (RP.out.later hb9);clear hb9;clear hHeld;refine Th hK ?_ (fun hHeld=>?_)
      ·exact HKc.out.cj
      clear hK K;refine Tk 6 60 ?_;refine Tk 7 67 ?_;refine Tk 8 68 ?_;refine Tc 9 (fun K hK=>?_);go_simp;clear hHeld;refine Th hK ?_ (fun hHeld=>?_)
      ·exact (HKc.out.alloc _).cj
      clear hK K;obtain⟨gy,hgy⟩:∃ g,g=v5.heap.size:=⟨_,rfl⟩;obtain⟨v6,hv6⟩:∃ W,W=v5.alloc (.cells #[.slice none 0 0,.slice none 0 0,.slice none 0 0] 29):=⟨_,rfl⟩
      have hb9:Below v5.heap.size v5 v6:=by rw[hv6];exact Dt.box_below _ _ _
      have hvg:v2.heap.size≤gy:=by rw[hgy];exact HBV.out.size
      have hwg:w.heap.size≤gy:=by rw[hgy];exact HKc.out.below.size
      have hng:g≠gy:=by have h:=World.block_lt_of_cell? v5 _ HKc.out.c0;dsimp only at h;omega
      have hnp:p≠gy:=by have h:=World.block_lt_of_cell? v5 _ HKc.out.c3;dsimp only at h;omega
      have hnq:q≠gy:=by have h:=World.block_lt_of_cell? v5 _ HKc.out.c5;dsimp only at h;omega
      have hns:s≠gy:=by have h:=World.block_lt_of_cell? v5 _ HKc.out.c7;dsimp only at h;omega
      have b0:v6.cell? ⟨gy,0,none⟩=some (.slice none 0 0):=by rw[hv6,hgy];go_simp
      have b1:v6.cell? ⟨gy,1,none⟩=some (.slice none 0 0):=by rw[hv6,hgy];go_simp
      have b2:v6.cell? ⟨gy,2,none⟩=some (.slice none 0 0):=by rw[hv6,hgy];go_simp
      have HN:=Lib.hid (HN.out.mono (ok':=fun b=>b≠gy) (fun b _ hlt=>by omega));have HKc:=Lib.hid (HKc.out.later hb9);have R:=Lib.hid (RdT.later R.out hb9);have RX:=Lib.hid (RX.out.later hb9);have HBV:=Lib.hid (HBV.out.trans (hb9.mono HBV.out.size));have RP:=Lib.hid (RP.out.later hb9);have HN:=Lib.hid (HN.out.later hb9);have HZ:=Lib.hid ((((Kept.nil_of HBV.out).cons_of b2).cons_of b1).cons_of b0);have HF:Hid (Free gy v6):=⟨by rw[hv6,hgy];simp,fun j=>by rw[hv6,hgy];go_simp⟩;have hlt9:gy<v6.heap.size:=HF.out.1;(try rw[← hv6]at hHeld);rw[← hv6];rw[← hgy];clear hgy hv6 hb9 b0 b1 b2;obtain⟨z0,z1,z2,-⟩:=HZ.out.cj;have m0:=HF.out.2 0;have m1:=HF.out.2 1;have m2:=HF.out.2 2;refine Tc 10 (fun K hK=>?_);go_simp;refine Th hK ?_ (fun hHeld2=>?_)
      ·(try dsimp only)
       have h9:=HKc.out.st3 (g:=gy) hwg (fun x hx=>by simp at hx;rcases hx with rfl | rfl | rfl | rfl | rfl | rfl | rfl | rfl | rfl <;> (dsimp only;omega)) (.slice Ye ye1 ye2) (.slice Yk yk1 yk2) (.slice Yc yc1 yc2)
       exact h9.cj
      clear hK K hHeld;have hHeld:=hHeld2;clear hHeld2;refine Tk 11 12 ?_;refine wpAnyH_done (by kernel_rfl) ?_ _;clear hHeld
      have HMID:Hid (MidJ v2 gy ⟨ky,⟨Ye,ye1,ye2⟩,⟨Yk,yk1,yk2⟩,⟨Yc,yc1,yc2⟩⟩ (((v6.setCell ⟨gy,0,none⟩ (.slice Ye ye1 ye2)).setCell ⟨gy,1,none⟩ (.slice Yk yk1 yk2)).setCell ⟨gy,2,none⟩ (.slice Yc yc1 yc2))):=by
       obtain⟨W9,hW9⟩:∃ W,W=(((v6.setCell ⟨gy,0,none⟩ (.slice Ye ye1 ye2)).setCell ⟨gy,1,none⟩ (.slice Yk yk1 yk2)).setCell ⟨gy,2,none⟩ (.slice Yc yc1 yc2)):=⟨_,rfl⟩;rw[← hW9]
       have hb:Below v2.heap.size v2 W9:=by
        rw[hW9];exact (((HBV.out.setCell (p:=⟨gy,0,none⟩) hvg _).setCell (p:=⟨gy,1,none⟩) hvg _).setCell (p:=⟨gy,2,none⟩) hvg _)
       refine⟨(HN.out.keep (by rw[hW9,cells3];exact Nat.le_refl _) (fun b hb _=>by rw[hW9];exact cells3_at b hb)).rd,?_⟩
       refine (((Kept.nil_of hb).cons_of ?_).cons_of ?_).cons_of ?_ <;> (rw[hW9];go_simp)
      clear z0 z1 z2 m0 m1 m2;go_wp2_with fail;go_meet;exact⟨gy,⟨ky,⟨Ye,ye1,ye2⟩,⟨Yk,yk1,yk2⟩,⟨Yc,yc1,yc2⟩⟩,rfl,rfl,HMID.out,HP.out⟩
     ·go_simp
      clear hHeld;refine Th hK ?_ (fun hHeld=>?_)
      ·exact (HKc.out.alloc _).cj
      clear hK K;obtain⟨gy,hgy⟩:∃ g,g=v4.heap.size:=⟨_,rfl⟩;obtain⟨v5,hv5⟩:∃ W,W=v4.alloc (.cells #[.slice none 0 0,.slice none 0 0,.slice none 0 0] 29):=⟨_,rfl⟩
      have hb9:Below v4.heap.size v4 v5:=by rw[hv5];exact Dt.box_below _ _ _
      have hvg:v2.heap.size≤gy:=by rw[hgy];exact HBV.out.size
      have hwg:w.heap.size≤gy:=by rw[hgy];exact HKc.out.below.size
      have hng:g≠gy:=by have h:=World.block_lt_of_cell? v4 _ HKc.out.c0;dsimp only at h;omega
      have hnp:p≠gy:=by have h:=World.block_lt_of_cell? v4 _ HKc.out.c3;dsimp only at h;omega
      have hnq:q≠gy:=by have h:=World.block_lt_of_cell? v4 _ HKc.out.c5;dsimp only at h;omega
      have hns:s≠gy:=by have h:=World.block_lt_of_cell? v4 _ HKc.out.c7;dsimp only at h;omega
      have b0:v5.cell? ⟨gy,0,none⟩=some (.slice none 0 0):=by rw[hv5,hgy];go_simp
      have b1:v5.cell? ⟨gy,1,none⟩=some (.slice none 0 0):=by rw[hv5,hgy];go_simp
      have b2:v5.cell? ⟨gy,2,none⟩=some (.slice none 0 0):=by rw[hv5,hgy];go_simp
      have HKc:=Lib.hid (HKc.out.later hb9);have R:=Lib.hid (RdT.later R.out hb9);have RX:=Lib.hid (RX.out.later hb9);have HBV:=Lib.hid (HBV.out.trans (hb9.mono HBV.out.size));have RP:=Lib.hid (RP.out.later hb9);have HZ:=Lib.hid ((((Kept.nil_of HBV.out).cons_of b2).cons_of b1).cons_of b0);have HF:Hid (Free gy v5):=⟨by rw[hv5,hgy];simp,fun j=>by rw[hv5,hgy];go_simp⟩;have hlt9:gy<v5.heap.size:=HF.out.1;(try rw[← hv5]at hHeld);rw[← hv5];rw[← hgy];clear hgy hv5 hb9 b0 b1 b2;refine Tc 5 (fun K hK=>?_);go_simp;(go_at_call 11;refine (update_any t Ae Ak ne nk ce ck tx (oneT ⟨b,m,⟨#[]⟩,7⟩,oneC b m) Pe Pk Pc pe1 pe2 pk1 pk2 pc1 pc2 v5 L.out (by have:=N.out;omega) R.out (LenT.few (by rw[nodes_one];omega)) (by rw[nodes_one];omega) (by have:=HP1.out;omega) RP.out).mono ?_);rw[updK_one HE.out HKY.out HUP.out,HUP.out]
      rintro e v6 ⟨Ye,ye1,ye2,Yk,yk1,yk2,Yc,yc1,yc2,rfl,how,hb9⟩;obtain⟨ky,hky⟩:∃ k,k=(wrapT (oneT ⟨b,m,⟨#[]⟩,7⟩) [tx],oneC b m):=⟨_,rfl⟩;rw[← hky]at how;have HP:Hid (ky=(wrapT (oneT ⟨b,m,⟨#[]⟩,7⟩) [tx],oneC b m)):=hky;have HN:Hid (NoC v6 (fun b=>b≠gy) ⟨ky,⟨Ye,ye1,ye2⟩,⟨Yk,yk1,yk2⟩,⟨Yc,yc1,yc2⟩⟩):=NoC.of_own how (fun b hb _=>by have h:=HF.out.1;omega);clear hky how;have HKc:=Lib.hid (HKc.out.later hb9);have R:=Lib.hid (RdT.later R.out hb9);have RX:=Lib.hid (RX.out.later hb9);have HBV:=Lib.hid (HBV.out.trans (hb9.mono HBV.out.size));have RP:=Lib.hid (RP.out.later hb9);have HZ:=Lib.hid (HZ.out.later hb9);have HF:=Lib.hid (HF.out.later hb9);clear hb9;obtain⟨z0,z1,z2,-⟩:=HZ.out.cj;have m0:=HF.out.2 0;have m1:=HF.out.2 1;have m2:=HF.out.2 2;clear hHeld;refine Th hK ?_ (fun hHeld=>?_)
      ·exact HKc.out.cj
      clear hK K;refine Tk 6 60 ?_;refine Tk 7 67 ?_;refine Tk 8 68 ?_;refine Tc 10 (fun K hK=>?_);go_simp;refine Th hK ?_ (fun hHeld2=>?_)
      ·(try dsimp only)
       have h9:=HKc.out.st3 (g:=gy) hwg (fun x hx=>by simp at hx;rcases hx with rfl | rfl | rfl | rfl | rfl | rfl | rfl | rfl | rfl <;> (dsimp only;omega)) (.slice Ye ye1 ye2) (.slice Yk yk1 yk2) (.slice Yc yc1 yc2)
       exact h9.cj
      clear hK K hHeld;have hHeld:=hHeld2;clear hHeld2;refine Tk 11 12 ?_;refine wpAnyH_done (by kernel_rfl) ?_ _;clear hHeld
      have HMID:Hid (MidJ v2 gy ⟨ky,⟨Ye,ye1,ye2⟩,⟨Yk,yk1,yk2⟩,⟨Yc,yc1,yc2⟩⟩ (((v6.setCell ⟨gy,0,none⟩ (.slice Ye ye1 ye2)).setCell ⟨gy,1,none⟩ (.slice Yk yk1 yk2)).setCell ⟨gy,2,none⟩ (.slice Yc yc1 yc2))):=by
       obtain⟨W9,hW9⟩:∃ W,W=(((v6.setCell ⟨gy,0,none⟩ (.slice Ye ye1 ye2)).setCell ⟨gy,1,none⟩ (.slice Yk yk1 yk2)).setCell ⟨gy,2,none⟩ (.slice Yc yc1 yc2)):=⟨_,rfl⟩;rw[← hW9]
       have hb:Below v2.heap.size v2 W9:=by
        rw[hW9];exact (((HBV.out.setCell (p:=⟨gy,0,none⟩) hvg _).setCell (p:=⟨gy,1,none⟩) hvg _).setCell (p:=⟨gy,2,none⟩) hvg _)
       refine⟨(HN.out.keep (by rw[hW9,cells3];exact Nat.le_refl _) (fun b hb _=>by rw[hW9];exact cells3_at b hb)).rd,?_⟩
       refine (((Kept.nil_of hb).cons_of ?_).cons_of ?_).cons_of ?_ <;> (rw[hW9];go_simp)
      clear z0 z1 z2 m0 m1 m2;go_wp2_with fail;go_meet;exact⟨gy,⟨ky,⟨Ye,ye1,ye2⟩,⟨Yk,yk1,yk2⟩,⟨Yc,yc1,yc2⟩⟩,rfl,rfl,HMID.out,HP.out⟩
    ·go_simp
     clear hHeld;refine Th hK ?_ (fun hHeld=>?_)
     ·exact (HKc.out.alloc _).cj
     clear hK K;obtain⟨gy,hgy⟩:∃ g,g=v3.heap.size:=⟨_,rfl⟩;obtain⟨v4,hv4⟩:∃ W,W=v3.alloc (.cells #[.slice none 0 0,.slice none 0 0,.slice none 0 0] 29):=⟨_,rfl⟩
     have hb9:Below v3.heap.size v3 v4:=by rw[hv4];exact Dt.box_below _ _ _
     have hvg:v2.heap.size≤gy:=by rw[hgy];exact HBV.out.size
     have hwg:w.heap.size≤gy:=by rw[hgy];exact HKc.out.below.size
     have hng:g≠gy:=by have h:=World.block_lt_of_cell? v3 _ HKc.out.c0;dsimp only at h;omega
     have hnp:p≠gy:=by have h:=World.block_lt_of_cell? v3 _ HKc.out.c3;dsimp only at h;omega
     have hnq:q≠gy:=by have h:=World.block_lt_of_cell? v3 _ HKc.out.c5;dsimp only at h;omega
     have hns:s≠gy:=by have h:=World.block_lt_of_cell? v3 _ HKc.out.c7;dsimp only at h;omega
     have b0:v4.cell? ⟨gy,0,none⟩=some (.slice none 0 0):=by rw[hv4,hgy];go_simp
     have b1:v4.cell? ⟨gy,1,none⟩=some (.slice none 0 0):=by rw[hv4,hgy];go_simp
     have b2:v4.cell? ⟨gy,2,none⟩=some (.slice none 0 0):=by rw[hv4,hgy];go_simp
     have HKc:=Lib.hid (HKc.out.later hb9);have R:=Lib.hid (RdT.later R.out hb9);have RX:=Lib.hid (RX.out.later hb9);have HBV:=Lib.hid (HBV.out.trans (hb9.mono HBV.out.size));have HZ:=Lib.hid ((((Kept.nil_of HBV.out).cons_of b2).cons_of b1).cons_of b0);have HF:Hid (Free gy v4):=⟨by rw[hv4,hgy];simp,fun j=>by rw[hv4,hgy];go_simp⟩;have hlt9:gy<v4.heap.size:=HF.out.1;(try rw[← hv4]at hHeld);rw[← hv4];rw[← hgy];clear hgy hv4 hb9 b0 b1 b2;refine Tc 4 (fun K hK=>?_);go_simp;(go_at_call 31;refine (refput_any [] none 0 0 b m ⟨#[]⟩ 7 [] (oneC b m) none 0 0 1 v4 rfl (Rd.nil _) rfl (by omega) (Rd.nil _) right_noneC HE.out (right_oneT (d:=4) HE.out) (by omega) (put_one HD2.out) rfl (by omega)).mono ?_);rintro e v5 ⟨Pe,pe1,pe2,Pk,pk1,pk2,Pc,pc1,pc2,rfl,how,hb9⟩;have RP:Hid (RdP v5 ⟨(oneT ⟨b,m,⟨#[]⟩,7⟩,oneC b m),⟨Pe,pe1,pe2⟩,⟨Pk,pk1,pk2⟩,⟨Pc,pc1,pc2⟩⟩):=RdP.of_own how
     have HP1:Hid (1=pc1):=how.len;clear how;have HKc:=Lib.hid (HKc.out.later hb9);have R:=Lib.hid (RdT.later R.out hb9);have RX:=Lib.hid (RX.out.later hb9);have HBV:=Lib.hid (HBV.out.trans (hb9.mono HBV.out.size));have HZ:=Lib.hid (HZ.out.later hb9);have HF:=Lib.hid (HF.out.later hb9);clear hb9;clear hHeld;refine Th hK ?_ (fun hHeld=>?_)
     ·exact HKc.out.cj
     clear hK K;refine Tc 5 (fun K hK=>?_);go_simp;(go_at_call 11;refine (update_any t Ae Ak ne nk ce ck tx (oneT ⟨b,m,⟨#[]⟩,7⟩,oneC b m) Pe Pk Pc pe1 pe2 pk1 pk2 pc1 pc2 v5 L.out (by have:=N.out;omega) R.out (LenT.few (by rw[nodes_one];omega)) (by rw[nodes_one];omega) (by have:=HP1.out;omega) RP.out).mono ?_);rw[updK_one HE.out HKY.out HUP.out,HUP.out];rintro e v6 ⟨Ye,ye1,ye2,Yk,yk1,yk2,Yc,yc1,yc2,rfl,how,hb9⟩;obtain⟨ky,hky⟩:∃ k,k=(wrapT (oneT ⟨b,m,⟨#[]⟩,7⟩) [tx],oneC b m):=⟨_,rfl⟩;rw[← hky]at how;have HP:Hid (ky=(wrapT (oneT ⟨b,m,⟨#[]⟩,7⟩) [tx],oneC b m)):=hky;have HN:Hid (NoC v6 (fun b=>b≠gy) ⟨ky,⟨Ye,ye1,ye2⟩,⟨Yk,yk1,yk2⟩,⟨Yc,yc1,yc2⟩⟩):=NoC.of_own how (fun b hb _=>by have h:=HF.out.1;omega);clear hky how;have HKc:=Lib.hid (HKc.out.later hb9);have R:=Lib.hid (RdT.later R.out hb9)
     have RX:=Lib.hid (RX.out.later hb9);have HBV:=Lib.hid (HBV.out.trans (hb9.mono HBV.out.size));have HZ:=Lib.hid (HZ.out.later hb9);have HF:=Lib.hid (HF.out.later hb9);have RP:=Lib.hid (RP.out.later hb9);clear hb9;obtain⟨z0,z1,z2,-⟩:=HZ.out.cj;have m0:=HF.out.2 0;have m1:=HF.out.2 1;have m2:=HF.out.2 2;clear hHeld;refine Th hK ?_ (fun hHeld=>?_)
     ·exact HKc.out.cj
     clear hK K;refine Tk 6 60 ?_;refine Tk 7 67 ?_;refine Tk 8 68 ?_;refine Tc 10 (fun K hK=>?_);go_simp;refine Th hK ?_ (fun hHeld2=>?_)
     ·(try dsimp only)
      have h9:=HKc.out.st3 (g:=gy) hwg (fun x hx=>by simp at hx;rcases hx with rfl | rfl | rfl | rfl | rfl | rfl | rfl | rfl | rfl <;> (dsimp only;omega)) (.slice Ye ye1 ye2) (.slice Yk yk1 yk2) (.slice Yc yc1 yc2)
      exact h9.cj
     clear hK K hHeld;have hHeld:=hHeld2;clear hHeld2;refine Tk 11 12 ?_;refine wpAnyH_done (by kernel_rfl) ?_ _;clear hHeld
     have HMID:Hid (MidJ v2 gy ⟨ky,⟨Ye,ye1,ye2⟩,⟨Yk,yk1,yk2⟩,⟨Yc,yc1,yc2⟩⟩ (((v6.setCell ⟨gy,0,none⟩ (.slice Ye ye1 ye2)).setCell ⟨gy,1,none⟩ (.slice Yk yk1 yk2)).setCell ⟨gy,2,none⟩ (.slice Yc yc1 yc2))):=by
      obtain⟨W9,hW9⟩:∃ W,W=(((v6.setCell ⟨gy,0,none⟩ (.slice Ye ye1 ye2)).setCell ⟨gy,1,none⟩ (.slice Yk yk1 yk2)).setCell ⟨gy,2,none⟩ (.slice Yc yc1 yc2)):=⟨_,rfl⟩;rw[← hW9]
      have hb:Below v2.heap.size v2 W9:=by
       rw[hW9];exact (((HBV.out.setCell (p:=⟨gy,0,none⟩) hvg _).setCell (p:=⟨gy,1,none⟩) hvg _).setCell (p:=⟨gy,2,none⟩) hvg _)
      refine⟨(HN.out.keep (by rw[hW9,cells3];exact Nat.le_refl _) (fun b hb _=>by rw[hW9];exact cells3_at b hb)).rd,?_⟩
      refine (((Kept.nil_of hb).cons_of ?_).cons_of ?_).cons_of ?_ <;> (rw[hW9];go_simp)
     clear z0 z1 z2 m0 m1 m2;go_wp2_with fail;go_meet;exact⟨gy,⟨ky,⟨Ye,ye1,ye2⟩,⟨Yk,yk1,yk2⟩,⟨Yc,yc1,yc2⟩⟩,rfl,rfl,HMID.out,HP.out⟩
   case rest=>
    obtain⟨wcgy,hwcgy⟩:∃ W,W=wc:=⟨_,rfl⟩;subst hwcgy;obtain⟨gy,⟨ky,⟨Ye,ye1,ye2⟩,⟨Yk,yk1,yk2⟩,⟨Yc,yc1,yc2⟩⟩,rfl,rfl,hmid,hprop⟩:=hcut;obtain⟨hrp,hkp⟩:=hmid.out;have hb9:=hkp.below;have HKc:=Lib.hid (HKc.out.later hb9);have R:=Lib.hid (RdT.later R.out hb9);have RX:=Lib.hid (RX.out.later hb9);clear hb9;have RY:=Lib.hid hrp;have PY:Hid (ky=(wrapT (oneT ⟨b,m,⟨#[]⟩,7⟩) [tx],oneC b m)):=hprop.out;have HKc:=Lib.hid ((((HKc.out.cons_of hkp.c2).cons_of hkp.c1).cons_of hkp.c0));clear hmid hprop hrp hkp
    have KY:Hid (ky.1=wrapT (oneT ⟨b,m,⟨#[]⟩,7⟩) [tx]):=by unfold Hid;rw[PY.out]
    have BY:Hid (yc1≤244):=by
     have h:=RY.out.len;dsimp only at h;rw[PY.out]at h;have h2:(oneC b m).length=1:=rfl;dsimp only at h;unfold Hid;omega
    have NY:Hid (nodes ky.1≤2):=by unfold Hid;rw[KY.out,Tr.nodes_wrap,nodes_one];simp
    have JY:Hid (RK ky):=by
     unfold Hid;rw[PY.out];exact right_wrapK HE.out HKY.out (right_oneC HD2.out) (by rw[has_oneC];exact decide_eq_true ⟨rfl,rfl⟩)
    have HSUM:∀ (B9:Option Addr) (d9:Nat),Hid (sumN [⟨(t,u),⟨Ae,ne,ce⟩,⟨Ak,nk,ck⟩,⟨B9,m9,d9⟩⟩,⟨kx,⟨Xe,xe1,xe2⟩,⟨Xk,xk1,xk2⟩,⟨Xc,xc1,xc2⟩⟩,⟨ky,⟨Ye,ye1,ye2⟩,⟨Yk,yk1,yk2⟩,⟨Yc,yc1,yc2⟩⟩]≤1000∧sumC [⟨(t,u),⟨Ae,ne,ce⟩,⟨Ak,nk,ck⟩,⟨B9,m9,d9⟩⟩,⟨kx,⟨Xe,xe1,xe2⟩,⟨Xk,xk1,xk2⟩,⟨Xc,xc1,xc2⟩⟩,⟨ky,⟨Ye,ye1,ye2⟩,⟨Yk,yk1,yk2⟩,⟨Yc,yc1,yc2⟩⟩]≤1000):=fun B9 d9=>by
     have h1:=N.out;have h2:=HU.out.2.2;have hbx:=BX.out;have hnx:nodes kx.1≤2:=(by rw[KX.out,nodes_none];omega);have hby:=BY.out;have hny:nodes ky.1≤2:=NY.out;unfold Hid;simp only[sumN,sumC,List.map_cons,List.map_nil,List.sum_cons,List.sum_nil];omega
    obtain⟨c0,c1,c2,c3,c4,c5,c6,c7,c8,c9,c10,c11,-⟩:=HKc.out.cj;go_wp2_with fail;clear c0 c1 c2 c3 c4 c5 c6 c7 c8 c9 c10 c11
    go_cut [13,14] (fun s9 e9 wx=>∃ (g9:Nat) (p9:CP),s9 = .pointer (some ⟨g9,0,none⟩)∧e9 = .int .i64 0∧Hid (MidJ wcgy g9 p9 wx)∧Hid (AllJ [(t,u),kx,ky] p9.k∧nodes p9.k.1≤1000∧p9.c.n≤1000))
    case first=>
     refine wp_region_held_drew (S:=Conj _) (by kernel_rfl) HKc.out.drew.cj (fun hHeld=>?_);obtain⟨v3,hv3⟩:∃ v,v=wcgy.drew:=⟨_,rfl⟩
     have hb9:Below wcgy.heap.size wcgy v3:=by rw[hv3];exact (Below.refl _ _).drew
     have HKc:=Lib.hid (HKc.out.later hb9);have R:=Lib.hid (RdT.later R.out hb9);have RX:=Lib.hid (RX.out.later hb9);have RY:=Lib.hid (RY.out.later hb9);clear hb9;have HBV9:Hid (wcgy.drew=v3):=hv3.symm;rw[← hv3]at hHeld ⊢;clear hv3
     have HBV:Hid (Below wcgy.heap.size wcgy v3):=by unfold Hid;rw[← HBV9.out];exact (Below.refl _ _).drew
     clear HBV9;refine Tk 0 70 ?_;refine Tk 2 72 ?_;refine Tk 3 73 ?_;refine wpAnyH_ready (rs:=[1,9]) (by kernel_rfl) (by simp) ?_;refine AllReadyH.cons (o:=⟨some 71,_,_,_,_,_⟩) rfl (fun K hK=>?_) (AllReadyH.cons (o:=⟨some 13,_,_,_,_,_⟩) rfl (fun K hK=>?_) (AllReadyH.nil))
     ·go_simp
      (go_at_call 26;refine (refknown_any t Ae Ak ne nk ce ck u m9 v3 HT.out (by have:=N.out;omega) R.out HU.out.1 HU.out.2.1 (by have:=HU.out.2.2;omega)).mono ?_);rintro e v4 ⟨B9,d9,rfl,hro,hb9⟩;have RK9:Hid (RdP v4 ⟨(t,u),⟨Ae,ne,ce⟩,⟨Ak,nk,ck⟩,⟨B9,m9,d9⟩⟩):=⟨RdT.later R.out hb9,HU.out.2.1,hro.rd⟩;clear hro;have HKc:=Lib.hid (HKc.out.later hb9);have R:=Lib.hid (RdT.later R.out hb9);have RX:=Lib.hid (RX.out.later hb9);have RY:=Lib.hid (RY.out.later hb9);have HBV:=Lib.hid (HBV.out.trans (hb9.mono HBV.out.size));clear hb9;have HSUM:=HSUM B9 d9;clear hHeld;refine Th hK ?_ (fun hHeld=>?_)
      ·exact HKc.out.cj
      clear hK K;refine wpAnyH_ready (rs:=[4,9]) (by kernel_rfl) (by simp) ?_;refine AllReadyH.cons (o:=⟨some 74,_,_,_,_,_⟩) rfl (fun K hK=>?_) (AllReadyH.cons (o:=⟨some 13,_,_,_,_,_⟩) rfl (fun K hK=>?_) (AllReadyH.nil))
      ·go_simp
       clear hHeld;refine Th hK ?_ (fun hHeld=>?_)
       ·exact (HKc.out.alloc _).cj
       clear hK K;obtain⟨gr,hgr⟩:∃ g,g=v4.heap.size:=⟨_,rfl⟩;obtain⟨v5,hv5⟩:∃ W,W=v4.alloc (.cells #[.slice Ae ne ce,.slice Ak nk ck,.slice B9 m9 d9,.slice Xe xe1 xe2,.slice Xk xk1 xk2,.slice Xc xc1 xc2,.slice Ye ye1 ye2,.slice Yk yk1 yk2,.slice Yc yc1 yc2] 29):=⟨_,rfl⟩
       have hb9:Below v4.heap.size v4 v5:=by rw[hv5];exact Dt.box_below _ _ _
       have hrow:=rd_rowP v4 [⟨(t,u),⟨Ae,ne,ce⟩,⟨Ak,nk,ck⟩,⟨B9,m9,d9⟩⟩,⟨kx,⟨Xe,xe1,xe2⟩,⟨Xk,xk1,xk2⟩,⟨Xc,xc1,xc2⟩⟩,⟨ky,⟨Ye,ye1,ye2⟩,⟨Yk,yk1,yk2⟩,⟨Yc,yc1,yc2⟩⟩] #[.slice Ae ne ce,.slice Ak nk ck,.slice B9 m9 d9,.slice Xe xe1 xe2,.slice Xk xk1 xk2,.slice Xc xc1 xc2,.slice Ye ye1 ye2,.slice Yk yk1 yk2,.slice Yc yc1 yc2] 3 rfl rfl;rw[← hv5,← hgr]at hrow;have HKc:=Lib.hid (HKc.out.later hb9);have R:=Lib.hid (RdT.later R.out hb9);have RX:=Lib.hid (RX.out.later hb9);have RY:=Lib.hid (RY.out.later hb9);have HBV:=Lib.hid (HBV.out.trans (hb9.mono HBV.out.size));have RK9:=Lib.hid (RK9.out.later hb9)
       have RW:Hid (RowP v5 (some ⟨gr,0,none⟩) 3 3 [⟨(t,u),⟨Ae,ne,ce⟩,⟨Ak,nk,ck⟩,⟨B9,m9,d9⟩⟩,⟨kx,⟨Xe,xe1,xe2⟩,⟨Xk,xk1,xk2⟩,⟨Xc,xc1,xc2⟩⟩,⟨ky,⟨Ye,ye1,ye2⟩,⟨Yk,yk1,yk2⟩,⟨Yc,yc1,yc2⟩⟩]):=⟨hrow.more (by rw[hv5,hgr];simp),rfl,fun p hp=>by
        simp at hp
        rcases hp with rfl | rfl | rfl
        ·exact RK9.out
        ·exact RX.out
        ·exact RY.out⟩
       (try rw[← hv5]at hHeld);rw[← hv5];rw[← hgr];clear hgr hv5 hb9 hrow;refine wpAnyH_ready (rs:=[5,9]) (by kernel_rfl) (by simp) ?_;refine AllReadyH.cons (o:=⟨some 75,_,_,_,_,_⟩) rfl (fun K hK=>?_) (AllReadyH.cons (o:=⟨some 13,_,_,_,_,_⟩) rfl (fun K hK=>?_) (AllReadyH.nil))
       ·go_simp
        (go_at_call 32;refine (joinAllE_sum 3 [⟨(t,u),⟨Ae,ne,ce⟩,⟨Ak,nk,ck⟩,⟨B9,m9,d9⟩⟩,⟨kx,⟨Xe,xe1,xe2⟩,⟨Xk,xk1,xk2⟩,⟨Xc,xc1,xc2⟩⟩,⟨ky,⟨Ye,ye1,ye2⟩,⟨Yk,yk1,yk2⟩,⟨Yc,yc1,yc2⟩⟩] (some ⟨gr,0,none⟩) 3 v5 (by omega) RW.out HSUM.out).mono ?_);rintro e v6 ⟨kf,z9,hj,_,Fe,fe1,fe2,Fk,fk1,fk2,Fc,fc1,fc2,rfl,how,hb9⟩
        obtain⟨rfl,hall,hnn,hnc⟩:=hj (fun p hp=>by
         simp at hp
         rcases hp with rfl | rfl | rfl
         ·exact JT.out
         ·exact JX.out
         ·exact JY.out)
        have HP:Hid (AllJ [(t,u),kx,ky] kf∧nodes kf.1≤1000∧fc1≤1000):=⟨hall,Nat.le_trans hnn HSUM.out.1,by rw[← how.len];exact Nat.le_trans hnc HSUM.out.2⟩;have HN:Hid (NoC v6 (fun _=>True) ⟨kf,⟨Fe,fe1,fe2⟩,⟨Fk,fk1,fk2⟩,⟨Fc,fc1,fc2⟩⟩):=NoC.of_own how (fun b hb _=>trivial);clear hj hall hnn hnc how;have HKc:=Lib.hid (HKc.out.later hb9);have R:=Lib.hid (RdT.later R.out hb9);have RX:=Lib.hid (RX.out.later hb9);have RY:=Lib.hid (RY.out.later hb9);have HBV:=Lib.hid (HBV.out.trans (hb9.mono HBV.out.size));have RK9:=Lib.hid (RK9.out.later hb9);have RW:=Lib.hid (RW.out.later hb9);clear hb9;clear hHeld;refine Th hK ?_ (fun hHeld=>?_)
        ·exact HKc.out.cj
        clear hK K;refine Tk 6 69 ?_;refine Tk 7 76 ?_;refine Tk 8 77 ?_;refine Tc 9 (fun K hK=>?_);go_simp;clear hHeld;refine Th hK ?_ (fun hHeld=>?_)
        ·exact (HKc.out.alloc _).cj
        clear hK K;obtain⟨gf,hgf⟩:∃ g,g=v6.heap.size:=⟨_,rfl⟩;obtain⟨v7,hv7⟩:∃ W,W=v6.alloc (.cells #[.slice none 0 0,.slice none 0 0,.slice none 0 0] 29):=⟨_,rfl⟩
        have hb9:Below v6.heap.size v6 v7:=by rw[hv7];exact Dt.box_below _ _ _
        have hvg:wcgy.heap.size≤gf:=by rw[hgf];exact HBV.out.size
        have hwg:w.heap.size≤gf:=by rw[hgf];exact HKc.out.below.size
        have hngy:gy≠gf:=by have h:=World.block_lt_of_cell? v6 _ HKc.out.c0;dsimp only at h;omega
        have hng:g≠gf:=by have h:=World.block_lt_of_cell? v6 _ HKc.out.c3;dsimp only at h;omega
        have hnp:p≠gf:=by have h:=World.block_lt_of_cell? v6 _ HKc.out.c6;dsimp only at h;omega
        have hnq:q≠gf:=by have h:=World.block_lt_of_cell? v6 _ HKc.out.t8.c0;dsimp only at h;omega
        have hns:s≠gf:=by have h:=World.block_lt_of_cell? v6 _ HKc.out.t8.c2;dsimp only at h;omega
        have b0:v7.cell? ⟨gf,0,none⟩=some (.slice none 0 0):=by rw[hv7,hgf];go_simp
        have b1:v7.cell? ⟨gf,1,none⟩=some (.slice none 0 0):=by rw[hv7,hgf];go_simp
        have b2:v7.cell? ⟨gf,2,none⟩=some (.slice none 0 0):=by rw[hv7,hgf];go_simp
        have HN:=Lib.hid (HN.out.mono (ok':=fun b=>b≠gf) (fun b _ hlt=>by omega));have HKc:=Lib.hid (HKc.out.later hb9);have R:=Lib.hid (RdT.later R.out hb9);have RX:=Lib.hid (RX.out.later hb9);have RY:=Lib.hid (RY.out.later hb9);have HBV:=Lib.hid (HBV.out.trans (hb9.mono HBV.out.size));have RK9:=Lib.hid (RK9.out.later hb9);have RW:=Lib.hid (RW.out.later hb9);have HN:=Lib.hid (HN.out.later hb9);have HZ:=Lib.hid ((((Kept.nil_of HBV.out).cons_of b2).cons_of b1).cons_of b0);have HF:Hid (Free gf v7):=⟨by rw[hv7,hgf];simp,fun j=>by rw[hv7,hgf];go_simp⟩;have hlt9:gf<v7.heap.size:=HF.out.1;(try rw[← hv7]at hHeld);rw[← hv7];rw[← hgf];clear hgf hv7 hb9 b0 b1 b2;obtain⟨z0,z1,z2,-⟩:=HZ.out.cj;have m0:=HF.out.2 0;have m1:=HF.out.2 1;have m2:=HF.out.2 2;refine Tc 10 (fun K hK=>?_);go_simp;refine Th hK ?_ (fun hHeld2=>?_)
        ·(try dsimp only)
         have h9:=HKc.out.st3 (g:=gf) hwg (fun x hx=>by simp at hx;rcases hx with rfl | rfl | rfl | rfl | rfl | rfl | rfl | rfl | rfl | rfl | rfl | rfl <;> (dsimp only;omega)) (.slice Fe fe1 fe2) (.slice Fk fk1 fk2) (.slice Fc fc1 fc2)
         exact h9.cj
        clear hK K hHeld;have hHeld:=hHeld2;clear hHeld2;refine Tk 11 14 ?_;refine wpAnyH_done (by kernel_rfl) ?_ _;clear hHeld
        have HMID:Hid (MidJ wcgy gf ⟨kf,⟨Fe,fe1,fe2⟩,⟨Fk,fk1,fk2⟩,⟨Fc,fc1,fc2⟩⟩ (((v7.setCell ⟨gf,0,none⟩ (.slice Fe fe1 fe2)).setCell ⟨gf,1,none⟩ (.slice Fk fk1 fk2)).setCell ⟨gf,2,none⟩ (.slice Fc fc1 fc2))):=by
         obtain⟨W9,hW9⟩:∃ W,W=(((v7.setCell ⟨gf,0,none⟩ (.slice Fe fe1 fe2)).setCell ⟨gf,1,none⟩ (.slice Fk fk1 fk2)).setCell ⟨gf,2,none⟩ (.slice Fc fc1 fc2)):=⟨_,rfl⟩;rw[← hW9]
         have hb:Below wcgy.heap.size wcgy W9:=by
          rw[hW9];exact (((HBV.out.setCell (p:=⟨gf,0,none⟩) hvg _).setCell (p:=⟨gf,1,none⟩) hvg _).setCell (p:=⟨gf,2,none⟩) hvg _)
         refine⟨(HN.out.keep (by rw[hW9,cells3];exact Nat.le_refl _) (fun b hb _=>by rw[hW9];exact cells3_at b hb)).rd,?_⟩
         refine (((Kept.nil_of hb).cons_of ?_).cons_of ?_).cons_of ?_ <;> (rw[hW9];go_simp)
        clear z0 z1 z2 m0 m1 m2;go_wp2_with fail;go_meet;exact⟨gf,⟨kf,⟨Fe,fe1,fe2⟩,⟨Fk,fk1,fk2⟩,⟨Fc,fc1,fc2⟩⟩,rfl,rfl,HMID.out,HP.out⟩
       ·go_simp
        clear hHeld;refine Th hK ?_ (fun hHeld=>?_)
        ·exact (HKc.out.alloc _).cj
        clear hK K;obtain⟨gf,hgf⟩:∃ g,g=v5.heap.size:=⟨_,rfl⟩;obtain⟨v6,hv6⟩:∃ W,W=v5.alloc (.cells #[.slice none 0 0,.slice none 0 0,.slice none 0 0] 29):=⟨_,rfl⟩
        have hb9:Below v5.heap.size v5 v6:=by rw[hv6];exact Dt.box_below _ _ _
        have hvg:wcgy.heap.size≤gf:=by rw[hgf];exact HBV.out.size
        have hwg:w.heap.size≤gf:=by rw[hgf];exact HKc.out.below.size
        have hngy:gy≠gf:=by have h:=World.block_lt_of_cell? v5 _ HKc.out.c0;dsimp only at h;omega
        have hng:g≠gf:=by have h:=World.block_lt_of_cell? v5 _ HKc.out.c3;dsimp only at h;omega
        have hnp:p≠gf:=by have h:=World.block_lt_of_cell? v5 _ HKc.out.c6;dsimp only at h;omega
        have hnq:q≠gf:=by have h:=World.block_lt_of_cell? v5 _ HKc.out.t8.c0;dsimp only at h;omega
        have hns:s≠gf:=by have h:=World.block_lt_of_cell? v5 _ HKc.out.t8.c2;dsimp only at h;omega
        have b0:v6.cell? ⟨gf,0,none⟩=some (.slice none 0 0):=by rw[hv6,hgf];go_simp
        have b1:v6.cell? ⟨gf,1,none⟩=some (.slice none 0 0):=by rw[hv6,hgf];go_simp
        have b2:v6.cell? ⟨gf,2,none⟩=some (.slice none 0 0):=by rw[hv6,hgf];go_simp
        have HKc:=Lib.hid (HKc.out.later hb9);have R:=Lib.hid (RdT.later R.out hb9);have RX:=Lib.hid (RX.out.later hb9);have RY:=Lib.hid (RY.out.later hb9);have HBV:=Lib.hid (HBV.out.trans (hb9.mono HBV.out.size));have RK9:=Lib.hid (RK9.out.later hb9);have RW:=Lib.hid (RW.out.later hb9);have HZ:=Lib.hid ((((Kept.nil_of HBV.out).cons_of b2).cons_of b1).cons_of b0);have HF:Hid (Free gf v6):=⟨by rw[hv6,hgf];simp,fun j=>by rw[hv6,hgf];go_simp⟩;have hlt9:gf<v6.heap.size:=HF.out.1;(try rw[← hv6]at hHeld);rw[← hv6];rw[← hgf];clear hgf hv6 hb9 b0 b1 b2;refine Tc 5 (fun K hK=>?_);go_simp;(go_at_call 32;refine (joinAllE_sum 3 [⟨(t,u),⟨Ae,ne,ce⟩,⟨Ak,nk,ck⟩,⟨B9,m9,d9⟩⟩,⟨kx,⟨Xe,xe1,xe2⟩,⟨Xk,xk1,xk2⟩,⟨Xc,xc1,xc2⟩⟩,⟨ky,⟨Ye,ye1,ye2⟩,⟨Yk,yk1,yk2⟩,⟨Yc,yc1,yc2⟩⟩] (some ⟨gr,0,none⟩) 3 v6 (by omega) RW.out HSUM.out).mono ?_)
        rintro e v7 ⟨kf,z9,hj,_,Fe,fe1,fe2,Fk,fk1,fk2,Fc,fc1,fc2,rfl,how,hb9⟩
        obtain⟨rfl,hall,hnn,hnc⟩:=hj (fun p hp=>by
         simp at hp
         rcases hp with rfl | rfl | rfl
         ·exact JT.out
         ·exact JX.out
         ·exact JY.out)
        have HP:Hid (AllJ [(t,u),kx,ky] kf∧nodes kf.1≤1000∧fc1≤1000):=⟨hall,Nat.le_trans hnn HSUM.out.1,by rw[← how.len];exact Nat.le_trans hnc HSUM.out.2⟩;have HN:Hid (NoC v7 (fun b=>b≠gf) ⟨kf,⟨Fe,fe1,fe2⟩,⟨Fk,fk1,fk2⟩,⟨Fc,fc1,fc2⟩⟩):=NoC.of_own how (fun b hb _=>by have h:=HF.out.1;omega);clear hj hall hnn hnc how;have HKc:=Lib.hid (HKc.out.later hb9);have R:=Lib.hid (RdT.later R.out hb9);have RX:=Lib.hid (RX.out.later hb9);have RY:=Lib.hid (RY.out.later hb9);have HBV:=Lib.hid (HBV.out.trans (hb9.mono HBV.out.size));have RK9:=Lib.hid (RK9.out.later hb9);have RW:=Lib.hid (RW.out.later hb9);have HZ:=Lib.hid (HZ.out.later hb9);have HF:=Lib.hid (HF.out.later hb9);clear hb9;obtain⟨z0,z1,z2,-⟩:=HZ.out.cj;have m0:=HF.out.2 0;have m1:=HF.out.2 1;have m2:=HF.out.2 2;clear hHeld;refine Th hK ?_ (fun hHeld=>?_)
        ·exact HKc.out.cj
        clear hK K;refine Tk 6 69 ?_;refine Tk 7 76 ?_;refine Tk 8 77 ?_;refine Tc 10 (fun K hK=>?_);go_simp;refine Th hK ?_ (fun hHeld2=>?_)
        ·(try dsimp only)
         have h9:=HKc.out.st3 (g:=gf) hwg (fun x hx=>by simp at hx;rcases hx with rfl | rfl | rfl | rfl | rfl | rfl | rfl | rfl | rfl | rfl | rfl | rfl <;> (dsimp only;omega)) (.slice Fe fe1 fe2) (.slice Fk fk1 fk2) (.slice Fc fc1 fc2)
         exact h9.cj
        clear hK K hHeld;have hHeld:=hHeld2;clear hHeld2;refine Tk 11 14 ?_;refine wpAnyH_done (by kernel_rfl) ?_ _;clear hHeld
        have HMID:Hid (MidJ wcgy gf ⟨kf,⟨Fe,fe1,fe2⟩,⟨Fk,fk1,fk2⟩,⟨Fc,fc1,fc2⟩⟩ (((v7.setCell ⟨gf,0,none⟩ (.slice Fe fe1 fe2)).setCell ⟨gf,1,none⟩ (.slice Fk fk1 fk2)).setCell ⟨gf,2,none⟩ (.slice Fc fc1 fc2))):=by
         obtain⟨W9,hW9⟩:∃ W,W=(((v7.setCell ⟨gf,0,none⟩ (.slice Fe fe1 fe2)).setCell ⟨gf,1,none⟩ (.slice Fk fk1 fk2)).setCell ⟨gf,2,none⟩ (.slice Fc fc1 fc2)):=⟨_,rfl⟩;rw[← hW9]
         have hb:Below wcgy.heap.size wcgy W9:=by
          rw[hW9];exact (((HBV.out.setCell (p:=⟨gf,0,none⟩) hvg _).setCell (p:=⟨gf,1,none⟩) hvg _).setCell (p:=⟨gf,2,none⟩) hvg _)
         refine⟨(HN.out.keep (by rw[hW9,cells3];exact Nat.le_refl _) (fun b hb _=>by rw[hW9];exact cells3_at b hb)).rd,?_⟩
         refine (((Kept.nil_of hb).cons_of ?_).cons_of ?_).cons_of ?_ <;> (rw[hW9];go_simp)
        clear z0 z1 z2 m0 m1 m2;go_wp2_with fail;go_meet;exact⟨gf,⟨kf,⟨Fe,fe1,fe2⟩,⟨Fk,fk1,fk2⟩,⟨Fc,fc1,fc2⟩⟩,rfl,rfl,HMID.out,HP.out⟩
      ·go_simp
       clear hHeld;refine Th hK ?_ (fun hHeld=>?_)
       ·exact (HKc.out.alloc _).cj
       clear hK K;obtain⟨gf,hgf⟩:∃ g,g=v4.heap.size:=⟨_,rfl⟩;obtain⟨v5,hv5⟩:∃ W,W=v4.alloc (.cells #[.slice none 0 0,.slice none 0 0,.slice none 0 0] 29):=⟨_,rfl⟩
       have hb9:Below v4.heap.size v4 v5:=by rw[hv5];exact Dt.box_below _ _ _
       have hvg:wcgy.heap.size≤gf:=by rw[hgf];exact HBV.out.size
       have hwg:w.heap.size≤gf:=by rw[hgf];exact HKc.out.below.size
       have hngy:gy≠gf:=by have h:=World.block_lt_of_cell? v4 _ HKc.out.c0;dsimp only at h;omega
       have hng:g≠gf:=by have h:=World.block_lt_of_cell? v4 _ HKc.out.c3;dsimp only at h;omega
       have hnp:p≠gf:=by have h:=World.block_lt_of_cell? v4 _ HKc.out.c6;dsimp only at h;omega
       have hnq:q≠gf:=by have h:=World.block_lt_of_cell? v4 _ HKc.out.t8.c0;dsimp only at h;omega
       have hns:s≠gf:=by have h:=World.block_lt_of_cell? v4 _ HKc.out.t8.c2;dsimp only at h;omega
       have b0:v5.cell? ⟨gf,0,none⟩=some (.slice none 0 0):=by rw[hv5,hgf];go_simp
       have b1:v5.cell? ⟨gf,1,none⟩=some (.slice none 0 0):=by rw[hv5,hgf];go_simp
       have b2:v5.cell? ⟨gf,2,none⟩=some (.slice none 0 0):=by rw[hv5,hgf];go_simp
       have HKc:=Lib.hid (HKc.out.later hb9);have R:=Lib.hid (RdT.later R.out hb9);have RX:=Lib.hid (RX.out.later hb9);have RY:=Lib.hid (RY.out.later hb9);have HBV:=Lib.hid (HBV.out.trans (hb9.mono HBV.out.size));have RK9:=Lib.hid (RK9.out.later hb9);have HZ:=Lib.hid ((((Kept.nil_of HBV.out).cons_of b2).cons_of b1).cons_of b0);have HF:Hid (Free gf v5):=⟨by rw[hv5,hgf];simp,fun j=>by rw[hv5,hgf];go_simp⟩;have hlt9:gf<v5.heap.size:=HF.out.1;(try rw[← hv5]at hHeld);rw[← hv5];rw[← hgf];clear hgf hv5 hb9 b0 b1 b2;refine Tc 4 (fun K hK=>?_);go_simp;clear hHeld;refine Th hK ?_ (fun hHeld=>?_)
       ·exact (HKc.out.alloc _).cj
       clear hK K;obtain⟨gr,hgr⟩:∃ g,g=v5.heap.size:=⟨_,rfl⟩;obtain⟨v6,hv6⟩:∃ W,W=v5.alloc (.cells #[.slice Ae ne ce,.slice Ak nk ck,.slice B9 m9 d9,.slice Xe xe1 xe2,.slice Xk xk1 xk2,.slice Xc xc1 xc2,.slice Ye ye1 ye2,.slice Yk yk1 yk2,.slice Yc yc1 yc2] 29):=⟨_,rfl⟩
       have hb9:Below v5.heap.size v5 v6:=by rw[hv6];exact Dt.box_below _ _ _
       have hrow:=rd_rowP v5 [⟨(t,u),⟨Ae,ne,ce⟩,⟨Ak,nk,ck⟩,⟨B9,m9,d9⟩⟩,⟨kx,⟨Xe,xe1,xe2⟩,⟨Xk,xk1,xk2⟩,⟨Xc,xc1,xc2⟩⟩,⟨ky,⟨Ye,ye1,ye2⟩,⟨Yk,yk1,yk2⟩,⟨Yc,yc1,yc2⟩⟩] #[.slice Ae ne ce,.slice Ak nk ck,.slice B9 m9 d9,.slice Xe xe1 xe2,.slice Xk xk1 xk2,.slice Xc xc1 xc2,.slice Ye ye1 ye2,.slice Yk yk1 yk2,.slice Yc yc1 yc2] 3 rfl rfl;rw[← hv6,← hgr]at hrow;have HKc:=Lib.hid (HKc.out.later hb9);have R:=Lib.hid (RdT.later R.out hb9);have RX:=Lib.hid (RX.out.later hb9);have RY:=Lib.hid (RY.out.later hb9);have HBV:=Lib.hid (HBV.out.trans (hb9.mono HBV.out.size));have RK9:=Lib.hid (RK9.out.later hb9);have HZ:=Lib.hid (HZ.out.later hb9);have HF:=Lib.hid (HF.out.later hb9)
       have RW:Hid (RowP v6 (some ⟨gr,0,none⟩) 3 3 [⟨(t,u),⟨Ae,ne,ce⟩,⟨Ak,nk,ck⟩,⟨B9,m9,d9⟩⟩,⟨kx,⟨Xe,xe1,xe2⟩,⟨Xk,xk1,xk2⟩,⟨Xc,xc1,xc2⟩⟩,⟨ky,⟨Ye,ye1,ye2⟩,⟨Yk,yk1,yk2⟩,⟨Yc,yc1,yc2⟩⟩]):=⟨hrow.more (by rw[hv6,hgr];simp),rfl,fun p hp=>by
        simp at hp
        rcases hp with rfl | rfl | rfl
        ·exact RK9.out
        ·exact RX.out
        ·exact RY.out⟩
       (try rw[← hv6]at hHeld);rw[← hv6];rw[← hgr];clear hgr hv6 hb9 hrow;refine Tc 5 (fun K hK=>?_);go_simp;(go_at_call 32;refine (joinAllE_sum 3 [⟨(t,u),⟨Ae,ne,ce⟩,⟨Ak,nk,ck⟩,⟨B9,m9,d9⟩⟩,⟨kx,⟨Xe,xe1,xe2⟩,⟨Xk,xk1,xk2⟩,⟨Xc,xc1,xc2⟩⟩,⟨ky,⟨Ye,ye1,ye2⟩,⟨Yk,yk1,yk2⟩,⟨Yc,yc1,yc2⟩⟩] (some ⟨gr,0,none⟩) 3 v6 (by omega) RW.out HSUM.out).mono ?_);rintro e v7 ⟨kf,z9,hj,_,Fe,fe1,fe2,Fk,fk1,fk2,Fc,fc1,fc2,rfl,how,hb9⟩
       obtain⟨rfl,hall,hnn,hnc⟩:=hj (fun p hp=>by
        simp at hp
        rcases hp with rfl | rfl | rfl
        ·exact JT.out
        ·exact JX.out
        ·exact JY.out)
       have HP:Hid (AllJ [(t,u),kx,ky] kf∧nodes kf.1≤1000∧fc1≤1000):=⟨hall,Nat.le_trans hnn HSUM.out.1,by rw[← how.len];exact Nat.le_trans hnc HSUM.out.2⟩;have HN:Hid (NoC v7 (fun b=>b≠gf) ⟨kf,⟨Fe,fe1,fe2⟩,⟨Fk,fk1,fk2⟩,⟨Fc,fc1,fc2⟩⟩):=NoC.of_own how (fun b hb _=>by have h:=HF.out.1;omega);clear hj hall hnn hnc how;have HKc:=Lib.hid (HKc.out.later hb9);have R:=Lib.hid (RdT.later R.out hb9);have RX:=Lib.hid (RX.out.later hb9);have RY:=Lib.hid (RY.out.later hb9);have HBV:=Lib.hid (HBV.out.trans (hb9.mono HBV.out.size));have RK9:=Lib.hid (RK9.out.later hb9);have HZ:=Lib.hid (HZ.out.later hb9);have HF:=Lib.hid (HF.out.later hb9);have RW:=Lib.hid (RW.out.later hb9);clear hb9;obtain⟨z0,z1,z2,-⟩:=HZ.out.cj;have m0:=HF.out.2 0;have m1:=HF.out.2 1;have m2:=HF.out.2 2;clear hHeld;refine Th hK ?_ (fun hHeld=>?_)
       ·exact HKc.out.cj
       clear hK K;refine Tk 6 69 ?_;refine Tk 7 76 ?_;refine Tk 8 77 ?_;refine Tc 10 (fun K hK=>?_);go_simp;refine Th hK ?_ (fun hHeld2=>?_)
       ·(try dsimp only)
        have h9:=HKc.out.st3 (g:=gf) hwg (fun x hx=>by simp at hx;rcases hx with rfl | rfl | rfl | rfl | rfl | rfl | rfl | rfl | rfl | rfl | rfl | rfl <;> (dsimp only;omega)) (.slice Fe fe1 fe2) (.slice Fk fk1 fk2) (.slice Fc fc1 fc2)
        exact h9.cj
       clear hK K hHeld;have hHeld:=hHeld2;clear hHeld2;refine Tk 11 14 ?_;refine wpAnyH_done (by kernel_rfl) ?_ _;clear hHeld
       have HMID:Hid (MidJ wcgy gf ⟨kf,⟨Fe,fe1,fe2⟩,⟨Fk,fk1,fk2⟩,⟨Fc,fc1,fc2⟩⟩ (((v7.setCell ⟨gf,0,none⟩ (.slice Fe fe1 fe2)).setCell ⟨gf,1,none⟩ (.slice Fk fk1 fk2)).setCell ⟨gf,2,none⟩ (.slice Fc fc1 fc2))):=by
        obtain⟨W9,hW9⟩:∃ W,W=(((v7.setCell ⟨gf,0,none⟩ (.slice Fe fe1 fe2)).setCell ⟨gf,1,none⟩ (.slice Fk fk1 fk2)).setCell ⟨gf,2,none⟩ (.slice Fc fc1 fc2)):=⟨_,rfl⟩;rw[← hW9]
        have hb:Below wcgy.heap.size wcgy W9:=by
         rw[hW9];exact (((HBV.out.setCell (p:=⟨gf,0,none⟩) hvg _).setCell (p:=⟨gf,1,none⟩) hvg _).setCell (p:=⟨gf,2,none⟩) hvg _)
        refine⟨(HN.out.keep (by rw[hW9,cells3];exact Nat.le_refl _) (fun b hb _=>by rw[hW9];exact cells3_at b hb)).rd,?_⟩
        refine (((Kept.nil_of hb).cons_of ?_).cons_of ?_).cons_of ?_ <;> (rw[hW9];go_simp)
       clear z0 z1 z2 m0 m1 m2;go_wp2_with fail;go_meet;exact⟨gf,⟨kf,⟨Fe,fe1,fe2⟩,⟨Fk,fk1,fk2⟩,⟨Fc,fc1,fc2⟩⟩,rfl,rfl,HMID.out,HP.out⟩
     ·go_simp
      clear hHeld;refine Th hK ?_ (fun hHeld=>?_)
      ·exact (HKc.out.alloc _).cj
      clear hK K;obtain⟨gf,hgf⟩:∃ g,g=v3.heap.size:=⟨_,rfl⟩;obtain⟨v4,hv4⟩:∃ W,W=v3.alloc (.cells #[.slice none 0 0,.slice none 0 0,.slice none 0 0] 29):=⟨_,rfl⟩
      have hb9:Below v3.heap.size v3 v4:=by rw[hv4];exact Dt.box_below _ _ _
      have hvg:wcgy.heap.size≤gf:=by rw[hgf];exact HBV.out.size
      have hwg:w.heap.size≤gf:=by rw[hgf];exact HKc.out.below.size
      have hngy:gy≠gf:=by have h:=World.block_lt_of_cell? v3 _ HKc.out.c0;dsimp only at h;omega
      have hng:g≠gf:=by have h:=World.block_lt_of_cell? v3 _ HKc.out.c3;dsimp only at h;omega
      have hnp:p≠gf:=by have h:=World.block_lt_of_cell? v3 _ HKc.out.c6;dsimp only at h;omega
      have hnq:q≠gf:=by have h:=World.block_lt_of_cell? v3 _ HKc.out.t8.c0;dsimp only at h;omega
      have hns:s≠gf:=by have h:=World.block_lt_of_cell? v3 _ HKc.out.t8.c2;dsimp only at h;omega
      have b0:v4.cell? ⟨gf,0,none⟩=some (.slice none 0 0):=by rw[hv4,hgf];go_simp
      have b1:v4.cell? ⟨gf,1,none⟩=some (.slice none 0 0):=by rw[hv4,hgf];go_simp
      have b2:v4.cell? ⟨gf,2,none⟩=some (.slice none 0 0):=by rw[hv4,hgf];go_simp
      have HKc:=Lib.hid (HKc.out.later hb9);have R:=Lib.hid (RdT.later R.out hb9);have RX:=Lib.hid (RX.out.later hb9);have RY:=Lib.hid (RY.out.later hb9);have HBV:=Lib.hid (HBV.out.trans (hb9.mono HBV.out.size));have HZ:=Lib.hid ((((Kept.nil_of HBV.out).cons_of b2).cons_of b1).cons_of b0);have HF:Hid (Free gf v4):=⟨by rw[hv4,hgf];simp,fun j=>by rw[hv4,hgf];go_simp⟩;have hlt9:gf<v4.heap.size:=HF.out.1;(try rw[← hv4]at hHeld);rw[← hv4];rw[← hgf];clear hgf hv4 hb9 b0 b1 b2;refine Tc 1 (fun K hK=>?_);go_simp;(go_at_call 26;refine (refknown_any t Ae Ak ne nk ce ck u m9 v4 HT.out (by have:=N.out;omega) R.out HU.out.1 HU.out.2.1 (by have:=HU.out.2.2;omega)).mono ?_);rintro e v5 ⟨B9,d9,rfl,hro,hb9⟩;have RK9:Hid (RdP v5 ⟨(t,u),⟨Ae,ne,ce⟩,⟨Ak,nk,ck⟩,⟨B9,m9,d9⟩⟩):=⟨RdT.later R.out hb9,HU.out.2.1,hro.rd⟩
      clear hro;have HKc:=Lib.hid (HKc.out.later hb9);have R:=Lib.hid (RdT.later R.out hb9);have RX:=Lib.hid (RX.out.later hb9);have RY:=Lib.hid (RY.out.later hb9);have HBV:=Lib.hid (HBV.out.trans (hb9.mono HBV.out.size));have HZ:=Lib.hid (HZ.out.later hb9);have HF:=Lib.hid (HF.out.later hb9);clear hb9;have HSUM:=HSUM B9 d9;clear hHeld;refine Th hK ?_ (fun hHeld=>?_)
      ·exact HKc.out.cj
      clear hK K;refine Tc 4 (fun K hK=>?_);go_simp;clear hHeld;refine Th hK ?_ (fun hHeld=>?_)
      ·exact (HKc.out.alloc _).cj
      clear hK K;obtain⟨gr,hgr⟩:∃ g,g=v5.heap.size:=⟨_,rfl⟩;obtain⟨v6,hv6⟩:∃ W,W=v5.alloc (.cells #[.slice Ae ne ce,.slice Ak nk ck,.slice B9 m9 d9,.slice Xe xe1 xe2,.slice Xk xk1 xk2,.slice Xc xc1 xc2,.slice Ye ye1 ye2,.slice Yk yk1 yk2,.slice Yc yc1 yc2] 29):=⟨_,rfl⟩
      have hb9:Below v5.heap.size v5 v6:=by rw[hv6];exact Dt.box_below _ _ _
      have hrow:=rd_rowP v5 [⟨(t,u),⟨Ae,ne,ce⟩,⟨Ak,nk,ck⟩,⟨B9,m9,d9⟩⟩,⟨kx,⟨Xe,xe1,xe2⟩,⟨Xk,xk1,xk2⟩,⟨Xc,xc1,xc2⟩⟩,⟨ky,⟨Ye,ye1,ye2⟩,⟨Yk,yk1,yk2⟩,⟨Yc,yc1,yc2⟩⟩] #[.slice Ae ne ce,.slice Ak nk ck,.slice B9 m9 d9,.slice Xe xe1 xe2,.slice Xk xk1 xk2,.slice Xc xc1 xc2,.slice Ye ye1 ye2,.slice Yk yk1 yk2,.slice Yc yc1 yc2] 3 rfl rfl;rw[← hv6,← hgr]at hrow;have HKc:=Lib.hid (HKc.out.later hb9);have R:=Lib.hid (RdT.later R.out hb9);have RX:=Lib.hid (RX.out.later hb9);have RY:=Lib.hid (RY.out.later hb9);have HBV:=Lib.hid (HBV.out.trans (hb9.mono HBV.out.size));have HZ:=Lib.hid (HZ.out.later hb9);have HF:=Lib.hid (HF.out.later hb9);have RK9:=Lib.hid (RK9.out.later hb9)
      have RW:Hid (RowP v6 (some ⟨gr,0,none⟩) 3 3 [⟨(t,u),⟨Ae,ne,ce⟩,⟨Ak,nk,ck⟩,⟨B9,m9,d9⟩⟩,⟨kx,⟨Xe,xe1,xe2⟩,⟨Xk,xk1,xk2⟩,⟨Xc,xc1,xc2⟩⟩,⟨ky,⟨Ye,ye1,ye2⟩,⟨Yk,yk1,yk2⟩,⟨Yc,yc1,yc2⟩⟩]):=⟨hrow.more (by rw[hv6,hgr];simp),rfl,fun p hp=>by
       simp at hp
       rcases hp with rfl | rfl | rfl
       ·exact RK9.out
       ·exact RX.out
       ·exact RY.out⟩
      (try rw[← hv6]at hHeld);rw[← hv6];rw[← hgr];clear hgr hv6 hb9 hrow;refine Tc 5 (fun K hK=>?_);go_simp;(go_at_call 32;refine (joinAllE_sum 3 [⟨(t,u),⟨Ae,ne,ce⟩,⟨Ak,nk,ck⟩,⟨B9,m9,d9⟩⟩,⟨kx,⟨Xe,xe1,xe2⟩,⟨Xk,xk1,xk2⟩,⟨Xc,xc1,xc2⟩⟩,⟨ky,⟨Ye,ye1,ye2⟩,⟨Yk,yk1,yk2⟩,⟨Yc,yc1,yc2⟩⟩] (some ⟨gr,0,none⟩) 3 v6 (by omega) RW.out HSUM.out).mono ?_);rintro e v7 ⟨kf,z9,hj,_,Fe,fe1,fe2,Fk,fk1,fk2,Fc,fc1,fc2,rfl,how,hb9⟩
      obtain⟨rfl,hall,hnn,hnc⟩:=hj (fun p hp=>by
       simp at hp
       rcases hp with rfl | rfl | rfl
       ·exact JT.out
       ·exact JX.out
       ·exact JY.out)
      have HP:Hid (AllJ [(t,u),kx,ky] kf∧nodes kf.1≤1000∧fc1≤1000):=⟨hall,Nat.le_trans hnn HSUM.out.1,by rw[← how.len];exact Nat.le_trans hnc HSUM.out.2⟩;have HN:Hid (NoC v7 (fun b=>b≠gf) ⟨kf,⟨Fe,fe1,fe2⟩,⟨Fk,fk1,fk2⟩,⟨Fc,fc1,fc2⟩⟩):=NoC.of_own how (fun b hb _=>by have h:=HF.out.1;omega);clear hj hall hnn hnc how;have HKc:=Lib.hid (HKc.out.later hb9);have R:=Lib.hid (RdT.later R.out hb9);have RX:=Lib.hid (RX.out.later hb9);have RY:=Lib.hid (RY.out.later hb9);have HBV:=Lib.hid (HBV.out.trans (hb9.mono HBV.out.size));have HZ:=Lib.hid (HZ.out.later hb9);have HF:=Lib.hid (HF.out.later hb9);have RK9:=Lib.hid (RK9.out.later hb9);have RW:=Lib.hid (RW.out.later hb9);clear hb9;obtain⟨z0,z1,z2,-⟩:=HZ.out.cj;have m0:=HF.out.2 0;have m1:=HF.out.2 1;have m2:=HF.out.2 2;clear hHeld;refine Th hK ?_ (fun hHeld=>?_)
      ·exact HKc.out.cj
      clear hK K;refine Tk 6 69 ?_;refine Tk 7 76 ?_;refine Tk 8 77 ?_;refine Tc 10 (fun K hK=>?_);go_simp;refine Th hK ?_ (fun hHeld2=>?_)
      ·(try dsimp only)
       have h9:=HKc.out.st3 (g:=gf) hwg (fun x hx=>by simp at hx;rcases hx with rfl | rfl | rfl | rfl | rfl | rfl | rfl | rfl | rfl | rfl | rfl | rfl <;> (dsimp only;omega)) (.slice Fe fe1 fe2) (.slice Fk fk1 fk2) (.slice Fc fc1 fc2)
       exact h9.cj
      clear hK K hHeld;have hHeld:=hHeld2;clear hHeld2;refine Tk 11 14 ?_;refine wpAnyH_done (by kernel_rfl) ?_ _;clear hHeld
      have HMID:Hid (MidJ wcgy gf ⟨kf,⟨Fe,fe1,fe2⟩,⟨Fk,fk1,fk2⟩,⟨Fc,fc1,fc2⟩⟩ (((v7.setCell ⟨gf,0,none⟩ (.slice Fe fe1 fe2)).setCell ⟨gf,1,none⟩ (.slice Fk fk1 fk2)).setCell ⟨gf,2,none⟩ (.slice Fc fc1 fc2))):=by
       obtain⟨W9,hW9⟩:∃ W,W=(((v7.setCell ⟨gf,0,none⟩ (.slice Fe fe1 fe2)).setCell ⟨gf,1,none⟩ (.slice Fk fk1 fk2)).setCell ⟨gf,2,none⟩ (.slice Fc fc1 fc2)):=⟨_,rfl⟩;rw[← hW9]
       have hb:Below wcgy.heap.size wcgy W9:=by
        rw[hW9];exact (((HBV.out.setCell (p:=⟨gf,0,none⟩) hvg _).setCell (p:=⟨gf,1,none⟩) hvg _).setCell (p:=⟨gf,2,none⟩) hvg _)
       refine⟨(HN.out.keep (by rw[hW9,cells3];exact Nat.le_refl _) (fun b hb _=>by rw[hW9];exact cells3_at b hb)).rd,?_⟩
       refine (((Kept.nil_of hb).cons_of ?_).cons_of ?_).cons_of ?_ <;> (rw[hW9];go_simp)
      clear z0 z1 z2 m0 m1 m2;go_wp2_with fail;go_meet;exact⟨gf,⟨kf,⟨Fe,fe1,fe2⟩,⟨Fk,fk1,fk2⟩,⟨Fc,fc1,fc2⟩⟩,rfl,rfl,HMID.out,HP.out⟩
    case rest=>
     obtain⟨wcgf,hwcgf⟩:∃ W,W=wc:=⟨_,rfl⟩;subst hwcgf;obtain⟨gf,⟨kf,⟨Fe,fe1,fe2⟩,⟨Fk,fk1,fk2⟩,⟨Fc,fc1,fc2⟩⟩,rfl,rfl,hmid,hprop⟩:=hcut;obtain⟨hrp,hkp⟩:=hmid.out;have hb9:=hkp.below;have HKc:=Lib.hid (HKc.out.later hb9);have R:=Lib.hid (RdT.later R.out hb9);have RX:=Lib.hid (RX.out.later hb9);have RY:=Lib.hid (RY.out.later hb9);clear hb9;have RF:=Lib.hid hrp;have PF:Hid (AllJ [(t,u),kx,ky] kf∧nodes kf.1≤1000∧fc1≤1000):=hprop.out;have HKc:=Lib.hid ((((HKc.out.cons_of hkp.c2).cons_of hkp.c1).cons_of hkp.c0));clear hmid hprop hrp hkp;clear HSUM
     have HSUM:∀ (B9:Option Addr) (d9:Nat),Hid (sumN [⟨ky,⟨Ye,ye1,ye2⟩,⟨Yk,yk1,yk2⟩,⟨Yc,yc1,yc2⟩⟩,⟨(t,u),⟨Ae,ne,ce⟩,⟨Ak,nk,ck⟩,⟨B9,m9,d9⟩⟩,⟨kx,⟨Xe,xe1,xe2⟩,⟨Xk,xk1,xk2⟩,⟨Xc,xc1,xc2⟩⟩]≤1000∧sumC [⟨ky,⟨Ye,ye1,ye2⟩,⟨Yk,yk1,yk2⟩,⟨Yc,yc1,yc2⟩⟩,⟨(t,u),⟨Ae,ne,ce⟩,⟨Ak,nk,ck⟩,⟨B9,m9,d9⟩⟩,⟨kx,⟨Xe,xe1,xe2⟩,⟨Xk,xk1,xk2⟩,⟨Xc,xc1,xc2⟩⟩]≤1000):=fun B9 d9=>by
      have h1:=N.out;have h2:=HU.out.2.2;have hbx:=BX.out;have hnx:nodes kx.1≤2:=(by rw[KX.out,nodes_none];omega);have hby:=BY.out;have hny:nodes ky.1≤2:=NY.out;unfold Hid;simp only[sumN,sumC,List.map_cons,List.map_nil,List.sum_cons,List.sum_nil];omega
     obtain⟨c0,c1,c2,c3,c4,c5,c6,c7,c8,c9,c10,c11,c12,c13,c14,-⟩:=HKc.out.cj;go_wp2_with fail;clear c0 c1 c2 c3 c4 c5 c6 c7 c8 c9 c10 c11 c12 c13 c14
     go_cut [15,16] (fun s9 e9 wx=>∃ (g9:Nat) (p9:CP),s9 = .pointer (some ⟨g9,0,none⟩)∧e9 = .int .i64 0∧Hid (MidJ wcgf g9 p9 wx)∧Hid (AllJ [ky,(t,u),kx] p9.k∧nodes p9.k.1≤1000∧p9.c.n≤1000))
     case first=>
      refine wp_region_held_drew (S:=Conj _) (by kernel_rfl) HKc.out.drew.cj (fun hHeld=>?_);obtain⟨v3,hv3⟩:∃ v,v=wcgf.drew:=⟨_,rfl⟩
      have hb9:Below wcgf.heap.size wcgf v3:=by rw[hv3];exact (Below.refl _ _).drew
      have HKc:=Lib.hid (HKc.out.later hb9);have R:=Lib.hid (RdT.later R.out hb9);have RX:=Lib.hid (RX.out.later hb9);have RY:=Lib.hid (RY.out.later hb9);have RF:=Lib.hid (RF.out.later hb9);clear hb9;have HBV9:Hid (wcgf.drew=v3):=hv3.symm;rw[← hv3]at hHeld ⊢;clear hv3
      have HBV:Hid (Below wcgf.heap.size wcgf v3):=by unfold Hid;rw[← HBV9.out];exact (Below.refl _ _).drew
      clear HBV9;refine Tk 0 79 ?_;refine Tk 1 80 ?_;refine Tk 3 82 ?_;refine wpAnyH_ready (rs:=[2,9]) (by kernel_rfl) (by simp) ?_;refine AllReadyH.cons (o:=⟨some 81,_,_,_,_,_⟩) rfl (fun K hK=>?_) (AllReadyH.cons (o:=⟨some 15,_,_,_,_,_⟩) rfl (fun K hK=>?_) (AllReadyH.nil))
      ·go_simp
       (go_at_call 26;refine (refknown_any t Ae Ak ne nk ce ck u m9 v3 HT.out (by have:=N.out;omega) R.out HU.out.1 HU.out.2.1 (by have:=HU.out.2.2;omega)).mono ?_);rintro e v4 ⟨B9,d9,rfl,hro,hb9⟩;have RK9:Hid (RdP v4 ⟨(t,u),⟨Ae,ne,ce⟩,⟨Ak,nk,ck⟩,⟨B9,m9,d9⟩⟩):=⟨RdT.later R.out hb9,HU.out.2.1,hro.rd⟩;clear hro;have HKc:=Lib.hid (HKc.out.later hb9);have R:=Lib.hid (RdT.later R.out hb9);have RX:=Lib.hid (RX.out.later hb9);have RY:=Lib.hid (RY.out.later hb9);have RF:=Lib.hid (RF.out.later hb9);have HBV:=Lib.hid (HBV.out.trans (hb9.mono HBV.out.size));clear hb9;have HSUM:=HSUM B9 d9;clear hHeld;refine Th hK ?_ (fun hHeld=>?_)
       ·exact HKc.out.cj
       clear hK K;refine wpAnyH_ready (rs:=[4,9]) (by kernel_rfl) (by simp) ?_;refine AllReadyH.cons (o:=⟨some 83,_,_,_,_,_⟩) rfl (fun K hK=>?_) (AllReadyH.cons (o:=⟨some 15,_,_,_,_,_⟩) rfl (fun K hK=>?_) (AllReadyH.nil))
       ·go_simp
        clear hHeld;refine Th hK ?_ (fun hHeld=>?_)
        ·exact (HKc.out.alloc _).cj
        clear hK K;obtain⟨gr,hgr⟩:∃ g,g=v4.heap.size:=⟨_,rfl⟩;obtain⟨v5,hv5⟩:∃ W,W=v4.alloc (.cells #[.slice Ye ye1 ye2,.slice Yk yk1 yk2,.slice Yc yc1 yc2,.slice Ae ne ce,.slice Ak nk ck,.slice B9 m9 d9,.slice Xe xe1 xe2,.slice Xk xk1 xk2,.slice Xc xc1 xc2] 29):=⟨_,rfl⟩
        have hb9:Below v4.heap.size v4 v5:=by rw[hv5];exact Dt.box_below _ _ _
        have hrow:=rd_rowP v4 [⟨ky,⟨Ye,ye1,ye2⟩,⟨Yk,yk1,yk2⟩,⟨Yc,yc1,yc2⟩⟩,⟨(t,u),⟨Ae,ne,ce⟩,⟨Ak,nk,ck⟩,⟨B9,m9,d9⟩⟩,⟨kx,⟨Xe,xe1,xe2⟩,⟨Xk,xk1,xk2⟩,⟨Xc,xc1,xc2⟩⟩] #[.slice Ye ye1 ye2,.slice Yk yk1 yk2,.slice Yc yc1 yc2,.slice Ae ne ce,.slice Ak nk ck,.slice B9 m9 d9,.slice Xe xe1 xe2,.slice Xk xk1 xk2,.slice Xc xc1 xc2] 3 rfl rfl;rw[← hv5,← hgr]at hrow;have HKc:=Lib.hid (HKc.out.later hb9);have R:=Lib.hid (RdT.later R.out hb9);have RX:=Lib.hid (RX.out.later hb9);have RY:=Lib.hid (RY.out.later hb9);have RF:=Lib.hid (RF.out.later hb9);have HBV:=Lib.hid (HBV.out.trans (hb9.mono HBV.out.size));have RK9:=Lib.hid (RK9.out.later hb9)
        have RW:Hid (RowP v5 (some ⟨gr,0,none⟩) 3 3 [⟨ky,⟨Ye,ye1,ye2⟩,⟨Yk,yk1,yk2⟩,⟨Yc,yc1,yc2⟩⟩,⟨(t,u),⟨Ae,ne,ce⟩,⟨Ak,nk,ck⟩,⟨B9,m9,d9⟩⟩,⟨kx,⟨Xe,xe1,xe2⟩,⟨Xk,xk1,xk2⟩,⟨Xc,xc1,xc2⟩⟩]):=⟨hrow.more (by rw[hv5,hgr];simp),rfl,fun p hp=>by
         simp at hp
         rcases hp with rfl | rfl | rfl
         ·exact RY.out
         ·exact RK9.out
         ·exact RX.out⟩
        (try rw[← hv5]at hHeld);rw[← hv5];rw[← hgr];clear hgr hv5 hb9 hrow;refine wpAnyH_ready (rs:=[5,9]) (by kernel_rfl) (by simp) ?_;refine AllReadyH.cons (o:=⟨some 84,_,_,_,_,_⟩) rfl (fun K hK=>?_) (AllReadyH.cons (o:=⟨some 15,_,_,_,_,_⟩) rfl (fun K hK=>?_) (AllReadyH.nil))
        ·go_simp
         (go_at_call 32;refine (joinAllE_sum 3 [⟨ky,⟨Ye,ye1,ye2⟩,⟨Yk,yk1,yk2⟩,⟨Yc,yc1,yc2⟩⟩,⟨(t,u),⟨Ae,ne,ce⟩,⟨Ak,nk,ck⟩,⟨B9,m9,d9⟩⟩,⟨kx,⟨Xe,xe1,xe2⟩,⟨Xk,xk1,xk2⟩,⟨Xc,xc1,xc2⟩⟩] (some ⟨gr,0,none⟩) 3 v5 (by omega) RW.out HSUM.out).mono ?_);rintro e v6 ⟨kh,z9,hj,_,He,he1,he2,Hk,hk1,hk2,Hc,hc1,hc2,rfl,how,hb9⟩
         obtain⟨rfl,hall,hnn,hnc⟩:=hj (fun p hp=>by
          simp at hp
          rcases hp with rfl | rfl | rfl
          ·exact JY.out
          ·exact JT.out
          ·exact JX.out)
         have HP:Hid (AllJ [ky,(t,u),kx] kh∧nodes kh.1≤1000∧hc1≤1000):=⟨hall,Nat.le_trans hnn HSUM.out.1,by rw[← how.len];exact Nat.le_trans hnc HSUM.out.2⟩;have HN:Hid (NoC v6 (fun _=>True) ⟨kh,⟨He,he1,he2⟩,⟨Hk,hk1,hk2⟩,⟨Hc,hc1,hc2⟩⟩):=NoC.of_own how (fun b hb _=>trivial);clear hj hall hnn hnc how;have HKc:=Lib.hid (HKc.out.later hb9);have R:=Lib.hid (RdT.later R.out hb9);have RX:=Lib.hid (RX.out.later hb9);have RY:=Lib.hid (RY.out.later hb9);have RF:=Lib.hid (RF.out.later hb9);have HBV:=Lib.hid (HBV.out.trans (hb9.mono HBV.out.size));have RK9:=Lib.hid (RK9.out.later hb9);have RW:=Lib.hid (RW.out.later hb9);clear hb9;clear hHeld;refine Th hK ?_ (fun hHeld=>?_)
         ·exact HKc.out.cj
         clear hK K;refine Tk 6 78 ?_;refine Tk 7 85 ?_;refine Tk 8 86 ?_;refine Tc 9 (fun K hK=>?_);go_simp;clear hHeld;refine Th hK ?_ (fun hHeld=>?_)
         ·exact (HKc.out.alloc _).cj
         clear hK K;obtain⟨gh,hgh⟩:∃ g,g=v6.heap.size:=⟨_,rfl⟩;obtain⟨v7,hv7⟩:∃ W,W=v6.alloc (.cells #[.slice none 0 0,.slice none 0 0,.slice none 0 0] 29):=⟨_,rfl⟩
         have hb9:Below v6.heap.size v6 v7:=by rw[hv7];exact Dt.box_below _ _ _
         have hvg:wcgf.heap.size≤gh:=by rw[hgh];exact HBV.out.size
         have hwg:w.heap.size≤gh:=by rw[hgh];exact HKc.out.below.size
         have hngf:gf≠gh:=by have h:=World.block_lt_of_cell? v6 _ HKc.out.c0;dsimp only at h;omega
         have hngy:gy≠gh:=by have h:=World.block_lt_of_cell? v6 _ HKc.out.c3;dsimp only at h;omega
         have hng:g≠gh:=by have h:=World.block_lt_of_cell? v6 _ HKc.out.c6;dsimp only at h;omega
         have hnp:p≠gh:=by have h:=World.block_lt_of_cell? v6 _ HKc.out.t8.c1;dsimp only at h;omega
         have hnq:q≠gh:=by have h:=World.block_lt_of_cell? v6 _ HKc.out.t8.c3;dsimp only at h;omega
         have hns:s≠gh:=by have h:=World.block_lt_of_cell? v6 _ HKc.out.t8.c5;dsimp only at h;omega
         have b0:v7.cell? ⟨gh,0,none⟩=some (.slice none 0 0):=by rw[hv7,hgh];go_simp
         have b1:v7.cell? ⟨gh,1,none⟩=some (.slice none 0 0):=by rw[hv7,hgh];go_simp
         have b2:v7.cell? ⟨gh,2,none⟩=some (.slice none 0 0):=by rw[hv7,hgh];go_simp
         have HN:=Lib.hid (HN.out.mono (ok':=fun b=>b≠gh) (fun b _ hlt=>by omega));have HKc:=Lib.hid (HKc.out.later hb9);have R:=Lib.hid (RdT.later R.out hb9);have RX:=Lib.hid (RX.out.later hb9);have RY:=Lib.hid (RY.out.later hb9);have RF:=Lib.hid (RF.out.later hb9);have HBV:=Lib.hid (HBV.out.trans (hb9.mono HBV.out.size));have RK9:=Lib.hid (RK9.out.later hb9);have RW:=Lib.hid (RW.out.later hb9);have HN:=Lib.hid (HN.out.later hb9);have HZ:=Lib.hid ((((Kept.nil_of HBV.out).cons_of b2).cons_of b1).cons_of b0);have HF:Hid (Free gh v7):=⟨by rw[hv7,hgh];simp,fun j=>by rw[hv7,hgh];go_simp⟩;have hlt9:gh<v7.heap.size:=HF.out.1;(try rw[← hv7]at hHeld);rw[← hv7];rw[← hgh];clear hgh hv7 hb9 b0 b1 b2;obtain⟨z0,z1,z2,-⟩:=HZ.out.cj;have m0:=HF.out.2 0;have m1:=HF.out.2 1;have m2:=HF.out.2 2;refine Tc 10 (fun K hK=>?_)
         go_simp;refine Th hK ?_ (fun hHeld2=>?_)
         ·(try dsimp only)
          have h9:=HKc.out.st3 (g:=gh) hwg (fun x hx=>by simp at hx;rcases hx with rfl | rfl | rfl | rfl | rfl | rfl | rfl | rfl | rfl | rfl | rfl | rfl | rfl | rfl | rfl <;> (dsimp only;omega)) (.slice He he1 he2) (.slice Hk hk1 hk2) (.slice Hc hc1 hc2)
          exact h9.cj
         clear hK K hHeld;have hHeld:=hHeld2;clear hHeld2;refine Tk 11 16 ?_;refine wpAnyH_done (by kernel_rfl) ?_ _;clear hHeld
         have HMID:Hid (MidJ wcgf gh ⟨kh,⟨He,he1,he2⟩,⟨Hk,hk1,hk2⟩,⟨Hc,hc1,hc2⟩⟩ (((v7.setCell ⟨gh,0,none⟩ (.slice He he1 he2)).setCell ⟨gh,1,none⟩ (.slice Hk hk1 hk2)).setCell ⟨gh,2,none⟩ (.slice Hc hc1 hc2))):=by
          obtain⟨W9,hW9⟩:∃ W,W=(((v7.setCell ⟨gh,0,none⟩ (.slice He he1 he2)).setCell ⟨gh,1,none⟩ (.slice Hk hk1 hk2)).setCell ⟨gh,2,none⟩ (.slice Hc hc1 hc2)):=⟨_,rfl⟩;rw[← hW9]
          have hb:Below wcgf.heap.size wcgf W9:=by
           rw[hW9];exact (((HBV.out.setCell (p:=⟨gh,0,none⟩) hvg _).setCell (p:=⟨gh,1,none⟩) hvg _).setCell (p:=⟨gh,2,none⟩) hvg _)
          refine⟨(HN.out.keep (by rw[hW9,cells3];exact Nat.le_refl _) (fun b hb _=>by rw[hW9];exact cells3_at b hb)).rd,?_⟩
          refine (((Kept.nil_of hb).cons_of ?_).cons_of ?_).cons_of ?_ <;> (rw[hW9];go_simp)
         clear z0 z1 z2 m0 m1 m2;go_wp2_with fail;go_meet;exact⟨gh,⟨kh,⟨He,he1,he2⟩,⟨Hk,hk1,hk2⟩,⟨Hc,hc1,hc2⟩⟩,rfl,rfl,HMID.out,HP.out⟩
        ·go_simp
         clear hHeld;refine Th hK ?_ (fun hHeld=>?_)
         ·exact (HKc.out.alloc _).cj
         clear hK K;obtain⟨gh,hgh⟩:∃ g,g=v5.heap.size:=⟨_,rfl⟩;obtain⟨v6,hv6⟩:∃ W,W=v5.alloc (.cells #[.slice none 0 0,.slice none 0 0,.slice none 0 0] 29):=⟨_,rfl⟩
         have hb9:Below v5.heap.size v5 v6:=by rw[hv6];exact Dt.box_below _ _ _
         have hvg:wcgf.heap.size≤gh:=by rw[hgh];exact HBV.out.size
         have hwg:w.heap.size≤gh:=by rw[hgh];exact HKc.out.below.size
         have hngf:gf≠gh:=by have h:=World.block_lt_of_cell? v5 _ HKc.out.c0;dsimp only at h;omega
         have hngy:gy≠gh:=by have h:=World.block_lt_of_cell? v5 _ HKc.out.c3;dsimp only at h;omega
         have hng:g≠gh:=by have h:=World.block_lt_of_cell? v5 _ HKc.out.c6;dsimp only at h;omega
         have hnp:p≠gh:=by have h:=World.block_lt_of_cell? v5 _ HKc.out.t8.c1;dsimp only at h;omega
         have hnq:q≠gh:=by have h:=World.block_lt_of_cell? v5 _ HKc.out.t8.c3;dsimp only at h;omega
         have hns:s≠gh:=by have h:=World.block_lt_of_cell? v5 _ HKc.out.t8.c5;dsimp only at h;omega
         have b0:v6.cell? ⟨gh,0,none⟩=some (.slice none 0 0):=by rw[hv6,hgh];go_simp
         have b1:v6.cell? ⟨gh,1,none⟩=some (.slice none 0 0):=by rw[hv6,hgh];go_simp
         have b2:v6.cell? ⟨gh,2,none⟩=some (.slice none 0 0):=by rw[hv6,hgh];go_simp
         have HKc:=Lib.hid (HKc.out.later hb9);have R:=Lib.hid (RdT.later R.out hb9);have RX:=Lib.hid (RX.out.later hb9);have RY:=Lib.hid (RY.out.later hb9);have RF:=Lib.hid (RF.out.later hb9);have HBV:=Lib.hid (HBV.out.trans (hb9.mono HBV.out.size));have RK9:=Lib.hid (RK9.out.later hb9);have RW:=Lib.hid (RW.out.later hb9);have HZ:=Lib.hid ((((Kept.nil_of HBV.out).cons_of b2).cons_of b1).cons_of b0);have HF:Hid (Free gh v6):=⟨by rw[hv6,hgh];simp,fun j=>by rw[hv6,hgh];go_simp⟩;have hlt9:gh<v6.heap.size:=HF.out.1;(try rw[← hv6]at hHeld);rw[← hv6];rw[← hgh];clear hgh hv6 hb9 b0 b1 b2;refine Tc 5 (fun K hK=>?_);go_simp;(go_at_call 32;refine (joinAllE_sum 3 [⟨ky,⟨Ye,ye1,ye2⟩,⟨Yk,yk1,yk2⟩,⟨Yc,yc1,yc2⟩⟩,⟨(t,u),⟨Ae,ne,ce⟩,⟨Ak,nk,ck⟩,⟨B9,m9,d9⟩⟩,⟨kx,⟨Xe,xe1,xe2⟩,⟨Xk,xk1,xk2⟩,⟨Xc,xc1,xc2⟩⟩] (some ⟨gr,0,none⟩) 3 v6 (by omega) RW.out HSUM.out).mono ?_)
         rintro e v7 ⟨kh,z9,hj,_,He,he1,he2,Hk,hk1,hk2,Hc,hc1,hc2,rfl,how,hb9⟩
         obtain⟨rfl,hall,hnn,hnc⟩:=hj (fun p hp=>by
          simp at hp
          rcases hp with rfl | rfl | rfl
          ·exact JY.out
          ·exact JT.out
          ·exact JX.out)
         have HP:Hid (AllJ [ky,(t,u),kx] kh∧nodes kh.1≤1000∧hc1≤1000):=⟨hall,Nat.le_trans hnn HSUM.out.1,by rw[← how.len];exact Nat.le_trans hnc HSUM.out.2⟩;have HN:Hid (NoC v7 (fun b=>b≠gh) ⟨kh,⟨He,he1,he2⟩,⟨Hk,hk1,hk2⟩,⟨Hc,hc1,hc2⟩⟩):=NoC.of_own how (fun b hb _=>by have h:=HF.out.1;omega);clear hj hall hnn hnc how;have HKc:=Lib.hid (HKc.out.later hb9);have R:=Lib.hid (RdT.later R.out hb9);have RX:=Lib.hid (RX.out.later hb9);have RY:=Lib.hid (RY.out.later hb9);have RF:=Lib.hid (RF.out.later hb9);have HBV:=Lib.hid (HBV.out.trans (hb9.mono HBV.out.size));have RK9:=Lib.hid (RK9.out.later hb9);have RW:=Lib.hid (RW.out.later hb9);have HZ:=Lib.hid (HZ.out.later hb9);have HF:=Lib.hid (HF.out.later hb9);clear hb9;obtain⟨z0,z1,z2,-⟩:=HZ.out.cj;have m0:=HF.out.2 0;have m1:=HF.out.2 1;have m2:=HF.out.2 2;clear hHeld
         refine Th hK ?_ (fun hHeld=>?_)
         ·exact HKc.out.cj
         clear hK K;refine Tk 6 78 ?_;refine Tk 7 85 ?_;refine Tk 8 86 ?_;refine Tc 10 (fun K hK=>?_);go_simp;refine Th hK ?_ (fun hHeld2=>?_)
         ·(try dsimp only)
          have h9:=HKc.out.st3 (g:=gh) hwg (fun x hx=>by simp at hx;rcases hx with rfl | rfl | rfl | rfl | rfl | rfl | rfl | rfl | rfl | rfl | rfl | rfl | rfl | rfl | rfl <;> (dsimp only;omega)) (.slice He he1 he2) (.slice Hk hk1 hk2) (.slice Hc hc1 hc2)
          exact h9.cj
         clear hK K hHeld;have hHeld:=hHeld2;clear hHeld2;refine Tk 11 16 ?_;refine wpAnyH_done (by kernel_rfl) ?_ _;clear hHeld
         have HMID:Hid (MidJ wcgf gh ⟨kh,⟨He,he1,he2⟩,⟨Hk,hk1,hk2⟩,⟨Hc,hc1,hc2⟩⟩ (((v7.setCell ⟨gh,0,none⟩ (.slice He he1 he2)).setCell ⟨gh,1,none⟩ (.slice Hk hk1 hk2)).setCell ⟨gh,2,none⟩ (.slice Hc hc1 hc2))):=by
          obtain⟨W9,hW9⟩:∃ W,W=(((v7.setCell ⟨gh,0,none⟩ (.slice He he1 he2)).setCell ⟨gh,1,none⟩ (.slice Hk hk1 hk2)).setCell ⟨gh,2,none⟩ (.slice Hc hc1 hc2)):=⟨_,rfl⟩;rw[← hW9]
          have hb:Below wcgf.heap.size wcgf W9:=by
           rw[hW9];exact (((HBV.out.setCell (p:=⟨gh,0,none⟩) hvg _).setCell (p:=⟨gh,1,none⟩) hvg _).setCell (p:=⟨gh,2,none⟩) hvg _)
          refine⟨(HN.out.keep (by rw[hW9,cells3];exact Nat.le_refl _) (fun b hb _=>by rw[hW9];exact cells3_at b hb)).rd,?_⟩
          refine (((Kept.nil_of hb).cons_of ?_).cons_of ?_).cons_of ?_ <;> (rw[hW9];go_simp)
         clear z0 z1 z2 m0 m1 m2;go_wp2_with fail;go_meet;exact⟨gh,⟨kh,⟨He,he1,he2⟩,⟨Hk,hk1,hk2⟩,⟨Hc,hc1,hc2⟩⟩,rfl,rfl,HMID.out,HP.out⟩
       ·go_simp
        clear hHeld;refine Th hK ?_ (fun hHeld=>?_)
        ·exact (HKc.out.alloc _).cj
        clear hK K;obtain⟨gh,hgh⟩:∃ g,g=v4.heap.size:=⟨_,rfl⟩;obtain⟨v5,hv5⟩:∃ W,W=v4.alloc (.cells #[.slice none 0 0,.slice none 0 0,.slice none 0 0] 29):=⟨_,rfl⟩
        have hb9:Below v4.heap.size v4 v5:=by rw[hv5];exact Dt.box_below _ _ _
        have hvg:wcgf.heap.size≤gh:=by rw[hgh];exact HBV.out.size
        have hwg:w.heap.size≤gh:=by rw[hgh];exact HKc.out.below.size
        have hngf:gf≠gh:=by have h:=World.block_lt_of_cell? v4 _ HKc.out.c0;dsimp only at h;omega
        have hngy:gy≠gh:=by have h:=World.block_lt_of_cell? v4 _ HKc.out.c3;dsimp only at h;omega
        have hng:g≠gh:=by have h:=World.block_lt_of_cell? v4 _ HKc.out.c6;dsimp only at h;omega
        have hnp:p≠gh:=by have h:=World.block_lt_of_cell? v4 _ HKc.out.t8.c1;dsimp only at h;omega
        have hnq:q≠gh:=by have h:=World.block_lt_of_cell? v4 _ HKc.out.t8.c3;dsimp only at h;omega
        have hns:s≠gh:=by have h:=World.block_lt_of_cell? v4 _ HKc.out.t8.c5;dsimp only at h;omega
        have b0:v5.cell? ⟨gh,0,none⟩=some (.slice none 0 0):=by rw[hv5,hgh];go_simp
        have b1:v5.cell? ⟨gh,1,none⟩=some (.slice none 0 0):=by rw[hv5,hgh];go_simp
        have b2:v5.cell? ⟨gh,2,none⟩=some (.slice none 0 0):=by rw[hv5,hgh];go_simp
        have HKc:=Lib.hid (HKc.out.later hb9);have R:=Lib.hid (RdT.later R.out hb9);have RX:=Lib.hid (RX.out.later hb9);have RY:=Lib.hid (RY.out.later hb9);have RF:=Lib.hid (RF.out.later hb9);have HBV:=Lib.hid (HBV.out.trans (hb9.mono HBV.out.size));have RK9:=Lib.hid (RK9.out.later hb9);have HZ:=Lib.hid ((((Kept.nil_of HBV.out).cons_of b2).cons_of b1).cons_of b0);have HF:Hid (Free gh v5):=⟨by rw[hv5,hgh];simp,fun j=>by rw[hv5,hgh];go_simp⟩;have hlt9:gh<v5.heap.size:=HF.out.1;(try rw[← hv5]at hHeld);rw[← hv5];rw[← hgh];clear hgh hv5 hb9 b0 b1 b2;refine Tc 4 (fun K hK=>?_);go_simp;clear hHeld;refine Th hK ?_ (fun hHeld=>?_)
        ·exact (HKc.out.alloc _).cj
        clear hK K;obtain⟨gr,hgr⟩:∃ g,g=v5.heap.size:=⟨_,rfl⟩;obtain⟨v6,hv6⟩:∃ W,W=v5.alloc (.cells #[.slice Ye ye1 ye2,.slice Yk yk1 yk2,.slice Yc yc1 yc2,.slice Ae ne ce,.slice Ak nk ck,.slice B9 m9 d9,.slice Xe xe1 xe2,.slice Xk xk1 xk2,.slice Xc xc1 xc2] 29):=⟨_,rfl⟩
        have hb9:Below v5.heap.size v5 v6:=by rw[hv6];exact Dt.box_below _ _ _
        have hrow:=rd_rowP v5 [⟨ky,⟨Ye,ye1,ye2⟩,⟨Yk,yk1,yk2⟩,⟨Yc,yc1,yc2⟩⟩,⟨(t,u),⟨Ae,ne,ce⟩,⟨Ak,nk,ck⟩,⟨B9,m9,d9⟩⟩,⟨kx,⟨Xe,xe1,xe2⟩,⟨Xk,xk1,xk2⟩,⟨Xc,xc1,xc2⟩⟩] #[.slice Ye ye1 ye2,.slice Yk yk1 yk2,.slice Yc yc1 yc2,.slice Ae ne ce,.slice Ak nk ck,.slice B9 m9 d9,.slice Xe xe1 xe2,.slice Xk xk1 xk2,.slice Xc xc1 xc2] 3 rfl rfl;rw[← hv6,← hgr]at hrow;have HKc:=Lib.hid (HKc.out.later hb9);have R:=Lib.hid (RdT.later R.out hb9);have RX:=Lib.hid (RX.out.later hb9);have RY:=Lib.hid (RY.out.later hb9);have RF:=Lib.hid (RF.out.later hb9);have HBV:=Lib.hid (HBV.out.trans (hb9.mono HBV.out.size));have RK9:=Lib.hid (RK9.out.later hb9);have HZ:=Lib.hid (HZ.out.later hb9);have HF:=Lib.hid (HF.out.later hb9)
        have RW:Hid (RowP v6 (some ⟨gr,0,none⟩) 3 3 [⟨ky,⟨Ye,ye1,ye2⟩,⟨Yk,yk1,yk2⟩,⟨Yc,yc1,yc2⟩⟩,⟨(t,u),⟨Ae,ne,ce⟩,⟨Ak,nk,ck⟩,⟨B9,m9,d9⟩⟩,⟨kx,⟨Xe,xe1,xe2⟩,⟨Xk,xk1,xk2⟩,⟨Xc,xc1,xc2⟩⟩]):=⟨hrow.more (by rw[hv6,hgr];simp),rfl,fun p hp=>by
         simp at hp
         rcases hp with rfl | rfl | rfl
         ·exact RY.out
         ·exact RK9.out
         ·exact RX.out⟩
        (try rw[← hv6]at hHeld);rw[← hv6];rw[← hgr];clear hgr hv6 hb9 hrow;refine Tc 5 (fun K hK=>?_);go_simp;(go_at_call 32;refine (joinAllE_sum 3 [⟨ky,⟨Ye,ye1,ye2⟩,⟨Yk,yk1,yk2⟩,⟨Yc,yc1,yc2⟩⟩,⟨(t,u),⟨Ae,ne,ce⟩,⟨Ak,nk,ck⟩,⟨B9,m9,d9⟩⟩,⟨kx,⟨Xe,xe1,xe2⟩,⟨Xk,xk1,xk2⟩,⟨Xc,xc1,xc2⟩⟩] (some ⟨gr,0,none⟩) 3 v6 (by omega) RW.out HSUM.out).mono ?_);rintro e v7 ⟨kh,z9,hj,_,He,he1,he2,Hk,hk1,hk2,Hc,hc1,hc2,rfl,how,hb9⟩
        obtain⟨rfl,hall,hnn,hnc⟩:=hj (fun p hp=>by
         simp at hp
         rcases hp with rfl | rfl | rfl
         ·exact JY.out
         ·exact JT.out
         ·exact JX.out)
        have HP:Hid (AllJ [ky,(t,u),kx] kh∧nodes kh.1≤1000∧hc1≤1000):=⟨hall,Nat.le_trans hnn HSUM.out.1,by rw[← how.len];exact Nat.le_trans hnc HSUM.out.2⟩;have HN:Hid (NoC v7 (fun b=>b≠gh) ⟨kh,⟨He,he1,he2⟩,⟨Hk,hk1,hk2⟩,⟨Hc,hc1,hc2⟩⟩):=NoC.of_own how (fun b hb _=>by have h:=HF.out.1;omega);clear hj hall hnn hnc how;have HKc:=Lib.hid (HKc.out.later hb9);have R:=Lib.hid (RdT.later R.out hb9);have RX:=Lib.hid (RX.out.later hb9);have RY:=Lib.hid (RY.out.later hb9);have RF:=Lib.hid (RF.out.later hb9);have HBV:=Lib.hid (HBV.out.trans (hb9.mono HBV.out.size));have RK9:=Lib.hid (RK9.out.later hb9);have HZ:=Lib.hid (HZ.out.later hb9);have HF:=Lib.hid (HF.out.later hb9);have RW:=Lib.hid (RW.out.later hb9);clear hb9;obtain⟨z0,z1,z2,-⟩:=HZ.out.cj;have m0:=HF.out.2 0;have m1:=HF.out.2 1;have m2:=HF.out.2 2;clear hHeld
        refine Th hK ?_ (fun hHeld=>?_)
        ·exact HKc.out.cj
        clear hK K;refine Tk 6 78 ?_;refine Tk 7 85 ?_;refine Tk 8 86 ?_;refine Tc 10 (fun K hK=>?_);go_simp;refine Th hK ?_ (fun hHeld2=>?_)
        ·(try dsimp only)
         have h9:=HKc.out.st3 (g:=gh) hwg (fun x hx=>by simp at hx;rcases hx with rfl | rfl | rfl | rfl | rfl | rfl | rfl | rfl | rfl | rfl | rfl | rfl | rfl | rfl | rfl <;> (dsimp only;omega)) (.slice He he1 he2) (.slice Hk hk1 hk2) (.slice Hc hc1 hc2)
         exact h9.cj
        clear hK K hHeld;have hHeld:=hHeld2;clear hHeld2;refine Tk 11 16 ?_;refine wpAnyH_done (by kernel_rfl) ?_ _;clear hHeld
        have HMID:Hid (MidJ wcgf gh ⟨kh,⟨He,he1,he2⟩,⟨Hk,hk1,hk2⟩,⟨Hc,hc1,hc2⟩⟩ (((v7.setCell ⟨gh,0,none⟩ (.slice He he1 he2)).setCell ⟨gh,1,none⟩ (.slice Hk hk1 hk2)).setCell ⟨gh,2,none⟩ (.slice Hc hc1 hc2))):=by
         obtain⟨W9,hW9⟩:∃ W,W=(((v7.setCell ⟨gh,0,none⟩ (.slice He he1 he2)).setCell ⟨gh,1,none⟩ (.slice Hk hk1 hk2)).setCell ⟨gh,2,none⟩ (.slice Hc hc1 hc2)):=⟨_,rfl⟩;rw[← hW9]
         have hb:Below wcgf.heap.size wcgf W9:=by
          rw[hW9];exact (((HBV.out.setCell (p:=⟨gh,0,none⟩) hvg _).setCell (p:=⟨gh,1,none⟩) hvg _).setCell (p:=⟨gh,2,none⟩) hvg _)
         refine⟨(HN.out.keep (by rw[hW9,cells3];exact Nat.le_refl _) (fun b hb _=>by rw[hW9];exact cells3_at b hb)).rd,?_⟩
         refine (((Kept.nil_of hb).cons_of ?_).cons_of ?_).cons_of ?_ <;> (rw[hW9];go_simp)
        clear z0 z1 z2 m0 m1 m2;go_wp2_with fail;go_meet;exact⟨gh,⟨kh,⟨He,he1,he2⟩,⟨Hk,hk1,hk2⟩,⟨Hc,hc1,hc2⟩⟩,rfl,rfl,HMID.out,HP.out⟩
      ·go_simp
       clear hHeld;refine Th hK ?_ (fun hHeld=>?_)
       ·exact (HKc.out.alloc _).cj
       clear hK K;obtain⟨gh,hgh⟩:∃ g,g=v3.heap.size:=⟨_,rfl⟩;obtain⟨v4,hv4⟩:∃ W,W=v3.alloc (.cells #[.slice none 0 0,.slice none 0 0,.slice none 0 0] 29):=⟨_,rfl⟩
       have hb9:Below v3.heap.size v3 v4:=by rw[hv4];exact Dt.box_below _ _ _
       have hvg:wcgf.heap.size≤gh:=by rw[hgh];exact HBV.out.size
       have hwg:w.heap.size≤gh:=by rw[hgh];exact HKc.out.below.size
       have hngf:gf≠gh:=by have h:=World.block_lt_of_cell? v3 _ HKc.out.c0;dsimp only at h;omega
       have hngy:gy≠gh:=by have h:=World.block_lt_of_cell? v3 _ HKc.out.c3;dsimp only at h;omega
       have hng:g≠gh:=by have h:=World.block_lt_of_cell? v3 _ HKc.out.c6;dsimp only at h;omega
       have hnp:p≠gh:=by have h:=World.block_lt_of_cell? v3 _ HKc.out.t8.c1;dsimp only at h;omega
       have hnq:q≠gh:=by have h:=World.block_lt_of_cell? v3 _ HKc.out.t8.c3;dsimp only at h;omega
       have hns:s≠gh:=by have h:=World.block_lt_of_cell? v3 _ HKc.out.t8.c5;dsimp only at h;omega
       have b0:v4.cell? ⟨gh,0,none⟩=some (.slice none 0 0):=by rw[hv4,hgh];go_simp
       have b1:v4.cell? ⟨gh,1,none⟩=some (.slice none 0 0):=by rw[hv4,hgh];go_simp
       have b2:v4.cell? ⟨gh,2,none⟩=some (.slice none 0 0):=by rw[hv4,hgh];go_simp
       have HKc:=Lib.hid (HKc.out.later hb9);have R:=Lib.hid (RdT.later R.out hb9);have RX:=Lib.hid (RX.out.later hb9);have RY:=Lib.hid (RY.out.later hb9);have RF:=Lib.hid (RF.out.later hb9);have HBV:=Lib.hid (HBV.out.trans (hb9.mono HBV.out.size));have HZ:=Lib.hid ((((Kept.nil_of HBV.out).cons_of b2).cons_of b1).cons_of b0);have HF:Hid (Free gh v4):=⟨by rw[hv4,hgh];simp,fun j=>by rw[hv4,hgh];go_simp⟩;have hlt9:gh<v4.heap.size:=HF.out.1;(try rw[← hv4]at hHeld);rw[← hv4];rw[← hgh];clear hgh hv4 hb9 b0 b1 b2;refine Tc 2 (fun K hK=>?_);go_simp;(go_at_call 26;refine (refknown_any t Ae Ak ne nk ce ck u m9 v4 HT.out (by have:=N.out;omega) R.out HU.out.1 HU.out.2.1 (by have:=HU.out.2.2;omega)).mono ?_);rintro e v5 ⟨B9,d9,rfl,hro,hb9⟩;have RK9:Hid (RdP v5 ⟨(t,u),⟨Ae,ne,ce⟩,⟨Ak,nk,ck⟩,⟨B9,m9,d9⟩⟩):=⟨RdT.later R.out hb9,HU.out.2.1,hro.rd⟩
       clear hro;have HKc:=Lib.hid (HKc.out.later hb9);have R:=Lib.hid (RdT.later R.out hb9);have RX:=Lib.hid (RX.out.later hb9);have RY:=Lib.hid (RY.out.later hb9);have RF:=Lib.hid (RF.out.later hb9);have HBV:=Lib.hid (HBV.out.trans (hb9.mono HBV.out.size));have HZ:=Lib.hid (HZ.out.later hb9);have HF:=Lib.hid (HF.out.later hb9);clear hb9;have HSUM:=HSUM B9 d9;clear hHeld;refine Th hK ?_ (fun hHeld=>?_)
       ·exact HKc.out.cj
       clear hK K;refine Tc 4 (fun K hK=>?_);go_simp;clear hHeld;refine Th hK ?_ (fun hHeld=>?_)
       ·exact (HKc.out.alloc _).cj
       clear hK K;obtain⟨gr,hgr⟩:∃ g,g=v5.heap.size:=⟨_,rfl⟩;obtain⟨v6,hv6⟩:∃ W,W=v5.alloc (.cells #[.slice Ye ye1 ye2,.slice Yk yk1 yk2,.slice Yc yc1 yc2,.slice Ae ne ce,.slice Ak nk ck,.slice B9 m9 d9,.slice Xe xe1 xe2,.slice Xk xk1 xk2,.slice Xc xc1 xc2] 29):=⟨_,rfl⟩
       have hb9:Below v5.heap.size v5 v6:=by rw[hv6];exact Dt.box_below _ _ _
       have hrow:=rd_rowP v5 [⟨ky,⟨Ye,ye1,ye2⟩,⟨Yk,yk1,yk2⟩,⟨Yc,yc1,yc2⟩⟩,⟨(t,u),⟨Ae,ne,ce⟩,⟨Ak,nk,ck⟩,⟨B9,m9,d9⟩⟩,⟨kx,⟨Xe,xe1,xe2⟩,⟨Xk,xk1,xk2⟩,⟨Xc,xc1,xc2⟩⟩] #[.slice Ye ye1 ye2,.slice Yk yk1 yk2,.slice Yc yc1 yc2,.slice Ae ne ce,.slice Ak nk ck,.slice B9 m9 d9,.slice Xe xe1 xe2,.slice Xk xk1 xk2,.slice Xc xc1 xc2] 3 rfl rfl;rw[← hv6,← hgr]at hrow;have HKc:=Lib.hid (HKc.out.later hb9);have R:=Lib.hid (RdT.later R.out hb9);have RX:=Lib.hid (RX.out.later hb9);have RY:=Lib.hid (RY.out.later hb9);have RF:=Lib.hid (RF.out.later hb9);have HBV:=Lib.hid (HBV.out.trans (hb9.mono HBV.out.size));have HZ:=Lib.hid (HZ.out.later hb9);have HF:=Lib.hid (HF.out.later hb9);have RK9:=Lib.hid (RK9.out.later hb9)
       have RW:Hid (RowP v6 (some ⟨gr,0,none⟩) 3 3 [⟨ky,⟨Ye,ye1,ye2⟩,⟨Yk,yk1,yk2⟩,⟨Yc,yc1,yc2⟩⟩,⟨(t,u),⟨Ae,ne,ce⟩,⟨Ak,nk,ck⟩,⟨B9,m9,d9⟩⟩,⟨kx,⟨Xe,xe1,xe2⟩,⟨Xk,xk1,xk2⟩,⟨Xc,xc1,xc2⟩⟩]):=⟨hrow.more (by rw[hv6,hgr];simp),rfl,fun p hp=>by
        simp at hp
        rcases hp with rfl | rfl | rfl
        ·exact RY.out
        ·exact RK9.out
        ·exact RX.out⟩
       (try rw[← hv6]at hHeld);rw[← hv6];rw[← hgr];clear hgr hv6 hb9 hrow;refine Tc 5 (fun K hK=>?_);go_simp;(go_at_call 32;refine (joinAllE_sum 3 [⟨ky,⟨Ye,ye1,ye2⟩,⟨Yk,yk1,yk2⟩,⟨Yc,yc1,yc2⟩⟩,⟨(t,u),⟨Ae,ne,ce⟩,⟨Ak,nk,ck⟩,⟨B9,m9,d9⟩⟩,⟨kx,⟨Xe,xe1,xe2⟩,⟨Xk,xk1,xk2⟩,⟨Xc,xc1,xc2⟩⟩] (some ⟨gr,0,none⟩) 3 v6 (by omega) RW.out HSUM.out).mono ?_);rintro e v7 ⟨kh,z9,hj,_,He,he1,he2,Hk,hk1,hk2,Hc,hc1,hc2,rfl,how,hb9⟩
       obtain⟨rfl,hall,hnn,hnc⟩:=hj (fun p hp=>by
        simp at hp
        rcases hp with rfl | rfl | rfl
        ·exact JY.out
        ·exact JT.out
        ·exact JX.out)
       have HP:Hid (AllJ [ky,(t,u),kx] kh∧nodes kh.1≤1000∧hc1≤1000):=⟨hall,Nat.le_trans hnn HSUM.out.1,by rw[← how.len];exact Nat.le_trans hnc HSUM.out.2⟩;have HN:Hid (NoC v7 (fun b=>b≠gh) ⟨kh,⟨He,he1,he2⟩,⟨Hk,hk1,hk2⟩,⟨Hc,hc1,hc2⟩⟩):=NoC.of_own how (fun b hb _=>by have h:=HF.out.1;omega);clear hj hall hnn hnc how;have HKc:=Lib.hid (HKc.out.later hb9);have R:=Lib.hid (RdT.later R.out hb9);have RX:=Lib.hid (RX.out.later hb9);have RY:=Lib.hid (RY.out.later hb9);have RF:=Lib.hid (RF.out.later hb9);have HBV:=Lib.hid (HBV.out.trans (hb9.mono HBV.out.size));have HZ:=Lib.hid (HZ.out.later hb9);have HF:=Lib.hid (HF.out.later hb9);have RK9:=Lib.hid (RK9.out.later hb9);have RW:=Lib.hid (RW.out.later hb9);clear hb9;obtain⟨z0,z1,z2,-⟩:=HZ.out.cj;have m0:=HF.out.2 0;have m1:=HF.out.2 1;have m2:=HF.out.2 2;clear hHeld
       refine Th hK ?_ (fun hHeld=>?_)
       ·exact HKc.out.cj
       clear hK K;refine Tk 6 78 ?_;refine Tk 7 85 ?_;refine Tk 8 86 ?_;refine Tc 10 (fun K hK=>?_);go_simp;refine Th hK ?_ (fun hHeld2=>?_)
       ·(try dsimp only)
        have h9:=HKc.out.st3 (g:=gh) hwg (fun x hx=>by simp at hx;rcases hx with rfl | rfl | rfl | rfl | rfl | rfl | rfl | rfl | rfl | rfl | rfl | rfl | rfl | rfl | rfl <;> (dsimp only;omega)) (.slice He he1 he2) (.slice Hk hk1 hk2) (.slice Hc hc1 hc2)
        exact h9.cj
       clear hK K hHeld;have hHeld:=hHeld2;clear hHeld2;refine Tk 11 16 ?_;refine wpAnyH_done (by kernel_rfl) ?_ _;clear hHeld
       have HMID:Hid (MidJ wcgf gh ⟨kh,⟨He,he1,he2⟩,⟨Hk,hk1,hk2⟩,⟨Hc,hc1,hc2⟩⟩ (((v7.setCell ⟨gh,0,none⟩ (.slice He he1 he2)).setCell ⟨gh,1,none⟩ (.slice Hk hk1 hk2)).setCell ⟨gh,2,none⟩ (.slice Hc hc1 hc2))):=by
        obtain⟨W9,hW9⟩:∃ W,W=(((v7.setCell ⟨gh,0,none⟩ (.slice He he1 he2)).setCell ⟨gh,1,none⟩ (.slice Hk hk1 hk2)).setCell ⟨gh,2,none⟩ (.slice Hc hc1 hc2)):=⟨_,rfl⟩;rw[← hW9]
        have hb:Below wcgf.heap.size wcgf W9:=by
         rw[hW9];exact (((HBV.out.setCell (p:=⟨gh,0,none⟩) hvg _).setCell (p:=⟨gh,1,none⟩) hvg _).setCell (p:=⟨gh,2,none⟩) hvg _)
        refine⟨(HN.out.keep (by rw[hW9,cells3];exact Nat.le_refl _) (fun b hb _=>by rw[hW9];exact cells3_at b hb)).rd,?_⟩
        refine (((Kept.nil_of hb).cons_of ?_).cons_of ?_).cons_of ?_ <;> (rw[hW9];go_simp)
       clear z0 z1 z2 m0 m1 m2;go_wp2_with fail;go_meet;exact⟨gh,⟨kh,⟨He,he1,he2⟩,⟨Hk,hk1,hk2⟩,⟨Hc,hc1,hc2⟩⟩,rfl,rfl,HMID.out,HP.out⟩
     case rest=>
      obtain⟨wcgh,hwcgh⟩:∃ W,W=wc:=⟨_,rfl⟩;subst hwcgh;obtain⟨gh,⟨kh,⟨He,he1,he2⟩,⟨Hk,hk1,hk2⟩,⟨Hc,hc1,hc2⟩⟩,rfl,rfl,hmid,hprop⟩:=hcut;obtain⟨hrp,hkp⟩:=hmid.out;have hb9:=hkp.below;have HKc:=Lib.hid (HKc.out.later hb9);have R:=Lib.hid (RdT.later R.out hb9);have RX:=Lib.hid (RX.out.later hb9);have RY:=Lib.hid (RY.out.later hb9);have RF:=Lib.hid (RF.out.later hb9);clear hb9;have RH:=Lib.hid hrp;have PH:Hid (AllJ [ky,(t,u),kx] kh∧nodes kh.1≤1000∧hc1≤1000):=hprop.out;have HKc:=Lib.hid ((((HKc.out.cons_of hkp.c2).cons_of hkp.c1).cons_of hkp.c0));clear hmid hprop hrp hkp;clear HSUM;have JF:Hid (RK kf):=PF.out.1.right;have EH:Hid (kf=kh):=(PH.out.1.rot PF.out.1).symm
      have EF:Hid (kf.1=wrapT (oneT ⟨b,m,⟨#[]⟩,7⟩) [tx]):=by
       refine map_keeps (t:=t) (u:=u) (v:=kx.2) (e:=⟨b,m,⟨#[]⟩,7⟩) (b:=a) (m:=n) (key:=tx) (r:=kf) HT.out HU.out.1 HE.out HKY.out HD.out (check_iff.1 HCK2.out).2.2 (fun h=>HNE.out ⟨h.1.symm,h.2.symm⟩) VX.out JF.out fun p q=>?_;rw[PF.out.1.st p q];rw[show (none_,kx.2)=kx from Prod.ext KX.out.symm rfl,← show ky=(wrapT (oneT ⟨b,m,⟨#[]⟩,7⟩) [tx],oneC b m) from PY.out];show mx _ (mx _ (mx _ none))=_;rw[none_mx]
      obtain⟨gs,hgs⟩:∃ g,g=wcgh.heap.size:=⟨_,rfl⟩;obtain⟨v3,hv3⟩:∃ W,W=wcgh.alloc (.cells #[.string tx] 9):=⟨_,rfl⟩
      have hb9:Below wcgh.heap.size wcgh v3:=by rw[hv3];exact Dt.box_below _ _ _
      have HKc:=Lib.hid (HKc.out.later hb9);have R:=Lib.hid (RdT.later R.out hb9);have RX:=Lib.hid (RX.out.later hb9);have RY:=Lib.hid (RY.out.later hb9);have RF:=Lib.hid (RF.out.later hb9);have RH:=Lib.hid (RH.out.later hb9);clear hb9
      have RS:Hid (Rd v3 v3.heap.size 1 (some ⟨gs,0,none⟩) 1 1 (strs [tx])):=by unfold Hid;rw[hv3,hgs];exact rd_one1 _ _
      have Hgs:=Lib.hid hgs;have Hv3:=Lib.hid hv3;clear hgs hv3;obtain⟨c0,c1,c2,c3,c4,c5,c6,c7,c8,c9,c10,c11,c12,c13,c14,c15,c16,c17,-⟩:=HKc.out.cj;rw[Hv3.out]at c0 c1 c2 c3 c4 c5 c6 c7 c8 c9 c10 c11 c12 c13 c14 c15 c16 c17;go_wp2_with fail;rw[← Hgs.out,← Hv3.out];refine (refput_any [tx] (some ⟨gs,0,none⟩) 1 1 b m ⟨#[]⟩ 7 [] (oneC b m) none 0 0 1 v3 rfl RS.out rfl (by omega) (Rd.nil _) right_noneC HE.out (right_wrap1 HE.out HKY.out) (by omega) (put_one HD2.out) rfl (by omega)).mono ?_;rintro e v4 ⟨We,we1,we2,Wk,wk1,wk2,Wc,wc1,wc2,rfl,how,hb9⟩;have RW:Hid (RdP v4 ⟨(wrapT (oneT ⟨b,m,⟨#[]⟩,7⟩) [tx],oneC b m),⟨We,we1,we2⟩,⟨Wk,wk1,wk2⟩,⟨Wc,wc1,wc2⟩⟩):=RdP.of_own how;clear how;have HKc:=Lib.hid (HKc.out.later hb9);have R:=Lib.hid (RdT.later R.out hb9);have RX:=Lib.hid (RX.out.later hb9);have RY:=Lib.hid (RY.out.later hb9)
      have RF:=Lib.hid (RF.out.later hb9);have RH:=Lib.hid (RH.out.later hb9);have RS:=Lib.hid (RS.out.later hb9);clear hb9;clear c0 c1 c2 c3 c4 c5 c6 c7 c8 c9 c10 c11 c12 c13 c14 c15 c16 c17;obtain⟨gw,hgw⟩:∃ g,g=v4.heap.size:=⟨_,rfl⟩;obtain⟨v5,hv5⟩:∃ W,W=v4.alloc (.cells #[.slice We we1 we2,.slice Wk wk1 wk2,.slice Wc wc1 wc2] 29):=⟨_,rfl⟩
      have hb9:Below v4.heap.size v4 v5:=by rw[hv5];exact Dt.box_below _ _ _
      have b0:v5.cell? ⟨gw,0,none⟩=some (.slice We we1 we2):=by rw[hv5,hgw];go_simp
      have b1:v5.cell? ⟨gw,1,none⟩=some (.slice Wk wk1 wk2):=by rw[hv5,hgw];go_simp
      have b2:v5.cell? ⟨gw,2,none⟩=some (.slice Wc wc1 wc2):=by rw[hv5,hgw];go_simp
      have HKc:=Lib.hid (HKc.out.later hb9);have R:=Lib.hid (RdT.later R.out hb9);have RX:=Lib.hid (RX.out.later hb9);have RY:=Lib.hid (RY.out.later hb9);have RF:=Lib.hid (RF.out.later hb9);have RH:=Lib.hid (RH.out.later hb9);have RS:=Lib.hid (RS.out.later hb9);have RW:=Lib.hid (RW.out.later hb9);clear hb9;have HKc:=Lib.hid (((HKc.out.cons_of b2).cons_of b1).cons_of b0);have Hgw:=Lib.hid hgw;have Hv5:=Lib.hid hv5;clear hgw hv5 b0 b1 b2;obtain⟨c0,c1,c2,c3,c4,c5,c6,c7,c8,c9,c10,c11,c12,c13,c14,c15,c16,c17,c18,c19,c20,-⟩:=HKc.out.cj;rw[Hv5.out]at c0 c1 c2 c3 c4 c5 c6 c7 c8 c9 c10 c11 c12 c13 c14 c15 c16 c17 c18 c19 c20;rw[Hgw.out]at c0 c1 c2;go_wp2_with fail;rw[← Hgw.out,← Hv5.out];refine (refsameT_any kf.1 (wrapT (oneT ⟨b,m,⟨#[]⟩,7⟩) [tx]) Fe Fk fe1 fk1 fe2 fk2 We Wk we1 wk1 we2 wk2 v5 (by have:=PF.out.2.1;omega) RF.out.tree RW.out.tree).mono ?_
      rw[eqB_yes EF.out];rintro e v6 ⟨rfl,hb9⟩;have HKc:=Lib.hid (HKc.out.later hb9);have R:=Lib.hid (RdT.later R.out hb9);have RX:=Lib.hid (RX.out.later hb9);have RY:=Lib.hid (RY.out.later hb9);have RF:=Lib.hid (RF.out.later hb9);have RH:=Lib.hid (RH.out.later hb9);have RS:=Lib.hid (RS.out.later hb9);have RW:=Lib.hid (RW.out.later hb9);clear hb9;clear c0 c1 c2 c3 c4 c5 c6 c7 c8 c9 c10 c11 c12 c13 c14 c15 c16 c17 c18 c19 c20;obtain⟨c0,c1,c2,c3,c4,c5,c6,c7,c8,c9,c10,c11,c12,c13,c14,c15,c16,c17,c18,c19,c20,-⟩:=HKc.out.cj;go_wp2_with fail;refine (sameK_any kf.1 kh.1 kf.2 kh.2 Fe Fk Fc He Hk Hc fe1 fk1 fe2 fk2 fc1 fc2 he1 hk1 he2 hk2 hc1 hc2 v6 PF.out.2.1 RF.out.len PF.out.2.2 RF.out.tree RF.out.ctx PH.out.2.1 RH.out.len PH.out.2.2 RH.out.tree RH.out.ctx).mono ?_;rw[show sameKB (kf.1,kf.2) (kh.1,kh.2)=true from same_true JF.out EH.out]
      rintro e v7 ⟨rfl,hb9⟩;have HKc:=Lib.hid (HKc.out.later hb9);have R:=Lib.hid (RdT.later R.out hb9);have RX:=Lib.hid (RX.out.later hb9);have RY:=Lib.hid (RY.out.later hb9);have RF:=Lib.hid (RF.out.later hb9);have RH:=Lib.hid (RH.out.later hb9);have RS:=Lib.hid (RS.out.later hb9);have RW:=Lib.hid (RW.out.later hb9);clear hb9;clear c0 c1 c2 c3 c4 c5 c6 c7 c8 c9 c10 c11 c12 c13 c14 c15 c16 c17 c18 c19 c20;go_wp2_with fail;go_ret;exact⟨by first | rfl | simp,HKc.out.below⟩
set_option maxRecDepth 100000 in
theorem lifted (os:Os) (started:os.Started) (H:Type) (enc:TypeId×Value→H) :
  ReturnsInHanded {} Tryz.checked os 7 .any (Rows.ormapKeepsSpec.pre6 enc Tryz.prog Tryz.f7 Rows.ormapKeepsRow.domain false) (Rows.ormapKeepsSpec.post enc Tryz.prog Tryz.f7 false true false false):=by
 refine returnsInHanded_of_change_sized (C:=Tryz.checked) own started (by kernel_rfl) Tryz.func7
  (ChangeSpec.witness6 (enc:=enc) (C:=Tryz.checked) false ⟨#[],#[.agg #[.slice none 0 0,.slice none 0 0],.string ByteArray.empty,.agg #[.int .i64 0,.int .i64 0],.agg #[.int .i64 0,.int .i64 0]],[]⟩ 8 (by kernel_rfl) (by kernel_rfl) (by kernel_rfl) (by kernel_rfl)) ?_
 intro W base args ds gs before hval0 hW _ hsz0 _;have hval:∀ (j:Nat) t v,Tryz.f7.params[j]?=some t→args[j]?=some v→Value.okWide Tryz.prog W .any base t v:=hval0;have hW':=hW;obtain⟨p,q,hA0,hV,rfl,hfz,hnd⟩:=hW;have hA:DataW.TrodAll enc Tryz.prog W 0 (fun _=>true) true Tryz.f7.params.toList args.toList ds p:=hA0;rw[Tryz.params7]at hA hval;obtain⟨v0,v1,v2,v3,d0,d1,d2,d3,p0,p1,p2,p3,rfl,rfl,rfl,h0,h1,h2,h3⟩:=trodAll_four hA;obtain⟨rfl,rfl⟩:=trodVars_none hV;have hsz:(DataW.weightsEach Tryz.prog (25::9::47::47::_) (d0::d1::d2::d3::_)).all (· ≤ reachBytes)=true:=hsz0;obtain⟨hw0,hsz⟩:=Tr.weights_head hsz;obtain⟨t0,ae0,ak0,ne0,nk0,ce0,ck0,rfl,hr0,hl0⟩:=Tr.treeV_of_trod (hval 0 25 v0 rfl rfl) h0 hw0
 obtain⟨s1,rfl,rfl,rfl,hs1⟩:=Go.ChangeMaps.open_string Tryz.underlying9 (hval 1 9 v1 rfl rfl) h1;obtain⟨da2,dn2,rfl,_,_⟩:=Dt.dot_of_trod (hval 2 47 v2 rfl rfl) h2;obtain⟨da3,dn3,rfl,_,_⟩:=Dt.dot_of_trod (hval 3 47 v3 rfl rfl) h3;refine (walk_any t0 ae0 ak0 ne0 nk0 ce0 ck0 s1 da2 dn2 da3 dn3 W hr0 hl0 ).mono fun e W' ⟨he,hb⟩=>?_;subst he;exact⟨_,rfl,law_post hW' (by kernel_rfl) rfl rfl rfl hb⟩
theorem proved:Rows.OrmapKeepsSaid:=
 OpenClaim.holds_of_wide 7 Tryz.f7 rfl rfl rfl rfl rfl rfl rfl ⟨rfl,rfl,rfl,rfl,rfl⟩ rfl rfl rfl rfl rfl (by kernel_rfl) Tryz.func7 (by kernel_rfl)
  (of_decide_eq_true (by kernel_rfl)) (by unfold Func.isWrapper;first | (rw[if_pos (by decide +kernel)];kernel_rfl) | (rw[if_neg (by decide +kernel)];exact⟨rfl,rfl⟩))
  (fun os started H enc _=>lifted os started H enc)
#print axioms proved
end lawOrmapKeeps
end Go.Proofs.YtjpcechcefhcfaaGreat
