/- What the document says of changes: checked, put, known. -/
import Derived.Test.YtjpcechcefhcfaaGreatG00
import Derived.Test.YtjpcechcefhcfaaGreatFlag2
import Derived.Test.YtjpcechcefhcfaaGreatG50
import Derived.Test.YtjpcechcefhcfaaGreatTreeRefRight
import Derived.Test.YtjpcechcefhcfaaGreatTreeBuild
import Derived.Test.YtjpcechcefhcfaaGreatG20
import Derived.Test.YtjpcechcefhcfaaGreatCauJoin
set_option maxRecDepth 100000
set_option maxHeartbeats 4000000
namespace Go.Proofs.YtjpcechcefhcfaaGreat
open Go.ChangeShapes Go.WideShapes Go.ChangeAt Go.RowKit
namespace Cs
open Tr Cx Sp Rw Classical
theorem nodes_wrap (t:T):∀ p:List ByteArray,nodes (wrapT t p)=nodes t+p.length
 | []=>rfl
 | k::p=>by
  show nodes (.mk [] [(k,wrapT t p)])=_;rw[nodes_mk,List.map_cons,List.map_nil,List.sum_cons,List.sum_nil,nodes_wrap t p];simp;omega
theorem leaves_one (e:E):leaves (oneT e)=[([],e)]:=by
 unfold oneT;rw[leaves_mk];simp[below]
theorem some_of {t:T} (ht:RightT 5 t) {Ae Ak:Option Addr} {ne nk ce ck:Nat} {w:World} (hl:LenT reachBytes t) (hn:nodes t≤1000) (hr:RdT w w.heap.size t ⟨Ae,ne,ce⟩ ⟨Ak,nk,ck⟩):∃ u,OfC (dl t) u∧u.length≤4*nodes t:=by
 obtain⟨_,_,u,q,_,_,_,h1,h2,h3,_⟩:=Calls.some (dotsT_any t Ae Ak ne nk ce ck w (Tr.rightB_iff.2 ht) hl hn hr);exact⟨u,h2.out,by rw[h1.out];exact h3⟩
theorem refone_any (a n:Int) (w:World) :
  Calls Tryz.prog 52 #[.agg #[.int .i64 a,.int .i64 n]] w fun e w'=>∃ g,e = .returned (.slice (some ⟨g,0,none⟩) 1 1)∧Hid (RO w' (fun b=>w.heap.size≤b) 3 (some ⟨g,0,none⟩) 1 1 (spsC (oneC a n)))∧Below w.heap.size w w':=by
 obtain⟨p,hp⟩:∃ p,p=w.heap.size:=⟨_,rfl⟩;obtain⟨W,hW⟩:∃ W,W=w.alloc (.cells #[.int .i64 a,.int .i64 n] 47):=⟨_,rfl⟩
 have hsz:W.heap.size=p+1:=by rw[hW,hp];simp
 obtain⟨g,hg⟩:∃ g,g=p+1:=⟨_,rfl⟩;obtain⟨W1,hW1⟩:∃ W1,W1=W.alloc (.cells #[.int .i64 a,.int .i64 n,.int .i64 n] 105):=⟨_,rfl⟩
 have hb1:Below w.heap.size w W:=by rw[hW];exact Dt.box_below _ _ _
 have hb2:Below W.heap.size W W1:=by rw[hW1];exact Dt.box_below _ _ _
 have c0:W.cell? ⟨p,0,none⟩=some (.int .i64 a):=by rw[hW,hp];go_simp
 have c1:W.cell? ⟨p,1,none⟩=some (.int .i64 n):=by rw[hW,hp];go_simp
 have HRO:Hid (RO W1 (fun b=>w.heap.size≤b) 3 (some ⟨g,0,none⟩) 1 1 (spsC (oneC a n))):=by
  refine⟨rfl,Nat.le_refl _,fun u hu=>?_,fun _=>⟨_,_,rfl,by rw[hg,← hsz];exact hb1.size,by rw[hW1];simp;omega,fun j=>by rw[hW1,hg,← hsz];go_simp,fun j u hu=>?_⟩⟩
  ·simp[spsC,spC,oneC]at hu
   rcases hu with rfl | rfl | rfl <;> rfl
  ·rw[Nat.zero_add,hW1,hg,← hsz,cell_of_row _ _ j _ _ (0,0) (heap_alloc_new _ _)]
   simpa [spsC,spC,oneC] using hu
 have HB:=Lib.hid (hb1.trans (hb2.mono hb1.size));have HP:=Lib.hid hp;have HW:=Lib.hid hW;have HG:=Lib.hid hg;have HW1:=Lib.hid hW1;clear hp hW hg hW1 hb1 hb2 hsz;go_enter Tryz.func52,Tryz.ntmps52;go_wp2_with fail;rw[← HP.out,← HW.out];go_wp2_with fail
 try rw[← HW1.out]
 go_ret;have h1:=HRO.out;have h2:=HB.out;rw[← HP.out]at h1 h2;rw[HG.out]at h1;exact⟨p+1,rfl,h1,h2⟩
theorem refcheck_any (t:T) (Ae Ak:Option Addr) (ne nk ce ck:Nat) (a n:Int) (w:World) (z:Bool) (hz:checkB t a n=z) (hl:LenT reachBytes t) (hn:nodes t≤1000) (hr:RdT w w.heap.size t ⟨Ae,ne,ce⟩ ⟨Ak,nk,ck⟩) :
  Calls Tryz.prog 20 #[.agg #[.slice Ae ne ce,.slice Ak nk ck],.agg #[.int .i64 a,.int .i64 n]] w fun e w'=>e = .returned (.bool z)∧Below w.heap.size w w':=by
 obtain⟨W,p,q,HW,HP,HQ,HKc⟩:=boxTD w Ae Ak ne nk ce ck a n;have HR:=Lib.hid (RdT.more HKc.out.below.size _ (RdT.below hr HKc.out.below));have HL:=Lib.hid hl;have HN:=Lib.hid hn;have HZ:=Lib.hid hz;clear hr hl hn hz;obtain⟨y,hy⟩:∃ y,Tr.rightB 5 t=y:=⟨_,rfl⟩;obtain⟨x,hx⟩:∃ x,Dt.rightB a n=x:=⟨_,rfl⟩;have HY:=Lib.hid hy;have HD:=Lib.hid hx;clear hy hx;go_enter Tryz.func20,Tryz.ntmps20;go_wp2_with fail;rw[← HP.out,← HW.out]
 try rw[← HQ.out]
 cases y with
 | false=>
  obtain rfl:z=false:=by rw[← HZ.out];unfold checkB;rw[HY.out];rfl
  refine wp_region_held_drew (S:=Conj _) (by kernel_rfl) HKc.out.drew.cj (fun hHeld=>?_);obtain⟨w1,hw1⟩:∃ v,v=W.drew:=⟨_,rfl⟩
  have hb9:Below W.heap.size W w1:=by rw[hw1];exact (Below.refl _ _).drew
  have HKc:=Lib.hid (HKc.out.later hb9);have HR:=Lib.hid (RdT.later HR.out hb9);rw[← hw1]at hHeld ⊢;clear hw1 hb9;refine Tk 0 5 ?_;refine Tc 1 (fun K hK=>?_);go_simp;(go_at_call 12;refine (refrightT_any t Ae Ak ne nk ce ck _ HL.out HR.out).mono ?_);rw[HY.out];rintro e x1 ⟨rfl,hb9⟩;have HKc:=Lib.hid (HKc.out.later hb9);have HR:=Lib.hid (RdT.later HR.out hb9);clear hb9;clear hHeld;refine Th hK ?_ (fun hHeld=>?_)
  ·exact HKc.out.cj
  clear hK K;refine Tk 2 7 ?_;refine Tn 3 8 ?_;refine Tn 4 9 ?_;refine Tk 5 10 ?_;refine Tk 6 11 ?_;refine Tn 7 12 ?_;refine Tn 8 13 ?_;refine Tn 9 14 ?_;refine Tn 10 15 ?_;refine Tn 11 16 ?_;refine Tk 12 17 ?_;refine Tk 13 4 ?_;refine wpAnyH_done (by kernel_rfl) ?_ _;clear hHeld;go_wp2_with fail;go_ret;exact⟨by first | rfl | simp,HKc.out.below⟩
 | true=>
  cases x with
  | false=>
   obtain rfl:z=false:=by rw[← HZ.out];unfold checkB;rw[HD.out,Bool.and_false];rfl
   refine wp_region_held_drew (S:=Conj _) (by kernel_rfl) HKc.out.drew.cj (fun hHeld=>?_);obtain⟨w1,hw1⟩:∃ v,v=W.drew:=⟨_,rfl⟩
   have hb9:Below W.heap.size W w1:=by rw[hw1];exact (Below.refl _ _).drew
   have HKc:=Lib.hid (HKc.out.later hb9);have HR:=Lib.hid (RdT.later HR.out hb9);rw[← hw1]at hHeld ⊢;clear hw1 hb9;refine Tk 0 5 ?_;refine Tc 1 (fun K hK=>?_);go_simp;(go_at_call 12;refine (refrightT_any t Ae Ak ne nk ce ck _ HL.out HR.out).mono ?_);rw[HY.out];rintro e x1 ⟨rfl,hb9⟩;have HKc:=Lib.hid (HKc.out.later hb9);have HR:=Lib.hid (RdT.later HR.out hb9);clear hb9;clear hHeld;refine Th hK ?_ (fun hHeld=>?_)
   ·exact HKc.out.cj
   clear hK K;refine Tk 2 7 ?_;refine Tk 3 8 ?_;refine Tc 4 (fun K hK=>?_);go_simp;(go_at_call 49;refine (Dt.refright_any a n _).mono ?_);rw[HD.out];rintro e x2 ⟨rfl,hb9⟩;have HKc:=Lib.hid (HKc.out.later hb9);have HR:=Lib.hid (RdT.later HR.out hb9);clear hb9;clear hHeld;refine Th hK ?_ (fun hHeld=>?_)
   ·exact HKc.out.cj
   clear hK K;refine Tk 5 10 ?_;refine Tk 6 11 ?_;refine Tn 7 12 ?_;refine Tn 8 13 ?_;refine Tn 9 14 ?_;refine Tn 10 15 ?_;refine Tn 11 16 ?_;refine Tk 12 17 ?_;refine Tk 13 4 ?_;refine wpAnyH_done (by kernel_rfl) ?_ _;clear hHeld;go_wp2_with fail;go_ret;exact⟨by first | rfl | simp,HKc.out.below⟩
  | true=>
   have HT:Hid (RightT 5 t):=Tr.rightB_iff.1 HY.out;obtain⟨u,hu1,hu2⟩:=some_of HT.out HL.out HN.out HR.out;have HU:=Lib.hid (And.intro hu1 hu2);obtain⟨m,hm⟩:∃ m,u.length=m:=⟨_,rfl⟩;have HM:=Lib.hid hm;obtain⟨h9,hh9⟩:∃ h,hasCB u a n=h:=⟨_,rfl⟩;have HH:=Lib.hid hh9
   obtain rfl:z = !h9:=by
    rw[← HZ.out,← hh9,has_cb HD.out hu1.right,has_dl HT.out hu1];unfold checkB;rw[HY.out,HD.out];rfl
   clear hu1 hu2 hm hh9;refine wp_region_held_drew (S:=Conj _) (by kernel_rfl) HKc.out.drew.cj (fun hHeld=>?_);obtain⟨w1,hw1⟩:∃ v,v=W.drew:=⟨_,rfl⟩
   have hb9:Below W.heap.size W w1:=by rw[hw1];exact (Below.refl _ _).drew
   have HKc:=Lib.hid (HKc.out.later hb9);have HR:=Lib.hid (RdT.later HR.out hb9);rw[← hw1]at hHeld ⊢;clear hw1 hb9;refine Tk 0 5 ?_;refine Tc 1 (fun K hK=>?_);go_simp;(go_at_call 12;refine (refrightT_any t Ae Ak ne nk ce ck _ HL.out HR.out).mono ?_);rw[HY.out];rintro e x1 ⟨rfl,hb9⟩;have HKc:=Lib.hid (HKc.out.later hb9);have HR:=Lib.hid (RdT.later HR.out hb9);clear hb9;clear hHeld;refine Th hK ?_ (fun hHeld=>?_)
   ·exact HKc.out.cj
   clear hK K;refine Tk 2 7 ?_;refine Tk 3 8 ?_;refine Tc 4 (fun K hK=>?_);go_simp;(go_at_call 49;refine (Dt.refright_any a n _).mono ?_);rw[HD.out];rintro e x2 ⟨rfl,hb9⟩;have HKc:=Lib.hid (HKc.out.later hb9);have HR:=Lib.hid (RdT.later HR.out hb9);clear hb9;clear hHeld;refine Th hK ?_ (fun hHeld=>?_)
   ·exact HKc.out.cj
   clear hK K;refine Tk 5 10 ?_;refine Tk 6 11 ?_;refine Tk 7 12 ?_;refine Tk 9 14 ?_;refine Tc 8 (fun K hK=>?_);go_simp;(go_at_call 22;refine (refdots_any t Ae Ak ne nk ce ck _ HN.out HR.out (good_dl HT.out) u HU.out.1 m HM.out (by have h1:=HU.out.2;have h2:=HM.out;have h3:=HN.out;omega)).mono ?_);rintro e x3 ⟨B,d,rfl,hru,hb9⟩;have HKc:=Lib.hid (HKc.out.later hb9);have HR:=Lib.hid (RdT.later HR.out hb9);have HRU:=Lib.hid hru;clear hru hb9;clear hHeld;refine Th hK ?_ (fun hHeld=>?_)
   ·exact HKc.out.cj
   clear hK K;refine Tc 10 (fun K hK=>?_);go_simp;(go_at_call 50;refine (refhasC_any u m B d a n _ HM.out (by have h1:=HU.out.2;have h2:=HM.out;have h3:=HN.out;omega) HRU.out (decide_eq_true HU.out.1.right) h9 HH.out).mono ?_);rintro e x4 ⟨rfl,hb9⟩;have HKc:=Lib.hid (HKc.out.later hb9);have HR:=Lib.hid (RdT.later HR.out hb9);clear hb9;clear hHeld;refine Th hK ?_ (fun hHeld=>?_)
   ·exact HKc.out.cj
   clear hK K;refine Tk 11 16 ?_;refine Tk 12 17 ?_;refine Tk 13 4 ?_;refine wpAnyH_done (by kernel_rfl) ?_ _;clear hHeld;go_wp2_with fail;go_ret;exact⟨by first | rfl | simp,HKc.out.below⟩
theorem boxEC (w:World) (ea en:Int) (et:ByteArray) (ev:Int):∃ (W:World) (p r:Nat),Hid (W=(w.alloc (.cells #[.int .i64 ea,.int .i64 en,.string et,.int .i64 ev] 61)).alloc (.cells #[.slice none 0 0,.slice none 0 0,.slice none 0 0] 29))∧Hid (p=w.heap.size)∧Hid (r=p+1)∧Hid (Kept [(⟨p,0,none⟩,.int .i64 ea),(⟨p,1,none⟩,.int .i64 en),(⟨p,2,none⟩,.string et),(⟨p,3,none⟩,.int .i64 ev)] w W)∧Hid (Kept [(⟨r,0,none⟩,.slice none 0 0),(⟨r,1,none⟩,.slice none 0 0),(⟨r,2,none⟩,.slice none 0 0)] w W)∧Hid (Free r W):=by
 have hb:Below w.heap.size w ((w.alloc (.cells #[.int .i64 ea,.int .i64 en,.string et,.int .i64 ev] 61)).alloc (.cells #[.slice none 0 0,.slice none 0 0,.slice none 0 0] 29)):=((Below.refl _ _).alloc (Nat.le_refl _) _).alloc (by simp) _;refine⟨_,_,_,rfl,rfl,rfl,?_,?_,⟨by simp,fun j=>by go_simp⟩⟩
 ·have h0:=Kept.nil_of hb
  refine (((h0.cons_of ?_).cons_of ?_).cons_of ?_).cons_of ?_ <;> go_simp
 ·have h0:=Kept.nil_of hb
  refine ((h0.cons_of ?_).cons_of ?_).cons_of ?_ <;> go_simp
theorem refput_any (path:List ByteArray) (A:Option Addr) (m c:Nat) (ea en:Int) (et:ByteArray) (ev:Int) (u v:List S3) (B:Option Addr) (k d q:Nat) (w:World) (hpl:path.length=m) (hrs:Rd w w.heap.size 1 A m c (strs path)) (hul:u.length=k) (hk:k≤1000) (hru:Rd w w.heap.size 3 B k d (spsC u)) (hur:RightC u) (he:RightE ⟨ea,en,et,ev⟩) (ht:RightT 5 (wrapT (oneT ⟨ea,en,et,ev⟩) path)) (hm:m≤10) (hv:PutC uniF u (oneC ea en) v) (hvl:v.length=q) (hq8:q≤800000) :
  Calls Tryz.prog 31 #[.slice A m c,.agg #[.int .i64 ea,.int .i64 en,.string et,.int .i64 ev],.slice B k d] w (CausIs (wrapT (oneT ⟨ea,en,et,ev⟩) path,v) w):=by
 obtain⟨W,p,r,HW,HP,HR0,HKc,HKR,HFR⟩:=boxEC w ea en et ev
 have hwr:w.heap.size≤r:=by have:=HP.out;have:=HR0.out;omega
 have hpr:p<r:=by have:=HR0.out;omega
 have HRS:=Lib.hid ((hrs.below HKc.out.below).more HKc.out.below.size);have HRU:=Lib.hid ((hru.below HKc.out.below).more HKc.out.below.size);have HPL:=Lib.hid hpl;have HU:=Lib.hid (And.intro hul (And.intro hk hur));have HV:=Lib.hid (And.intro hv (And.intro hvl hq8));have HE:Hid (Dt.rightB ea en=true):=he.1;have HT:=Lib.hid ht
 have HNN:Hid (nodes (wrapT (oneT ⟨ea,en,et,ev⟩) path)≤100000):=by unfold Hid;rw[nodes_wrap,nodes_one];omega
 have HMM:Hid (∀ x:Lf,x∈[(path,(⟨ea,en,et,ev⟩:E))]↔x∈leaves (wrapT (oneT ⟨ea,en,et,ev⟩) path)):=fun x=>by
  rw[leaves_wrap,leaves_one];simp
 clear hrs hru hpl hul hk hur hv hvl hq8 he ht hm;go_enter Tryz.func31,Tryz.ntmps31;go_wp2_with fail;rw[← HP.out,← HW.out]
 try rw[← HR0.out]
 refine wp_region_held_drew (S:=Conj _) (by kernel_rfl) HKc.out.drew.cj (fun hHeld=>?_);obtain⟨w1,hw1⟩:∃ v,v=W.drew:=⟨_,rfl⟩
 have hb9:Below W.heap.size W w1:=by rw[hw1];exact (Below.refl _ _).drew
 have HKc:=Lib.hid (HKc.out.later hb9);have HKR:=Lib.hid (HKR.out.later hb9);have HFR:=Lib.hid (HFR.out.later hb9);have HRS:=Lib.hid (HRS.out.later hb9);have HRU:=Lib.hid (HRU.out.later hb9);rw[← hw1]at hHeld ⊢;clear hw1 hb9;refine Tk 0 7 ?_;refine Tk 1 8 ?_;refine Tk 2 9 ?_;refine Tk 5 12 ?_;refine Tk 6 13 ?_;refine Tk 7 14 ?_;refine Tc 3 (fun K hK=>?_);go_simp;clear hHeld;refine Th hK ?_ (fun hHeld=>?_)
 ·exact (HKc.out.alloc _).cj
 clear hK K;obtain⟨g,hg⟩:∃ g,g=w1.heap.size:=⟨_,rfl⟩;obtain⟨w2,hw2⟩:∃ W,W=w1.alloc (.cells #[.slice A m c,.int .i64 ea,.int .i64 en,.string et,.int .i64 ev] 76):=⟨_,rfl⟩
 have hb9:Below w1.heap.size w1 w2:=by rw[hw2];exact Dt.box_below _ _ _
 have HLR:Hid (LfRd w2 w2.heap.size (some ⟨g,0,none⟩) 1 1 [(path,⟨ea,en,et,ev⟩)]):=by
  have h1:=rd_leaf w1 ⟨A,m,c⟩ ⟨ea,en,et,ev⟩ 76;dsimp only at h1;rw[← hw2,← hg]at h1;refine⟨rfl,[(⟨A,m,c⟩,⟨ea,en,et,ev⟩)],h1.more (by rw[hw2,hg];simp),Paths.one HPL.out ?_⟩;exact (RX.of_rd HRS.out (Nat.le_refl _) (fun b hb=>hb)).keep hb9.size (fun b hlt _=>hb9.block b hlt) |>.mono fun b hb _=>Nat.lt_of_lt_of_le hb hb9.size
 have HKc:=Lib.hid (HKc.out.later hb9);have HKR:=Lib.hid (HKR.out.later hb9);have HFR:=Lib.hid (HFR.out.later hb9);have HRU:=Lib.hid (HRU.out.later hb9);rw[← hw2]at hHeld ⊢;rw[← hg];clear hg hw2 hb9;refine Tc 4 (fun K hK=>?_);go_simp;(go_at_call 47;refine (build_of 5 _ HT.out [(path,⟨ea,en,et,ev⟩)] HMM.out (some ⟨g,0,none⟩) 1 1 w2 (by omega) HNN.out HLR.out).mono ?_);rintro e w3 ⟨Re,rn,rc,Rk,rm,rd,rfl,ho,hb9⟩;have HRT:Hid (RdO w3 (fun b=>r<b) (wrapT (oneT ⟨ea,en,et,ev⟩) path) ⟨Re,rn,rc⟩ ⟨Rk,rm,rd⟩):=RdO.mono (fun b hb _=>Nat.lt_of_lt_of_le HFR.out.1 hb) _ ho;have HKc:=Lib.hid (HKc.out.later hb9);have HKR:=Lib.hid (HKR.out.later hb9);have HFR:=Lib.hid (HFR.out.later hb9);have HRU:=Lib.hid (HRU.out.later hb9);clear ho hb9;clear hHeld;refine Th hK ?_ (fun hHeld=>?_)
 ·exact HKc.out.cj
 clear hK K;refine Tc 8 (fun K hK=>?_);go_simp;(go_at_call 52;refine (refone_any ea en w3).mono ?_);rintro e w4 ⟨h,rfl,ho,hb9⟩;have HO:Hid (Rd w4 w4.heap.size 3 (some ⟨h,0,none⟩) 1 1 (spsC (oneC ea en))):=ho.out.rd;have HRT:=Lib.hid (RdO.later HRT.out hb9);have HKc:=Lib.hid (HKc.out.later hb9);have HKR:=Lib.hid (HKR.out.later hb9);have HFR:=Lib.hid (HFR.out.later hb9);have HRU:=Lib.hid (HRU.out.later hb9);clear ho hb9;clear hHeld;refine Th hK ?_ (fun hHeld=>?_)
 ·exact HKc.out.cj
 clear hK K;refine Tc 9 (fun K hK=>?_);go_simp;(go_at_call 51;refine (refunionC_own u (oneC ea en) v k 1 q B (some ⟨h,0,none⟩) d 1 w4 HU.out.1 rfl HV.out.2.1 HU.out.2.1 (by omega) HRU.out HO.out HU.out.2.2 (right_oneC HE.out) HV.out.1 HV.out.2.2).mono ?_);rintro e w5 ⟨Rc,re,rfl,ho,hb9⟩;have HRV:Hid (RO w5 (fun b=>r<b) 3 Rc q re (spsC v)):=(RO.of_own ho).mono fun b hb _=>Nat.lt_of_lt_of_le HFR.out.1 hb.1;have HRT:=Lib.hid (RdO.later HRT.out hb9);have HKc:=Lib.hid (HKc.out.later hb9);have HKR:=Lib.hid (HKR.out.later hb9);have HFR:=Lib.hid (HFR.out.later hb9);clear ho hb9;obtain⟨z0,z1,z2,-⟩:=HKR.out.cj;have m0:=HFR.out.2 0;have m1:=HFR.out.2 1;have m2:=HFR.out.2 2;clear hHeld;refine Th hK ?_ (fun hHeld=>?_)
 ·exact HKc.out.cj
 clear hK K;refine Tk 10 17 ?_;refine Tc 11 (fun K hK=>?_);go_simp;refine Th hK ?_ (fun hHeld2=>?_)
 ·have h9:=(((HKc.out).set (a:=⟨r,0,none⟩) hwr (fun x hx=>by simp at hx;rcases hx with rfl | rfl | rfl | rfl <;> (dsimp only;omega)) (.slice Re rn rc)).set (a:=⟨r,1,none⟩) hwr (fun x hx=>by simp at hx;rcases hx with rfl | rfl | rfl | rfl <;> (dsimp only;omega)) (.slice Rk rm rd)).set (a:=⟨r,2,none⟩) hwr (fun x hx=>by simp at hx;rcases hx with rfl | rfl | rfl | rfl <;> (dsimp only;omega)) (.slice Rc q re)
  exact h9.cj
 clear hK K hHeld;have hHeld:=hHeld2;clear hHeld2;refine wpAnyH_done (by kernel_rfl) ?_ _;clear hHeld;obtain⟨W9,hW9⟩:∃ W,W=((w5.setCell ⟨r,0,none⟩ (.slice Re rn rc)).setCell ⟨r,1,none⟩ (.slice Rk rm rd)).setCell ⟨r,2,none⟩ (.slice Rc q re):=⟨_,rfl⟩
 have HB9:Hid (Below w.heap.size w W9):=by
  unfold Hid;rw[hW9];exact ((HKc.out.below.setCell (p:=⟨r,0,none⟩) hwr _).setCell (p:=⟨r,1,none⟩) hwr _).setCell (p:=⟨r,2,none⟩) hwr _
 have HO9:Hid (OwC W9 w.heap.size (wrapT (oneT ⟨ea,en,et,ev⟩) path,v) Re rn rc Rk rm rd Rc q re):=by
  unfold Hid;rw[hW9];exact⟨RdO.mono (fun b hb _=>Nat.le_trans hwr (Nat.le_of_lt hb)) _ (RdO.keep (by rw[cells3];exact Nat.le_refl _) (fun b hb _=>cells3_at b (by omega)) _ HRT.out),HV.out.2.1,(HRV.out.keep (by rw[cells3];exact Nat.le_refl _) (fun b hb _=>cells3_at b (by omega))).mono fun b hb _=>Nat.le_trans hwr (Nat.le_of_lt hb)⟩
 have l0:W9.cell? ⟨r,0,none⟩=some (.slice Re rn rc):=by rw[hW9];go_simp
 have l1:W9.cell? ⟨r,1,none⟩=some (.slice Rk rm rd):=by rw[hW9];go_simp
 have l2:W9.cell? ⟨r,2,none⟩=some (.slice Rc q re):=by rw[hW9];go_simp
 clear z0 z1 z2 m0 m1 m2;rw[← hW9];clear hW9;go_wp2_with fail;refine bodyPost_ret (v:=.agg #[.slice Re rn rc,.slice Rk rm rd,.slice Rc q re]) (by simp[results,Tryz.results31,go_sem,l0,l1,l2]) rfl ⟨Re,rn,rc,Rk,rm,rd,Rc,q,re,rfl,HO9.out,HB9.out⟩
theorem boxTC (w:World) (Ae Ak:Option Addr) (ne nk ce ck:Nat):∃ (W:World) (p r:Nat),Hid (W=(w.alloc (.cells #[.slice Ae ne ce,.slice Ak nk ck] 25)).alloc (.cells #[.slice none 0 0,.slice none 0 0,.slice none 0 0] 29))∧Hid (p=w.heap.size)∧Hid (r=p+1)∧Hid (Kept [(⟨p,0,none⟩,.slice Ae ne ce),(⟨p,1,none⟩,.slice Ak nk ck)] w W)∧Hid (Kept [(⟨r,0,none⟩,.slice none 0 0),(⟨r,1,none⟩,.slice none 0 0),(⟨r,2,none⟩,.slice none 0 0)] w W)∧Hid (Free r W):=by
 have hb:Below w.heap.size w ((w.alloc (.cells #[.slice Ae ne ce,.slice Ak nk ck] 25)).alloc (.cells #[.slice none 0 0,.slice none 0 0,.slice none 0 0] 29)):=((Below.refl _ _).alloc (Nat.le_refl _) _).alloc (by simp) _;refine⟨_,_,_,rfl,rfl,rfl,?_,?_,⟨by simp,fun j=>by go_simp⟩⟩
 ·have h0:=Kept.nil_of hb
  refine (h0.cons_of ?_).cons_of ?_ <;> go_simp
 ·have h0:=Kept.nil_of hb
  refine ((h0.cons_of ?_).cons_of ?_).cons_of ?_ <;> go_simp
theorem refknown_any (t:T) (Ae Ak:Option Addr) (ne nk ce ck:Nat) (u:List S3) (m:Nat) (w:World) (ht:RightT 5 t) (hn:nodes t≤1000) (hr:RdT w w.heap.size t ⟨Ae,ne,ce⟩ ⟨Ak,nk,ck⟩) (hu:OfC (dl t) u) (hm:u.length=m) (hm8:m≤800000) :
  Calls Tryz.prog 26 #[.agg #[.slice Ae ne ce,.slice Ak nk ck]] w fun e w'=>∃ B d,e = .returned (.agg #[.slice Ae ne ce,.slice Ak nk ck,.slice B m d])∧RO w' (fun b=>w.heap.size≤b) 3 B m d (spsC u)∧Below w.heap.size w w':=by
 obtain⟨W,p,r,HW,HP,HR0,HKc,HKR,HFR⟩:=boxTC w Ae Ak ne nk ce ck
 have hwr:w.heap.size≤r:=by have:=HP.out;have:=HR0.out;omega
 have hpr:p<r:=by have:=HR0.out;omega
 have HR:=Lib.hid hr;have HN:=Lib.hid (And.intro hn ht);have HU:=Lib.hid (And.intro hu (And.intro hm hm8));clear hr hn ht hu hm hm8;go_enter Tryz.func26,Tryz.ntmps26;go_wp2_with fail;rw[← HP.out,← HW.out]
 try rw[← HR0.out]
 refine wp_region_held_drew (S:=Conj _) (by kernel_rfl) HKc.out.drew.cj (fun hHeld=>?_);obtain⟨w1,hw1⟩:∃ v,v=W.drew:=⟨_,rfl⟩
 have hb9:Below W.heap.size W w1:=by rw[hw1];exact (Below.refl _ _).drew
 have HKc:=Lib.hid (HKc.out.later hb9);have HKR:=Lib.hid (HKR.out.later hb9);have HFR:=Lib.hid (HFR.out.later hb9);rw[← hw1]at hHeld ⊢;clear hw1 hb9;refine Tk 0 3 ?_;refine Tk 1 4 ?_;refine Tc 2 (fun K hK=>?_);go_simp;(go_at_call 22;refine (refdots_own t Ae Ak ne nk ce ck w1 HN.out.1 (RdT.more HKc.out.below.size _ (RdT.below HR.out HKc.out.below)) (good_dl HN.out.2) u HU.out.1 m HU.out.2.1 HU.out.2.2).mono ?_);rintro e w2 ⟨B,d,rfl,ho,hb9⟩;have HO:Hid (RO w2 (fun b=>r<b) 3 B m d (spsC u)):=(RO.of_own ho).mono fun b hb _=>Nat.lt_of_lt_of_le HFR.out.1 hb.1;have HKc:=Lib.hid (HKc.out.later hb9);have HKR:=Lib.hid (HKR.out.later hb9);have HFR:=Lib.hid (HFR.out.later hb9);clear ho hb9;obtain⟨z0,z1,z2,-⟩:=HKR.out.cj;have m0:=HFR.out.2 0;have m1:=HFR.out.2 1;have m2:=HFR.out.2 2;clear hHeld;refine Th hK ?_ (fun hHeld=>?_)
 ·exact HKc.out.cj
 clear hK K;refine Tk 3 6 ?_;refine Tc 4 (fun K hK=>?_);go_simp;refine Th hK ?_ (fun hHeld2=>?_)
 ·have h9:=(((HKc.out).set (a:=⟨r,0,none⟩) hwr (fun x hx=>by simp at hx;rcases hx with rfl | rfl <;> (dsimp only;omega)) (.slice Ae ne ce)).set (a:=⟨r,1,none⟩) hwr (fun x hx=>by simp at hx;rcases hx with rfl | rfl <;> (dsimp only;omega)) (.slice Ak nk ck)).set (a:=⟨r,2,none⟩) hwr (fun x hx=>by simp at hx;rcases hx with rfl | rfl <;> (dsimp only;omega)) (.slice B m d)
  exact h9.cj
 clear hK K hHeld;have hHeld:=hHeld2;clear hHeld2;refine wpAnyH_done (by kernel_rfl) ?_ _;clear hHeld;obtain⟨W9,hW9⟩:∃ W,W=((w2.setCell ⟨r,0,none⟩ (.slice Ae ne ce)).setCell ⟨r,1,none⟩ (.slice Ak nk ck)).setCell ⟨r,2,none⟩ (.slice B m d):=⟨_,rfl⟩
 have HB9:Hid (Below w.heap.size w W9):=by
  unfold Hid;rw[hW9];exact ((HKc.out.below.setCell (p:=⟨r,0,none⟩) hwr _).setCell (p:=⟨r,1,none⟩) hwr _).setCell (p:=⟨r,2,none⟩) hwr _
 have HO9:Hid (RO W9 (fun b=>w.heap.size≤b) 3 B m d (spsC u)):=by
  unfold Hid;rw[hW9];exact (HO.out.keep (by rw[cells3];exact Nat.le_refl _) (fun b hb _=>cells3_at b (by omega))).mono fun b hb _=>Nat.le_trans hwr (Nat.le_of_lt hb)
 have l0:W9.cell? ⟨r,0,none⟩=some (.slice Ae ne ce):=by rw[hW9];go_simp
 have l1:W9.cell? ⟨r,1,none⟩=some (.slice Ak nk ck):=by rw[hW9];go_simp
 have l2:W9.cell? ⟨r,2,none⟩=some (.slice B m d):=by rw[hW9];go_simp
 clear z0 z1 z2 m0 m1 m2;rw[← hW9];clear hW9;go_wp2_with fail;refine bodyPost_ret (v:=.agg #[.slice Ae ne ce,.slice Ak nk ck,.slice B m d]) (by simp[results,Tryz.results26,go_sem,l0,l1,l2]) rfl ⟨B,d,rfl,HO9.out,HB9.out⟩
end Cs
end Go.Proofs.YtjpcechcefhcfaaGreat
