/- Texts of the lower layers, and of layer 9, put together. -/
import Derived.Test.YtcbpgemiffmieaaGreatG00
import Derived.Test.YtcbpgemiffmieaaGreatCauMrgK
import Derived.Test.YtcbpgemiffmieaaGreatG10
import Derived.Test.YtcbpgemiffmieaaGreatG20
import Derived.Test.YtcbpgemiffmieaaGreatTreeRefRight
import Derived.Test.YtcbpgemiffmieaaGreatG01
namespace Go.Proofs.YtcbpgemiffmieaaGreat
open Go.ChangeShapes Go.WideShapes Go.ChangeAt Go.RowKit
namespace Cs
open Tr Cx Sp Rw
theorem boxC2 (w:World) (Ae Ak Be Bk Ca Cb:Option Addr) (ne nk ce ck me mk de dk na ca9 nb cb9:Nat):∃ (W:World) (p q:Nat),Hid (W=(w.alloc (.cells #[.slice Ae ne ce,.slice Ak nk ck,.slice Ca na ca9] 37)).alloc (.cells #[.slice Be me de,.slice Bk mk dk,.slice Cb nb cb9] 37))∧Hid (p=w.heap.size)∧Hid (q=p+1)∧Hid (Kept [(⟨p,0,none⟩,.slice Ae ne ce),(⟨p,1,none⟩,.slice Ak nk ck),(⟨p,2,none⟩,.slice Ca na ca9),(⟨q,0,none⟩,.slice Be me de),(⟨q,1,none⟩,.slice Bk mk dk),(⟨q,2,none⟩,.slice Cb nb cb9)] w W):=by
 refine⟨_,_,_,rfl,rfl,rfl,?_⟩;have h0:=Kept.nil_of (Dt.box2_below w #[.slice Ae ne ce,.slice Ak nk ck,.slice Ca na ca9] #[.slice Be me de,.slice Bk mk dk,.slice Cb nb cb9] 37 37)
 refine (((((h0.cons_of ?_).cons_of ?_).cons_of ?_).cons_of ?_).cons_of ?_).cons_of ?_ <;> go_simp
theorem RdK.more {w:World} {B B' n c:Nat} {A:Option Addr} {ks:List Kd} (h:RdK w B A n c ks) (hB:B≤B'):RdK w B' A n c ks:=by
 obtain⟨xs,h1,h2,h3⟩:=h;refine⟨xs,h1.more hB,h2,fun i hi=>?_⟩;obtain⟨se,sk,e1,e2,e3,e4⟩:=h3 i hi;exact⟨se,sk,e1,e2,e3,RdT.more hB _ e4⟩
end Cs
end Go.Proofs.YtcbpgemiffmieaaGreat
set_option maxRecDepth 100000
set_option maxHeartbeats 4000000
namespace Go.Proofs.YtcbpgemiffmieaaGreat
open Go.ChangeShapes Go.WideShapes Go.ChangeAt Go.RowKit
namespace Cs
open Tr Cx Sp Rw Classical
theorem Calls.some {P:Program} {f:FuncId} {args:Array Value} {w:World} {R:Ending→World→Prop} (h:Calls P f args w R):∃ e w',R e w':=by
 obtain⟨e,w',_,hr,_⟩:=h [];exact⟨e,w',hr⟩
theorem empty_of {l:List S3} (hl:RightC l) (h:∀ d n,Cen d→hasC l d n=false):l=[]:=extC hl right_noneC fun d n hd=>by rw[h d n hd];rfl
theorem rightKB_of {t:T} {cs u l:List S3} (ht:rightB 5 t=true) (hc:RightC cs) (hu:OfC (dl t) u) (hl:PutC minF u cs l):rightKB (t,cs)=decide (l=[]):=by
 have hiff:RK (t,cs)↔l=[]:=by
  constructor
  ·intro h
   refine empty_of hl.right fun d n hd=>?_;rw[hl.has d n hd];unfold minF
   cases h1:hasC u d n with
   | false=>rfl
   | true=>
    have h2:=(hu.has d n hd).1 h1;unfold dl at h2;obtain⟨x,hx,he⟩:=List.mem_map.1 h2;have h3:=h.has x hx;have e1:x.2.a=d:=congrArg Prod.fst he;have e2:x.2.n=n:=congrArg Prod.snd he;rw[e1,e2]at h3;rw[show hasC cs d n=true from h3];rfl
  ·rintro rfl
   refine⟨rightB_iff.1 ht,hc,fun x hx=>?_⟩;have hm:(x.2.a,x.2.n)∈dl t:=List.mem_map.2 ⟨x,hx,rfl⟩;have hd:=(good_num (good_dl (rightB_iff.1 ht) _ hm)).1;have h1:=(hu.has x.2.a x.2.n hd).2 hm;have h2:=hl.has x.2.a x.2.n hd;rw[h1]at h2;have h3:hasC [] x.2.a x.2.n=false:=rfl;rw[h3]at h2;show hasC cs x.2.a x.2.n=true
   cases h4:hasC cs x.2.a x.2.n with
   | true=>rfl
   | false=>rw[h4]at h2;cases h2
 unfold rightKB
 by_cases h:l=[]
 ·rw[decide_eq_true h]
  exact decide_eq_true (hiff.2 h)
 ·rw[decide_eq_false h]
  exact decide_eq_false fun h2=>h (hiff.1 h2)
theorem rightKB_noT {t:T} {cs:List S3} (h:rightB 5 t=false):rightKB (t,cs)=false:=decide_eq_false fun h2=>by
 have h3:=rightB_iff.2 h2.tree;rw[h]at h3
 cases h3
theorem rightKB_noC {t:T} {cs:List S3} (h:¬RightC cs):rightKB (t,cs)=false:=decide_eq_false fun h2=>h h2.ctx
theorem boxC1 (w:World) (Ae Ak Ca:Option Addr) (ne nk ce ck na ca9:Nat):∃ (W:World) (p:Nat),Hid (W=w.alloc (.cells #[.slice Ae ne ce,.slice Ak nk ck,.slice Ca na ca9] 37))∧Hid (p=w.heap.size)∧Hid (Kept [(⟨p,0,none⟩,.slice Ae ne ce),(⟨p,1,none⟩,.slice Ak nk ck),(⟨p,2,none⟩,.slice Ca na ca9)] w W):=by
 refine⟨_,_,rfl,rfl,?_⟩;have h0:=Kept.nil_of (Dt.box_below w #[.slice Ae ne ce,.slice Ak nk ck,.slice Ca na ca9] 37)
 refine ((h0.cons_of ?_).cons_of ?_).cons_of ?_ <;> go_simp
theorem rightK_any (t:T) (cs:List S3) (Ae Ak Ca:Option Addr) (ne nk ce ck na ca9:Nat) (w:World) (hn:nodes t≤10000) (hl:cs.length=na) (hna:na≤10000) (hr:RdT w w.heap.size t ⟨Ae,ne,ce⟩ ⟨Ak,nk,ck⟩) (hc:Rd w w.heap.size 3 Ca na ca9 (spsC cs)) :
  Calls Tryz.prog 68 #[.agg #[.slice Ae ne ce,.slice Ak nk ck,.slice Ca na ca9]] w fun e w'=>e = .returned (.bool (rightKB (t,cs)))∧Below w.heap.size w w':=by
 obtain⟨z,hz⟩:∃ z,rightKB (t,cs)=z:=⟨_,rfl⟩;rw[hz];have HZ:=Lib.hid hz;have HR:=Lib.hid (And.intro hr (And.intro hl hc));have HN:=Lib.hid hn;clear hz hr hl hc hn;obtain⟨W,p,HW,HP,HK⟩:=boxC1 w Ae Ak Ca ne nk ce ck na ca9;have hb:=HK.out.below;obtain⟨c0,c1,c2,-⟩:=HK.out.cj;have HRT:=Lib.hid (RdT.more hb.size _ (RdT.below HR.out.1 hb));clear hb;go_enter Tryz.func68,Tryz.ntmps68;go_wp2_with fail;rw[← HP.out,← HW.out]
 cases hb:rightB 5 t with
 | false=>
  obtain rfl:z=false:=by rw[← HZ.out];exact rightKB_noT hb
  refine (dotsT_bad t Ae Ak ne nk ce ck W hb (LenT.few (by have:=HN.out;omega)) HRT.out).mono ?_;rintro e w1 ⟨rfl,hb1⟩;have HB1:=Lib.hid (HK.out.below.trans (hb1.mono HK.out.below.size));clear hb1 c0 c1 c2 hb;go_wp2_with fail;go_ret;exact⟨rfl,HB1.out⟩
 | true=>
  refine (dotsT_any t Ae Ak ne nk ce ck W hb (LenT.few (by have:=HN.out;omega)) HN.out HRT.out).mono ?_;rintro e w1 ⟨u,q,A,c,rfl,HUL,HOF,hq,HRU,hb1⟩;have HK1:=Lib.hid (HK.out.later hb1);have hcr:=(HR.out.2.2.below HK1.out.below).more HK1.out.below.size;have HT:=Lib.hid hb;clear hb1 c0 c1 c2 hb;have c2:=HK1.out.c2
  by_cases hc:RightC cs
  ·have HLQ:=Lib.hid (leqC_any u cs q na A Ca c ca9 w1 HUL.out HR.out.2.1 (by have:=HN.out;omega) (by omega) HRU.out hcr HOF.out.right hc)
   have HC:=Lib.hid hc;clear hcr hc;go_wp2_with fail;refine HLQ.out.mono ?_;rintro e w2 ⟨l,hpl,rfl,hb2⟩;have HB2:=Lib.hid (HK1.out.below.trans (hb2.mono HK1.out.below.size));obtain⟨y,hy⟩:∃ y,decide (l=[])=y:=⟨_,rfl⟩;rw[hy]
   have hzy:z=y:=by rw[← HZ.out,← hy];exact rightKB_of HT.out HC.out HOF.out hpl
   have HZY:=Lib.hid hzy;clear hpl hb2 hy hzy;go_wp2_with fail;go_ret;exact⟨by rw[HZY.out];try rfl,HB2.out⟩
  ·obtain rfl:z=false:=by rw[← HZ.out];exact rightKB_noC hc
   have HLQ:=Lib.hid (leqC_bad u cs q na A Ca c ca9 w1 HUL.out HR.out.2.1 (by have:=HN.out;omega) (by omega) HRU.out hcr (by rw[rightCB_false hc,Bool.and_false]));clear hcr hc;go_wp2_with fail;refine HLQ.out.mono ?_;rintro e w2 ⟨rfl,hb2⟩;have HB2:=Lib.hid (HK1.out.below.trans (hb2.mono HK1.out.below.size));clear hb2;go_wp2_with fail;go_ret;exact⟨rfl,HB2.out⟩
theorem refleqC_any (a b u:List S3) (n m q:Nat) (A B:Option Addr) (c d:Nat) (w:World) (hla:a.length=n) (hlb:b.length=m) (hlu:u.length=q) (hn:n≤10000) (hm:m≤10000) (hra:Rd w w.heap.size 3 A n c (spsC a)) (hrb:Rd w w.heap.size 3 B m d (spsC b)) (ha:RightC a) (hb:RightC b) (hu:PutC minF a b u) (huq:q≤800000) :
  Calls Tryz.prog 56 #[.slice A n c,.slice B m d] w fun e w'=>e = .returned (.bool (decide (u=[])))∧Below w.heap.size w w':=by
 have HC:=Lib.hid (refbyC_any minF 2 (.inr (.inr ⟨rfl,rfl⟩)) a b u n m q A B c d w hla hlb hlu hn hm hra hrb ha hb hu huq)
 have HE:Hid (decide (u=[])=((q:Int)==0)):=by
  unfold Hid;rw[← hlu]
  cases u with
  | nil=>rfl
  | cons x u=>
   rw[decide_eq_false (by simp)]
   symm
   rw[beq_eq_false_iff_ne];simp;omega
 clear hla hlb hra hrb ha hb hu hlu;go_enter Tryz.func56,Tryz.ntmps56;go_wp2_with (go_at_call 90;refine HC.out.mono ?_;rintro e w1 ⟨A1,c1,rfl,h1,h2⟩);go_ret;exact⟨by rw[HE.out];try rfl,h2⟩
theorem refrightK_any (t:T) (cs:List S3) (Ae Ak Ca:Option Addr) (ne nk ce ck na ca9:Nat) (w:World) (hn:nodes t≤10000) (hl:cs.length=na) (hna:na≤10000) (hr:RdT w w.heap.size t ⟨Ae,ne,ce⟩ ⟨Ak,nk,ck⟩) (hc:Rd w w.heap.size 3 Ca na ca9 (spsC cs)) (hn2:nodes t≤2400) :
  Calls Tryz.prog 20 #[.agg #[.slice Ae ne ce,.slice Ak nk ck,.slice Ca na ca9]] w fun e w'=>e = .returned (.bool (rightKB (t,cs)))∧Below w.heap.size w w':=by
 obtain⟨z,hz⟩:∃ z,rightKB (t,cs)=z:=⟨_,rfl⟩;rw[hz]
 have HEX:Hid (rightB 5 t=true→∃ u,OfC (dl t) u∧u.length≤4*nodes t):=fun hb=>by
  obtain⟨e,w',u,q,A,c,_,h1,h2,h3,_⟩:=Cs.Calls.some (dotsT_any t Ae Ak ne nk ce ck w hb (LenT.few (by omega)) hn hr);exact⟨u,h2.out,by rw[h1.out];exact h3⟩
 have HR:=Lib.hid (And.intro hr (And.intro hl hc));have HN:=Lib.hid hn;have HN2:=Lib.hid hn2;have HZ:=Lib.hid hz
 have HMX:Hid (∀ (W:World) (u:List S3) (q:Nat) (A:Option Addr) (c:Nat),Rd W W.heap.size 3 A q c (spsC u)→u.length=q→q≤10000→Below w.heap.size w W→RightC u→RightC cs→∃ l,PutC minF u cs l∧l.length≤800000):=fun W u q A c h1 h2 h3 h4 h5 h6=>by
  obtain⟨e,w',l,k,_,_,_,g1,g2,g3,_⟩:=Cs.Calls.some (minusC_any u cs q na A Ca c ca9 W h2 hl (by omega) (by omega) h1 ((hc.below h4).more h4.size) h5 h6);exact⟨l,g2.out,by rw[g1.out];omega⟩
 clear hz hr hl hc hn hn2;obtain⟨W,p,HW,HP,HK⟩:=boxC1 w Ae Ak Ca ne nk ce ck na ca9;obtain⟨c0,c1,c2,-⟩:=HK.out.cj;have HKc:=Lib.hid (HK.out.drew);go_enter Tryz.func20,Tryz.ntmps20;go_wp2_with fail;rw[← HP.out,← HW.out]
 cases hb:rightB 5 t with
 | false=>
  obtain rfl:z=false:=by rw[← HZ.out];exact rightKB_noT hb
  have HT:=Lib.hid hb;clear hb HEX HMX;refine wp_region_held_drew (S:=Conj _) (by kernel_rfl) HKc.out.cj (fun hHeld=>?_);obtain⟨w1,hw1⟩:∃ v,v=W.drew:=⟨_,rfl⟩;rw[← hw1]at hHeld HKc ⊢;clear hw1;refine Tk 0 3 ?_;refine Tk 1 4 ?_;refine Tc 2 (fun K hK=>?_);go_simp;(go_at_call 55;refine (refrightT_any t Ae Ak ne nk ce ck w1 (LenT.few (by have:=HN.out;omega)) (RdT.more HKc.out.below.size _ (RdT.below HR.out.1 HKc.out.below))).mono ?_);rw[HT.out];rintro e v2 ⟨rfl,hb9⟩;have HKc:=Lib.hid (HKc.out.later hb9);clear hb9;clear hHeld;refine Th hK ?_ (fun hHeld=>?_)
  ·exact HKc.out.cj
  clear hK K;refine Tk 3 6 ?_;refine Tn 4 7 ?_;refine Tn 5 8 ?_;refine Tn 6 9 ?_;refine Tk 7 10 ?_;refine Tk 8 11 ?_;refine Tn 9 12 ?_;refine Tn 10 13 ?_;refine Tn 11 14 ?_;refine Tn 12 15 ?_;refine Tn 13 16 ?_;refine Tn 14 17 ?_;refine Tk 15 18 ?_;refine Tk 16 2 ?_;refine wpAnyH_done (by kernel_rfl) ?_ _;clear hHeld;go_wp2_with fail;go_ret;exact⟨by first | rfl | (rw[HZ.out];rfl),HKc.out.below⟩
 | true=>
  have HT:=Lib.hid hb;obtain⟨u,hu1,hu2⟩:=HEX.out hb;obtain⟨q,hq⟩:∃ q,u.length=q:=⟨_,rfl⟩
  have hq1:q≤10000:=by have:=HN2.out;omega
  have HU:=Lib.hid (And.intro hu1 (And.intro hq hq1));clear hb HEX hu1 hu2 hq
  cases hcs:rightCB cs with
  | false=>
   obtain rfl:z=false:=by rw[← HZ.out];exact rightKB_noC (not_rightCB hcs)
   have HC:=Lib.hid hcs;clear hcs HMX;refine wp_region_held_drew (S:=Conj _) (by kernel_rfl) HKc.out.cj (fun hHeld=>?_);obtain⟨w1,hw1⟩:∃ v,v=W.drew:=⟨_,rfl⟩;rw[← hw1]at hHeld HKc ⊢;clear hw1;refine Tk 0 3 ?_;refine Tk 1 4 ?_;refine Tc 2 (fun K hK=>?_);go_simp;(go_at_call 55;refine (refrightT_any t Ae Ak ne nk ce ck w1 (LenT.few (by have:=HN.out;omega)) (RdT.more HKc.out.below.size _ (RdT.below HR.out.1 HKc.out.below))).mono ?_);rw[HT.out];rintro e v2 ⟨rfl,hb9⟩;have HKc:=Lib.hid (HKc.out.later hb9);clear hb9;clear hHeld;refine Th hK ?_ (fun hHeld=>?_)
   ·exact HKc.out.cj
   clear hK K;refine Tk 3 6 ?_;refine Tk 4 7 ?_;refine Tk 5 8 ?_;refine Tc 6 (fun K hK=>?_);go_simp;(go_at_call 19;refine (refrightC_any cs na Ca ca9 v2 HR.out.2.1 (by omega) ((HR.out.2.2.below HKc.out.below).more HKc.out.below.size) false HC.out).mono ?_);rintro e v6 ⟨rfl,hb9⟩;have HKc:=Lib.hid (HKc.out.later hb9);clear hb9;clear hHeld;refine Th hK ?_ (fun hHeld=>?_)
   ·exact HKc.out.cj
   clear hK K;refine Tk 7 10 ?_;refine Tk 8 11 ?_;refine Tn 9 12 ?_;refine Tn 10 13 ?_;refine Tn 11 14 ?_;refine Tn 12 15 ?_;refine Tn 13 16 ?_;refine Tn 14 17 ?_;refine Tk 15 18 ?_;refine Tk 16 2 ?_;refine wpAnyH_done (by kernel_rfl) ?_ _;clear hHeld;go_wp2_with fail;go_ret;exact⟨by first | rfl | (rw[HZ.out];rfl),HKc.out.below⟩
  | true=>
   have HC:=Lib.hid hcs;have HCC:=Lib.hid (of_rightCB hcs);clear hcs;refine wp_region_held_drew (S:=Conj _) (by kernel_rfl) HKc.out.cj (fun hHeld=>?_);obtain⟨w1,hw1⟩:∃ v,v=W.drew:=⟨_,rfl⟩;rw[← hw1]at hHeld HKc ⊢;clear hw1;refine Tk 0 3 ?_;refine Tk 1 4 ?_;refine Tc 2 (fun K hK=>?_);go_simp;(go_at_call 55;refine (refrightT_any t Ae Ak ne nk ce ck w1 (LenT.few (by have:=HN.out;omega)) (RdT.more HKc.out.below.size _ (RdT.below HR.out.1 HKc.out.below))).mono ?_);rw[HT.out];rintro e v2 ⟨rfl,hb9⟩;have HKc:=Lib.hid (HKc.out.later hb9);clear hb9;clear hHeld;refine Th hK ?_ (fun hHeld=>?_)
   ·exact HKc.out.cj
   clear hK K;refine Tk 3 6 ?_;refine Tk 4 7 ?_;refine Tk 5 8 ?_;refine Tc 6 (fun K hK=>?_);go_simp;(go_at_call 19;refine (refrightC_any cs na Ca ca9 v2 HR.out.2.1 (by omega) ((HR.out.2.2.below HKc.out.below).more HKc.out.below.size) true HC.out).mono ?_);rintro e v6 ⟨rfl,hb9⟩;have HKc:=Lib.hid (HKc.out.later hb9);clear hb9;clear hHeld;refine Th hK ?_ (fun hHeld=>?_)
   ·exact HKc.out.cj
   clear hK K;refine Tk 7 10 ?_;refine Tk 8 11 ?_;refine Tk 9 12 ?_;refine Tk 10 13 ?_;refine Tk 12 15 ?_;refine Tk 13 16 ?_;refine Tc 11 (fun K hK=>?_);go_simp;(go_at_call 57;refine (refdots_any t Ae Ak ne nk ce ck v6 HN.out (RdT.more HKc.out.below.size _ (RdT.below HR.out.1 HKc.out.below)) (good_dl (rightB_iff.1 HT.out)) u HU.out.1 q HU.out.2.1 (by omega)).mono ?_);rintro e v11 ⟨A7,c7,rfl,hru,hb9⟩;obtain⟨l,hl1,hl2⟩:=HMX.out v11 u q A7 c7 hru HU.out.2.1 HU.out.2.2 (HKc.out.below.trans (hb9.mono HKc.out.below.size)) HU.out.1.right HCC.out;obtain⟨m,hm⟩:∃ m,l.length=m:=⟨_,rfl⟩;have HL:=Lib.hid (And.intro hl1 (And.intro hm (And.intro (show m≤800000 by omega) HU.out.2.2)));obtain⟨y,hy⟩:∃ y,decide (l=[])=y:=⟨_,rfl⟩
   have hzy:z=y:=by rw[← HZ.out,← hy];exact rightKB_of HT.out HCC.out HU.out.1 hl1
   have HZY:=Lib.hid hzy;have HY:=Lib.hid hy;clear hl1 hl2 hm hy hzy;have HRU:=Lib.hid hru;clear hru;have HKc:=Lib.hid (HKc.out.later hb9);clear hb9;clear hHeld;refine Th hK ?_ (fun hHeld=>?_)
   ·exact HKc.out.cj
   clear hK K;refine Tc 14 (fun K hK=>?_);go_simp;(go_at_call 56;refine (refleqC_any u cs l q na m A7 Ca c7 ca9 v11 HU.out.2.1 HR.out.2.1 HL.out.2.1 HL.out.2.2.2 (by omega) HRU.out ((HR.out.2.2.below HKc.out.below).more HKc.out.below.size) HU.out.1.right HCC.out HL.out.1 HL.out.2.2.1).mono ?_);rw[HY.out,← HZY.out];rintro e v14 ⟨rfl,hb9⟩;have HKc:=Lib.hid (HKc.out.later hb9);clear hb9;clear hHeld;refine Th hK ?_ (fun hHeld=>?_)
   ·exact HKc.out.cj
   clear hK K;refine Tk 15 18 ?_;refine Tk 16 2 ?_;refine wpAnyH_done (by kernel_rfl) ?_ _;clear hHeld;go_wp2_with fail;go_ret;exact⟨by first | rfl | (rw[HZ.out];rfl),HKc.out.below⟩
end Cs
end Go.Proofs.YtcbpgemiffmieaaGreat
namespace Go.Proofs.YtcbpgemiffmieaaGreat
namespace Cs
open Tr Cx Sp Rw Classical
def oneC (a n:Int):List S3:=[(a,n,n)]
theorem part_oneC (a n d:Int):Cx.part (oneC a n) d=if a=d then [(n,n)]else []:=by
 unfold oneC;rw[part_cons,part_nil]
theorem has_oneC (a n d m:Int):hasC (oneC a n) d m=decide (d=a∧m=n):=by
 unfold hasC;rw[part_oneC]
 by_cases h:a=d
 ·rw[if_pos h,has_cons,has_nil,Bool.or_false]
  by_cases h2:m=n
  ·rw[decide_eq_true (by omega),decide_eq_true ⟨h.symm,h2⟩]
  ·rw[decide_eq_false (by omega),decide_eq_false fun h3=>h2 h3.2]
 ·rw[if_neg h,has_nil,decide_eq_false fun h3=>h h3.1.symm]
theorem right_oneC {a n:Int} (h:Dt.rightB a n=true):RightC (oneC a n):=by
 obtain⟨hc,h1,h2⟩:=Cx.good_num (x:=(a,n)) h;refine⟨⟨hc.1,hc.2,trivial⟩,fun d _=>?_⟩;rw[part_oneC]
 split
 ·exact⟨h1,Int.le_refl _,h2,trivial⟩
 ·trivial
theorem right_oneT {d:Nat} {e:E} (he:RightE e):RightT (d+1) (oneT e):=⟨fun x hx=>by
 rw[List.mem_singleton.1 hx];exact he,by simp,by simp,by simp⟩
theorem nodes_one (e:E):nodes (oneT e)=1:=by unfold oneT;rw[nodes_mk];rfl
end Cs
end Go.Proofs.YtcbpgemiffmieaaGreat
namespace Go.Proofs.YtcbpgemiffmieaaGreat
namespace Cs
open Tr Cx Sp Rw Classical
end Cs
end Go.Proofs.YtcbpgemiffmieaaGreat
namespace Go.Proofs.YtcbpgemiffmieaaGreat
namespace Cs
open Tr Cx Sp Rw Classical
end Cs
end Go.Proofs.YtcbpgemiffmieaaGreat
namespace Go.Proofs.YtcbpgemiffmieaaGreat
namespace Cs
open Tr Cx Sp Rw Classical
theorem rise_ext {l m:List ByteArray} (hl:l.Pairwise ltS) (hm:m.Pairwise ltS) (h:∀ x,x∈l↔x∈m):l=m:=by
 refine up_ext (key:=id) tot_str hl hm fun k=>?_
 by_cases hk:k∈l
 ·rw[show look id l k=some k from (look_iff (key:=id) tot_str hl).2 ⟨hk,rfl⟩,show look id m k=some k from (look_iff (key:=id) tot_str hm).2 ⟨(h k).1 hk,rfl⟩]
 ·rw[show look id l k=none from look_none fun x hx e=>hk (by rw[← show x=k from e];exact hx),show look id m k=none from look_none fun x hx e=>hk (by rw[← show x=k from e];exact (h x).2 hx)]
structure SortIs (l m:List ByteArray):Prop where
 rise:m.Pairwise ltS
 mem:∀ x,x∈m↔x∈l
theorem SortIs.eq {l m m':List ByteArray} (h:SortIs l m) (h':SortIs l m'):m=m':=rise_ext h.rise h'.rise fun x=>(h.mem x).trans (h'.mem x).symm
end Cs
end Go.Proofs.YtcbpgemiffmieaaGreat
namespace Go.Proofs.YtcbpgemiffmieaaGreat
namespace Cs
open Tr Cx Sp Rw Classical
structure OpM where
 path:List ByteArray
 act:Int
 s:ByteArray
 n:Int
def kindK (k:ByteArray):Nat:=match k.data.toList with
 | 102::_=>1
 | 115::_=>2
 | 99::_=>3
 | 114::_=>4
 | 109::_=>5
 | _=>0
def lastK (p:List ByteArray):Nat:=match p.getLast? with
 | some k=>kindK k
 | none=>0
structure PathOk (p:List ByteArray):Prop where
 some:p≠[]
 few:p.length≤3
 each:∀ k∈p,k.size≤30∧kindK k≠0
 maps:∀ (i:Nat) (h:i<p.length),i+1<p.length→kindK p[i]=5
def actOk (a:Int) (k:Nat):Prop:=(a=1∨a=2)∧k=1∨(a=3∨a=4)∧k=2∨a=5∧k=3∨a=6∧k=4∨a=7
structure OpOk (o:OpM):Prop where
 path:PathOk o.path
 act:actOk o.act (lastK o.path)
 key:(o.act=3∨o.act=4)→KeyOk o.s
 text:o.act=6→o.s.size≤30
 none_:¬(o.act=3∨o.act=4∨o.act=6)→o.s=⟨#[]⟩
 num:o.act=5 → -1099511627776≤o.n∧o.n≤1099511627776
 zero:o.act≠5→o.n=0
def brings (a:Int):Prop:=a=1∨a=3∨a=5∨a=6
def endP (o:OpM):List ByteArray:=if o.act=3 then o.path++[o.s]else o.path
def undoes (x e:OpM):Prop:=x.path <+: e.path∧(x.act=7∨(e.path.length=x.path.length∧((x.act=1∨x.act=2)∧e.act=1∨(x.act=3∨x.act=4)∧e.act=3∧e.s=x.s∨x.act=6∧e.act=6)))
structure Ev where
 d:Int×Int
 o:OpM
 seen:List S3
noncomputable def entOf (ev:Ev):E:=⟨ev.d.1,ev.d.2,if ev.o.act=6 then ev.o.s else⟨#[]⟩,ev.o.n⟩
structure Made15 (all:List Ev):Prop where
 diff:all.Pairwise fun x y=>x.d≠y.d
 ok:∀ x∈all,OpOk x.o
 seen:∀ x∈all,∀ a n,hasC x.seen a n=true→∃ y∈all,y.d=(a,n)
theorem pair_one:∀ {all:List Ev},all.Pairwise (fun x y=>x.d≠y.d)→∀ x∈all,∀ y∈all,x.d=y.d→x=y
 | [],_,x,hx,_,_,_=>by cases hx
 | z::l,h,x,hx,y,hy,e=>by
  obtain⟨h1,h2⟩:=List.pairwise_cons.1 h
  rcases List.mem_cons.1 hx with h3 | h3 <;> rcases List.mem_cons.1 hy with h4 | h4
  ·rw[h3,h4]
  ·exact absurd (by rw[← h3];exact e) (h1 y h4)
  ·exact absurd (by rw[← h4];exact e.symm) (h1 x h3)
  ·exact pair_one h2 x h3 y h4 e
theorem Made15.one {all:List Ev} (h:Made15 all):∀ x∈all,∀ y∈all,x.d=y.d→x=y:=pair_one h.diff
def Stands (all:List Ev) (c:List S3) (ev:Ev):Prop:=brings ev.o.act∧∀ y∈all,hasC c y.d.1 y.d.2=true→hasC y.seen ev.d.1 ev.d.2=true→¬undoes y.o ev.o
structure Knows (all:List Ev) (k:K):Prop where
 right:RK k
 made:∀ a n,hasC k.2 a n=true→∃ y∈all,y.d=(a,n)
 down:∀ y∈all,hasC k.2 y.d.1 y.d.2=true→∀ a n,hasC y.seen a n=true→hasC k.2 a n=true
 ent:∀ p q e,entAt k.1 p q=some e↔∃ y∈all,y.d=q∧hasC k.2 q.1 q.2=true∧endP y.o=p∧entOf y=e∧Stands all k.2 y
theorem Made15.snoc {all:List Ev} (h:Made15 all) {ev:Ev} (hf:∀ y∈all,y.d≠ev.d) (ho:OpOk ev.o) (hs:∀ a n,hasC ev.seen a n=true→∃ y∈all,y.d=(a,n)):Made15 (all++[ev]):=by
 have hin:∀ y,y∈all++[ev]↔y∈all∨y=ev:=fun y=>by rw[List.mem_append,List.mem_singleton]
 refine⟨List.pairwise_append.2 ⟨h.diff,by simp,fun x hx y hy=>by rw[List.mem_singleton.1 hy];exact hf x hx⟩,fun x hx=>?_,fun x hx a n hh=>?_⟩
 ·rcases (hin x).1 hx with hx | rfl
  ·exact h.ok x hx
  ·exact ho
 ·rcases (hin x).1 hx with hx | rfl
  ·obtain⟨y,hy,hd⟩:=h.seen x hx a n hh
   exact⟨y,(hin y).2 (.inl hy),hd⟩
  ·obtain⟨y,hy,hd⟩:=hs a n hh
   exact⟨y,(hin y).2 (.inl hy),hd⟩
theorem Knows.none_:Knows [] noneK:=⟨right_noneK,fun a n h=>(by cases (show hasC [] a n=true from h)),fun y hy=>(by cases hy),fun p q e=>by
 rw[show entAt noneK.1 p q=none from entAt_none p q];constructor
 ·intro h;cases h
 ·rintro⟨y,hy,_⟩;cases hy⟩
end Cs
end Go.Proofs.YtcbpgemiffmieaaGreat
namespace Go.Proofs.YtcbpgemiffmieaaGreat
open Go.ChangeShapes Go.WideShapes Go.ChangeAt Go.RowKit
namespace Pk
open Tr Cx Cs Sp Rw Codec
theorem right_nil:RightC []:=⟨by simp[RiseC],fun _ _=>by simp[Cx.part,RightF]⟩
theorem caus_le {k:K} (h:RightT 5 k.1∧RightC k.2) (hn:nodes k.1≤5000) (hl:k.2.length≤5000):(causB k).length≤800000:=by
 have h1:=tree_le k.1 h.1 (by omega);have h2:=ctx_le h.2 (by omega);unfold causB;rw[List.length_append];omega
set_option maxRecDepth 100000 in
set_option maxHeartbeats 4000000 in
theorem causP_any (t:T) (cs:List S3) (Ae Ak Ca:Option Addr) (ne nk ce ck na ca9:Nat) (w:World) (z:Bool) (hz:rightKB (t,cs)=z) (u:K) (hu:u=if z then (t,cs)else (none_,[])) (hn:nodes t≤2400) (hl:cs.length=na) (hna:na≤5000) (hr:RdT w w.heap.size t ⟨Ae,ne,ce⟩ ⟨Ak,nk,ck⟩) (hc:Rd w w.heap.size 3 Ca na ca9 (spsC cs)) :
  Calls Tryz.prog 34 #[.agg #[.slice Ae ne ce,.slice Ak nk ck,.slice Ca na ca9]] w (NewRow 5 1 (u8s (causB u)) (causB u).length w):=by
 obtain⟨W,p,HW,HP,HK⟩:=boxC1 w Ae Ak Ca ne nk ce ck na ca9
 have hpw:w.heap.size≤p:=by have:=HP.out;omega
 have HF:Hid (Free p W):=⟨by rw[HW.out,HP.out];simp,fun j=>by rw[HW.out,HP.out];go_simp⟩;have hb0:=HK.out.below;have hr1:=RdT.more hb0.size _ (RdT.below hr hb0);have hc1:=(hc.below hb0).more hb0.size;have HC:=Lib.hid (Cs.refrightK_any t cs Ae Ak Ca ne nk ce ck na ca9 W (by omega) hl (by omega) hr1 hc1 hn);rw[hz]at HC;have HZ:=Lib.hid hz;have HU:=Lib.hid hu;have HN:=Lib.hid hn;have HL:=Lib.hid hl;have HR:=Lib.hid (And.intro hr1 hc1);obtain⟨k0,k1,k2,-⟩:=HK.out.cj;clear hz hu hn hl hr hc hb0 hr1 hc1;go_enter Tryz.func34,Tryz.ntmps34;go_wp2_with fail;rw[← HP.out,← HW.out];refine HC.out.mono ?_;rintro e w1 ⟨rfl,hb1⟩;have HF1:=Lib.hid (HF.out.later hb1);have HK1:=Lib.hid (HK.out.later hb1);have HRT1:=Lib.hid (RdT.later HR.out.1 hb1);have HRC1:=Lib.hid (HR.out.2.later hb1)
 obtain⟨k0,k1,k2,-⟩:=HK1.out.cj;clear hb1 HC HK HF HR
 cases z with
 | false=>
  have hu2:u=(none_,[]):=by have h:=HU.out;simpa using h
  subst hu2;have f0:=HF1.out.2 0;have f1:=HF1.out.2 1;have f2:=HF1.out.2 2;obtain⟨wq,hwq⟩:∃ W,W=((w1.setCell ⟨p,0,none⟩ (.slice none 0 0)).setCell ⟨p,1,none⟩ (.slice none 0 0)).setCell ⟨p,2,none⟩ (.slice none 0 0):=⟨_,rfl⟩
  have HKq:Hid (Kept [(⟨p,0,none⟩,.slice none 0 0),(⟨p,1,none⟩,.slice none 0 0),(⟨p,2,none⟩,.slice none 0 0)] w wq):=by
   have h1:=(Kept.nil_of HK1.out.below).st3 (g:=p) hpw (by simp) (.slice none 0 0) (.slice none 0 0) (.slice none 0 0);rw[← hwq]at h1
   refine ((h1.cons_of ?_).cons_of ?_).cons_of ?_ <;> (rw[hwq];go_simp)
  have HWQ:=Lib.hid hwq;have HRT:Hid (RdT wq wq.heap.size none_ ⟨none,0,0⟩ ⟨none,0,0⟩):=RdT.none _ _ _ _;have HRC:Hid (Rd wq wq.heap.size 3 none 0 0 (spsC [])):=Rd.nil _;have HR5:Hid (rightB 5 none_=true):=rightB_iff.2 RightT.none;have HC5:Hid (rightCB []=true):=rightCB_true right_nil
  have HN5:Hid (nodes none_≤2400):=by unfold Hid;simp[none_,nodes_mk]
  have HL5:Hid (([]:List S3).length=0):=rfl;have HM5:Hid (0≤20000):=Nat.zero_le _;have HLE:Hid ((causB (none_,[])).length≤800000):=caus_le ⟨RightT.none,right_nil⟩ (by simp[none_,nodes_mk]) (by simp);clear hwq;go_wp2_with fail;rw[← HWQ.out];refine wp_region_held_drew (S:=fun W=>W.cell? ⟨p,0,none⟩=some (.slice none 0 0)∧W.cell? ⟨p,1,none⟩=some (.slice none 0 0)∧W.cell? ⟨p,2,none⟩=some (.slice none 0 0)) (by kernel_rfl) (by exact⟨HKq.out.drew.c0,HKq.out.drew.c1,HKq.out.drew.c2⟩) (fun hHeld=>?_);obtain⟨v1,hv1,hb9⟩:=drq wq;rw[← hv1]at hHeld ⊢;obtain⟨HKq,HRT,HRC⟩:=cq3 hb9 HKq HRT HRC;clear hv1 hb9;refine Tk 0 7 ?_;refine Tk 1 8 ?_;refine Tk 3 10 ?_;refine Tk 4 11 ?_;refine Tc 2 (fun K hK=>?_);go_simp;refine (treeP_any (none_) none none 0 0 0 0 v1 true HR5.out (none_) rfl (LenT.few (by have:=HN5.out;omega)) (by have:=HN5.out;omega) HRT.out).mono ?_
  rintro e v2 ⟨A2,c2,rfl,ho2,hb2⟩;obtain⟨m2,hm2⟩:∃ m,m=(treeB (none_)).length:=⟨_,rfl⟩;rw[← hm2]at ho2 ⊢;have hk0:=HKq.out;have HKq:Hid (Kept [(⟨p,0,none⟩,.slice none 0 0),(⟨p,1,none⟩,.slice none 0 0),(⟨p,2,none⟩,.slice none 0 0)] _ _):=hk0.later hb2;have hrc0:=HRC.out;have HRC:=Lib.hid (hrc0.later hb2)
  have HO2:Hid (OutR w [(⟨p,0,none⟩,.slice none 0 0),(⟨p,1,none⟩,.slice none 0 0),(⟨p,2,none⟩,.slice none 0 0)] v2 (.slice A2 m2 c2) (treeB (none_))):=by
   have h1:=(ho2.mono hk0.below.size).row;rw[hm2]at h1;rw[hm2];refine⟨h1,HKq.out,fun x hx e=>?_⟩;have h2:=(ho2.row.lt _ (by rw[hm2];exact e)).1;have h3:=(hk0.2 x hx).1;omega
  clear ho2 hb2 hk0 hrc0 hm2;clear hHeld;refine Th hK ?_ (fun hHeld=>?_)
  ·exact⟨HKq.out.c0,HKq.out.c1,HKq.out.c2⟩
  clear hK K;refine Tc 5 (fun K hK=>?_);go_simp;refine (ctxP_any ([]) 0 none 0 v2 true HC5.out ([]) rfl HL5.out HM5.out HRC.out).mono ?_;rintro e v3 ⟨A3,c3,rfl,ho3,hb3⟩;obtain⟨m3,hm3⟩:∃ m,(ctxB ([])).length=m:=⟨_,rfl⟩;rw[hm3]at ho3 ⊢;have hk0:=HKq.out;have HKq:Hid (Kept [(⟨p,0,none⟩,.slice none 0 0),(⟨p,1,none⟩,.slice none 0 0),(⟨p,2,none⟩,.slice none 0 0)] _ _):=hk0.later hb3;obtain⟨v4,w4,Hrun,HO4⟩:=HO2.out.put (acc2:=causB (none_,[])) hb3 hm3 ho3 HLE.out rfl;clear ho3 hb3 hk0 hm3;clear hHeld;refine Th hK ?_ (fun hHeld=>?_)
  ·exact⟨HKq.out.c0,HKq.out.c1,HKq.out.c2⟩
  clear hK K;refine wpAnyH_ready (rs:=[6]) (by kernel_rfl) (by simp)  ?_;refine AllReadyH.cons (o:=⟨some 13,_,_,_,_,_⟩) rfl (fun K hK=>?_) AllReadyH.nil;refine Sp.upon_append _ _ _ rfl rfl rfl Hrun.out ?_;refine hK.out _ _ ?_ (fun hHeld2=>?_)
  ·exact⟨HO4.out.kept.c0,HO4.out.kept.c1,HO4.out.kept.c2⟩
  clear hK K hHeld;have hHeld:=hHeld2;clear  hHeld2
  try simp only[Act.put,List.setIfInBounds_toArray,List.set_cons_zero,List.set_cons_succ]
  refine Tk 7 2 ?_;refine wpAnyH_done (by kernel_rfl) ?_ _;have h1:=HO4.out.row;obtain⟨A5,c5,rfl,ho5⟩:=Own.of_row h1 (u8s_one _);have HO5:=Lib.hid ho5;have HB5:=Lib.hid HO4.out.kept.below;clear h1 ho5 HO4 HO2 Hrun HKq HRC HRT hHeld;go_wp2;go_ret;exact⟨A5,c5,rfl,HO5.out,HB5.out⟩
 | true=>
  have hu2:(t,cs)=u:=by have h:=HU.out;simp at h;exact h.symm
  subst hu2;have hRK:=rightKB_iff.1 HZ.out;obtain⟨wq,hwq⟩:∃ W,W=w1:=⟨_,rfl⟩;rw[← hwq]at HK1 HRT1 HRC1 k0 k1 k2 ⊢;have HKq:=Lib.hid HK1.out;have HRT:=Lib.hid HRT1.out;have HRC:=Lib.hid HRC1.out;have HR5:Hid (rightB 5 t=true):=rightB_iff.2 hRK.tree;have HC5:Hid (rightCB cs=true):=rightCB_true hRK.ctx;have HN5:=Lib.hid HN.out;have HL5:=Lib.hid HL.out
  have HM5:Hid (na≤20000):=by unfold Hid;omega
  have HLE:Hid ((causB (t,cs)).length≤800000):=caus_le ⟨hRK.tree,hRK.ctx⟩ (by have:=HN.out;dsimp only;omega) (by have:=HL.out;dsimp only;omega);clear hwq hRK HK1 HRT1 HRC1 HF1;go_wp2_with fail;refine wp_region_held_drew (S:=fun W=>W.cell? ⟨p,0,none⟩=some (.slice Ae ne ce)∧W.cell? ⟨p,1,none⟩=some (.slice Ak nk ck)∧W.cell? ⟨p,2,none⟩=some (.slice Ca na ca9)) (by kernel_rfl) (by exact⟨HKq.out.drew.c0,HKq.out.drew.c1,HKq.out.drew.c2⟩) (fun hHeld=>?_);obtain⟨v1,hv1,hb9⟩:=drq wq;rw[← hv1]at hHeld ⊢;obtain⟨HKq,HRT,HRC⟩:=cq3 hb9 HKq HRT HRC;clear hv1 hb9;refine Tk 0 7 ?_;refine Tk 1 8 ?_;refine Tk 3 10 ?_;refine Tk 4 11 ?_;refine Tc 2 (fun K hK=>?_);go_simp;refine (treeP_any (t) Ae Ak ne nk ce ck v1 true HR5.out (t) rfl (LenT.few (by have:=HN5.out;omega)) (by have:=HN5.out;omega) HRT.out).mono ?_;rintro e v2 ⟨A2,c2,rfl,ho2,hb2⟩
  obtain⟨m2,hm2⟩:∃ m,m=(treeB (t)).length:=⟨_,rfl⟩;rw[← hm2]at ho2 ⊢;have hk0:=HKq.out;have HKq:Hid (Kept [(⟨p,0,none⟩,.slice Ae ne ce),(⟨p,1,none⟩,.slice Ak nk ck),(⟨p,2,none⟩,.slice Ca na ca9)] _ _):=hk0.later hb2;have hrc0:=HRC.out;have HRC:=Lib.hid (hrc0.later hb2)
  have HO2:Hid (OutR w [(⟨p,0,none⟩,.slice Ae ne ce),(⟨p,1,none⟩,.slice Ak nk ck),(⟨p,2,none⟩,.slice Ca na ca9)] v2 (.slice A2 m2 c2) (treeB (t))):=by
   have h1:=(ho2.mono hk0.below.size).row;rw[hm2]at h1;rw[hm2];refine⟨h1,HKq.out,fun x hx e=>?_⟩;have h2:=(ho2.row.lt _ (by rw[hm2];exact e)).1;have h3:=(hk0.2 x hx).1;omega
  clear ho2 hb2 hk0 hrc0 hm2;clear hHeld;refine Th hK ?_ (fun hHeld=>?_)
  ·exact⟨HKq.out.c0,HKq.out.c1,HKq.out.c2⟩
  clear hK K;refine Tc 5 (fun K hK=>?_);go_simp;refine (ctxP_any (cs) na Ca ca9 v2 true HC5.out (cs) rfl HL5.out HM5.out HRC.out).mono ?_;rintro e v3 ⟨A3,c3,rfl,ho3,hb3⟩;obtain⟨m3,hm3⟩:∃ m,(ctxB (cs)).length=m:=⟨_,rfl⟩;rw[hm3]at ho3 ⊢;have hk0:=HKq.out;have HKq:Hid (Kept [(⟨p,0,none⟩,.slice Ae ne ce),(⟨p,1,none⟩,.slice Ak nk ck),(⟨p,2,none⟩,.slice Ca na ca9)] _ _):=hk0.later hb3;obtain⟨v4,w4,Hrun,HO4⟩:=HO2.out.put (acc2:=causB (t,cs)) hb3 hm3 ho3 HLE.out rfl;clear ho3 hb3 hk0 hm3;clear hHeld;refine Th hK ?_ (fun hHeld=>?_)
  ·exact⟨HKq.out.c0,HKq.out.c1,HKq.out.c2⟩
  clear hK K;refine wpAnyH_ready (rs:=[6]) (by kernel_rfl) (by simp)  ?_;refine AllReadyH.cons (o:=⟨some 13,_,_,_,_,_⟩) rfl (fun K hK=>?_) AllReadyH.nil;refine Sp.upon_append _ _ _ rfl rfl rfl Hrun.out ?_;refine hK.out _ _ ?_ (fun hHeld2=>?_)
  ·exact⟨HO4.out.kept.c0,HO4.out.kept.c1,HO4.out.kept.c2⟩
  clear hK K hHeld;have hHeld:=hHeld2;clear  hHeld2
  try simp only[Act.put,List.setIfInBounds_toArray,List.set_cons_zero,List.set_cons_succ]
  refine Tk 7 2 ?_;refine wpAnyH_done (by kernel_rfl) ?_ _;have h1:=HO4.out.row;obtain⟨A5,c5,rfl,ho5⟩:=Own.of_row h1 (u8s_one _);have HO5:=Lib.hid ho5;have HB5:=Lib.hid HO4.out.kept.below;clear h1 ho5 HO4 HO2 Hrun HKq HRC HRT hHeld;go_wp2;go_ret;exact⟨A5,c5,rfl,HO5.out,HB5.out⟩
end Pk
end Go.Proofs.YtcbpgemiffmieaaGreat
namespace Go.Proofs.YtcbpgemiffmieaaGreat
open Go.ChangeShapes Go.WideShapes Go.ChangeAt Go.RowKit
namespace Pk
open Tr Cx Cs Sp Rw Codec
def CausS (bs:List UInt8) (k:K) (rest:List UInt8) (b:Bool):Prop:=(b=false∧bs=causB k++rest∧RK k)∨(b=true∧rest=[]∧k=(none_,[])∧∀ k' x,RK k'→bs≠causB k'++x)
theorem caus_cat (k:K) (x:List UInt8):causB k++x=treeB k.1++(ctxB k.2++x):=by unfold causB;rw[List.append_assoc]
section
variable {bs r1 r2:List UInt8} {t:T} {cs:List S3} {b1 b2:Bool}
theorem caus_no (h1:ToTreeS bs t r1 b1) (h2:CtxS r1 cs r2 true):∀ k' x,RK k'→bs≠causB k'++x:=fun k' x hk e=>by
 rw[caus_cat]at e
 rcases h1 with ⟨_,h,_⟩ | ⟨_,_,_,h⟩
 ·rw[h]at e
  obtain⟨_,e⟩:=pre_tree _ _ _ _ e
  rcases h2 with ⟨g,_⟩ | ⟨_,_,_,g⟩
  ·cases g
  ·exact g _ _ hk.ctx e
 ·exact h _ _ hk.tree e
theorem caus_yes (h1:ToTreeS bs t r1 b1) (h2:CtxS r1 cs r2 false):bs=causB (t,cs)++r2:=by
 rcases h2 with ⟨_,g,_⟩ | ⟨g,_⟩
 ·rcases h1 with ⟨_,h,_⟩ | ⟨_,h,_⟩
  ·rw[caus_cat,h,g]
  ·rw[h]at g
   unfold ctxB listB at g;rw[List.append_assoc]at g;exact absurd g no_num
 ·cases g
theorem caus_not (h1:ToTreeS bs t r1 b1) (h2:CtxS r1 cs r2 false) (hr:¬RK (t,cs)):∀ k' x,RK k'→bs≠causB k'++x:=fun k' x hk e=>by
 rw[caus_yes h1 h2]at e;obtain⟨e,_⟩:=pre_caus _ _ _ _ e;rw[← e]at hk;exact hr hk
end
set_option maxRecDepth 100000 in
set_option maxHeartbeats 4000000 in
theorem tocaus_any (bs:List UInt8) (n:Nat) (A:Option Addr) (c:Nat) (bad:Bool) (w:World) {B:Nat} (hl:bs.length=n) (hn:n≤2000) (hB:B≤w.heap.size) (hr:Rd w B 1 A n c (u8s bs)) (hb:bad=true→bs=[]) :
  Calls Tryz.prog 36 #[.agg #[.slice A n c,.bool bad]] w fun e w'=>∃ (k:K) (Ae:Option Addr) (ne ce:Nat) (Ak:Option Addr) (nk ck:Nat) (Ca:Option Addr) (na ca:Nat) (rest:List UInt8) (m:Nat) (A':Option Addr) (c':Nat) (b:Bool),e = .returned (.tuple #[.agg #[.slice Ae ne ce,.slice Ak nk ck,.slice Ca na ca],.agg #[.slice A' m c',.bool b]])∧RdO w' (fun b=>w.heap.size≤b) k.1 ⟨Ae,ne,ce⟩ ⟨Ak,nk,ck⟩∧k.2.length=na∧Own w' w.heap.size 100 3 Ca na ca (spsC k.2)∧rest.length=m∧Rd w' B 1 A' m c' (u8s rest)∧CausS bs k rest b∧Below w.heap.size w w':=by
 obtain⟨g,hg⟩:∃ g,g=w.heap.size:=⟨_,rfl⟩;obtain⟨W,hW⟩:∃ W,W=(((w.alloc (.cells #[.slice A n c,.bool bad] 51)).alloc (.cells #[.slice none 0 0,.slice none 0 0,.slice none 0 0] 37)).alloc (.cells #[.slice none 0 0,.bool false] 51)).alloc (.cells #[.slice none 0 0,.slice none 0 0,.slice none 0 0] 37):=⟨_,rfl⟩
 have hbW:Below w.heap.size w W:=by
  rw[hW];exact ((((Below.refl _ _).alloc (Nat.le_refl _) _).alloc (by simp) _).alloc (by simp;omega) _).alloc (by simp;omega) _
 have hgw:w.heap.size≤g:=by omega
 have hBg:B≤g:=by omega
 have hgW:W.heap.size=g+4:=by rw[hW,hg];simp
 have n01:¬g=g+1:=by omega
 have n02:¬g=g+2:=by omega
 have n03:¬g=g+3:=by omega
 have n10:¬g+1=g:=by omega
 have n12:¬g+1=g+2:=by omega
 have n13:¬g+1=g+3:=by omega
 have n20:¬g+2=g:=by omega
 have n21:¬g+2=g+1:=by omega
 have n23:¬g+2=g+3:=by omega
 have n30:¬g+3=g:=by omega
 have n31:¬g+3=g+1:=by omega
 have n32:¬g+3=g+2:=by omega
 have HK0:Hid (Kept [(⟨g,0,none⟩,.slice A n c),(⟨g,1,none⟩,.bool bad),(⟨g+1,0,none⟩,.slice none 0 0),(⟨g+1,1,none⟩,.slice none 0 0),(⟨g+1,2,none⟩,.slice none 0 0),(⟨g+2,0,none⟩,.slice none 0 0),(⟨g+2,1,none⟩,.bool false),(⟨g+3,0,none⟩,.slice none 0 0),(⟨g+3,1,none⟩,.slice none 0 0),(⟨g+3,2,none⟩,.slice none 0 0)] w W):=by
  have h1:=Kept.nil_of hbW
  refine ((((((((((h1.cons_of ?_).cons_of ?_).cons_of ?_).cons_of ?_).cons_of ?_).cons_of ?_).cons_of ?_).cons_of ?_).cons_of ?_).cons_of ?_) <;> (rw[hW,hg];go_simp)
 have HF0:Hid (Free g W∧Free (g+1) W∧Free (g+2) W∧Free (g+3) W):=by
  refine⟨?_,?_,?_,?_⟩ <;> (rw[hW,hg];exact⟨by simp <;> omega,fun j=>by go_simp⟩)
 have hB1:B≤W.heap.size:=Nat.le_trans hB hbW.size;have HC:=Lib.hid (totree_any bs n A c bad W hl (by omega) hB1 (hr.below (hbW.mono hB)) hb);have HL:=Lib.hid hl;have HBB:=Lib.hid hB;have HW:=Lib.hid hW;have HG:=Lib.hid hg;have HGW:=Lib.hid hgW;have k0:=HK0.out.c0;have k1:=HK0.out.c1;clear hl hr hb hbW hW hg hB hB1 hgW;go_enter Tryz.func36,Tryz.ntmps36;go_wp2_with fail;rw[← HG.out,← HW.out];refine HC.out.mono ?_;rintro e w2 ⟨t,Ae,ne,ce,Ak,nk,ck,r1,m1,A1,C1,b1,rfl,hro,hm,hrd,hts,hb2⟩;have HK2:=Lib.hid (HK0.out.later hb2);have HF20:=HF0.out.1.later hb2;have HF21:=HF0.out.2.1.later hb2;have HF22:=HF0.out.2.2.1.later hb2;have HF23:=HF0.out.2.2.2.later hb2;clear k0 k1;obtain⟨k0,k1,k2,k3,k4,k5,k6,k7,-⟩:=HK2.out.cj;have k8:=HK2.out.t8.c0;have k9:=HK2.out.t8.c1
 have f0:=HF20.2 0;have f1:=HF20.2 1;have f30:=HF23.2 0;have f31:=HF23.2 1;obtain⟨w3,hw3⟩:∃ W,W=(((w2.setCell ⟨g+3,0,none⟩ (.slice Ae ne ce)).setCell ⟨g+3,1,none⟩ (.slice Ak nk ck)).setCell ⟨g,0,none⟩ (.slice A1 m1 C1)).setCell ⟨g,1,none⟩ (.bool b1):=⟨_,rfl⟩
 have hbg:Below g w2 w3:=by
  rw[hw3];exact ((((Below.refl g w2).setCell (p:=⟨g+3,0,none⟩) (by dsimp only;omega) _).setCell (p:=⟨g+3,1,none⟩) (by dsimp only;omega) _).setCell (p:=⟨g,0,none⟩) (Nat.le_refl _) _).setCell (p:=⟨g,1,none⟩) (Nat.le_refl _) _
 have HK3:Hid (Kept [(⟨g,0,none⟩,.slice A1 m1 C1),(⟨g,1,none⟩,.bool b1),(⟨g+1,0,none⟩,.slice none 0 0),(⟨g+1,1,none⟩,.slice none 0 0),(⟨g+1,2,none⟩,.slice none 0 0),(⟨g+2,0,none⟩,.slice none 0 0),(⟨g+2,1,none⟩,.bool false),(⟨g+3,0,none⟩,.slice Ae ne ce),(⟨g+3,1,none⟩,.slice Ak nk ck),(⟨g+3,2,none⟩,.slice none 0 0)] w w3):=by
  have h1:=Kept.nil_of (HK2.out.below.trans (hbg.mono hgw))
  refine ((((((((((h1.cons_of ?_).cons_of ?_).cons_of ?_).cons_of ?_).cons_of ?_).cons_of ?_).cons_of ?_).cons_of ?_).cons_of ?_).cons_of ?_) <;> (rw[hw3];go_simp)
 have HF30:Hid (Free g w3):=by unfold Hid;rw[hw3];exact (((HF20.set _ _).set _ _).set _ _).set _ _
 have HF31:Hid (Free (g+1) w3):=by unfold Hid;rw[hw3];exact (((HF21.set _ _).set _ _).set _ _).set _ _
 have HF32:Hid (Free (g+2) w3):=by unfold Hid;rw[hw3];exact (((HF22.set _ _).set _ _).set _ _).set _ _
 have HF33:Hid (Free (g+3) w3):=by unfold Hid;rw[hw3];exact (((HF23.set _ _).set _ _).set _ _).set _ _
 have HRD3:Hid (Rd w3 B 1 A1 m1 C1 (u8s r1)):=hrd.below (hbg.mono hBg)
 have HT3:Hid (RdO w3 (fun z=>g+4≤z) t ⟨Ae,ne,ce⟩ ⟨Ak,nk,ck⟩):=by
  have h1:=RdO.mono (ok':=fun z=>g+4≤z) (fun z hz _=>by have:=HGW.out;omega) _ hro;refine RdO.keep (by rw[hw3];simp[World.setCell]) (fun z hz _=>?_) _ h1;rw[hw3];exact (((Below.heap_setCell _ ⟨g,1,none⟩ _ z (by dsimp only;omega)).trans (Below.heap_setCell _ ⟨g,0,none⟩ _ z (by dsimp only;omega))).trans (Below.heap_setCell _ ⟨g+3,1,none⟩ _ z (by dsimp only;omega))).trans (Below.heap_setCell _ ⟨g+3,0,none⟩ _ z (by dsimp only;omega))
 have hb1:b1=true→r1=[]:=fun h=>by rcases hts with h2 | h2 <;> simp_all
 have hr1:r1.length≤2000:=by
  have h3:=HL.out
  rcases hts with ⟨_,h,_⟩ | ⟨_,h,_⟩
  ·have h2:=congrArg List.length h
   rw[List.length_append]at h2;omega
  ·rw[h];simp
 have hnt:nodes t≤2000:=by
  have h3:=HL.out;have h1:=nodes_le t
  rcases hts with ⟨_,h,_⟩ | ⟨_,_,h,_⟩
  ·have h2:=congrArg List.length h
   rw[List.length_append]at h2;omega
  ·rw[h];simp[none_,nodes_mk]
 have HC3:=Lib.hid (toctx_any r1 m1 A1 C1 b1 w3 hm (by omega) (Nat.le_trans HBB.out HK3.out.below.size) HRD3.out hb1);have HTS:=Lib.hid hts;have HR1:=Lib.hid hr1;have HNT:=Lib.hid hnt;have HW3:=Lib.hid hw3;clear hro hm hrd hts hb2 hbg HC hb1 hr1 hnt hw3 HF20 HF21 HF22 HF23;go_wp2_with fail;rw[← HW3.out];refine HC3.out.mono ?_;rintro e w4 ⟨cs,r2,na,Ca,ca,m2,A2,C2,b2,rfl,hlc,hoc,hm2,hrd2,hcs,hb4⟩;have HK4:=Lib.hid (HK3.out.later hb4.out);have HF40:=HF30.out.later hb4.out;have HF41:=HF31.out.later hb4.out;have HF42:=HF32.out.later hb4.out;have HF43:=HF33.out.later hb4.out;have HT4:=HT3.out.later hb4.out;clear k0 k1 k2 k3 k4 k5 k6 k7 k8 k9 f0 f1 f30 f31;obtain⟨k0,k1,k2,k3,k4,k5,k6,k7,-⟩:=HK4.out.cj;have k8:=HK4.out.t8.c0;have k9:=HK4.out.t8.c1;have f0:=HF40.2 0;have f1:=HF40.2 1;have f32:=HF43.2 2;obtain⟨wq,hwq⟩:∃ W,W=((w4.setCell ⟨g+3,2,none⟩ (.slice Ca na ca)).setCell ⟨g,0,none⟩ (.slice A2 m2 C2)).setCell ⟨g,1,none⟩ (.bool b2):=⟨_,rfl⟩
 have hbg:Below g w4 wq:=by
  rw[hwq];exact (((Below.refl g w4).setCell (p:=⟨g+3,2,none⟩) (by dsimp only;omega) _).setCell (p:=⟨g,0,none⟩) (Nat.le_refl _) _).setCell (p:=⟨g,1,none⟩) (Nat.le_refl _) _
 have HKz:Hid (Kept [(⟨g,0,none⟩,.slice A2 m2 C2),(⟨g,1,none⟩,.bool b2),(⟨g+1,0,none⟩,.slice none 0 0),(⟨g+1,1,none⟩,.slice none 0 0),(⟨g+1,2,none⟩,.slice none 0 0),(⟨g+2,0,none⟩,.slice none 0 0),(⟨g+2,1,none⟩,.bool false),(⟨g+3,0,none⟩,.slice Ae ne ce),(⟨g+3,1,none⟩,.slice Ak nk ck),(⟨g+3,2,none⟩,.slice Ca na ca)] w wq):=by
  have h1:=Kept.nil_of (HK4.out.below.trans (hbg.mono hgw))
  refine ((((((((((h1.cons_of ?_).cons_of ?_).cons_of ?_).cons_of ?_).cons_of ?_).cons_of ?_).cons_of ?_).cons_of ?_).cons_of ?_).cons_of ?_) <;> (rw[hwq];go_simp)
 have HFz1:Hid (Free (g+1) wq):=by unfold Hid;rw[hwq];exact ((HF41.set _ _).set _ _).set _ _
 have HFz2:Hid (Free (g+2) wq):=by unfold Hid;rw[hwq];exact ((HF42.set _ _).set _ _).set _ _
 have HRDz:Hid (Rd wq B 1 A2 m2 C2 (u8s r2)):=hrd2.out.below (hbg.mono hBg)
 have HTz:Hid (RdO wq (fun z=>g+4≤z) t ⟨Ae,ne,ce⟩ ⟨Ak,nk,ck⟩):=by
  refine RdO.keep (by rw[hwq];simp[World.setCell]) (fun z hz _=>?_) _ HT4;rw[hwq];exact ((Below.heap_setCell _ ⟨g,1,none⟩ _ z (by dsimp only;omega)).trans (Below.heap_setCell _ ⟨g,0,none⟩ _ z (by dsimp only;omega))).trans (Below.heap_setCell _ ⟨g+3,2,none⟩ _ z (by dsimp only;omega))
 have HOz:Hid (Own wq (g+4) 100 3 Ca na ca (spsC cs)):=by
  have h1:=hoc.out.mono (show g+4≤w3.heap.size by have:=HF33.out.1;omega);unfold Hid;rw[hwq];exact ((h1.set_below (a:=⟨g+3,2,none⟩) (by dsimp only;omega) _).set_below (a:=⟨g,0,none⟩) (by dsimp only;omega) _).set_below (a:=⟨g,1,none⟩) (by dsimp only;omega) _
 have hnc:na≤2000:=by
  have h3:=HR1.out;have h4:=hlc.out
  rcases hcs.out with ⟨_,h,_⟩ | ⟨_,_,h,_⟩
  ·have h2:=congrArg List.length h
   have h5:=list_len (f:=spB) (l:=cs) fun s _=>by unfold spB;have:=numB_pos s.1;simp only[List.length_append];omega
   unfold ctxB listB at h2;simp only[List.length_append]at h2;omega
  ·rw[h]at h4;simp at h4;omega
 have HM2:=Lib.hid hm2.out;have HLC:=Lib.hid hlc.out;have HCS:=Lib.hid hcs.out;have HNC:=Lib.hid hnc;have HWQ:=Lib.hid hwq;clear hlc hoc hm2 hrd2 hcs hb4 hbg HC3 hnc hwq HF40 HF41 HF42 HF43 HT4
 cases b2 with
 | true=>
  have HNO:=Lib.hid (caus_no HTS.out HCS.out);go_wp2_with fail
  try rw[← HWQ.out]
  refine (bad_any16 wq).mono ?_;rintro e w4 ⟨rfl,hb4⟩;have HK4:=Lib.hid (HKz.out.later hb4.out);have HF41:=Lib.hid (HFz1.out.later hb4.out);have HF42:=Lib.hid (HFz2.out.later hb4.out);clear k0 k1;have g10:=HF41.out.2 0;have g11:=HF41.out.2 1;have g12:=HF41.out.2 2;have g20:=HF42.out.2 0;have g21:=HF42.out.2 1;obtain⟨k0,k1,k2,k3,k4,k5,k6,k7,-⟩:=HK4.out.cj;have k8:=HK4.out.t8.c0;have k9:=HK4.out.t8.c1;obtain⟨W5,hW5⟩:∃ W,W=((((w4.setCell ⟨g+1,0,none⟩ (.slice none 0 0)).setCell ⟨g+1,1,none⟩ (.slice none 0 0)).setCell ⟨g+1,2,none⟩ (.slice none 0 0)).setCell ⟨g+2,0,none⟩ (.slice none 0 0)).setCell ⟨g+2,1,none⟩ (.bool true):=⟨_,rfl⟩
  have l0:W5.cell? ⟨g+1,0,none⟩=some (.slice none 0 0):=by rw[hW5];go_simp
  have l1:W5.cell? ⟨g+1,1,none⟩=some (.slice none 0 0):=by rw[hW5];go_simp
  have l2:W5.cell? ⟨g+1,2,none⟩=some (.slice none 0 0):=by rw[hW5];go_simp
  have l4:W5.cell? ⟨g+2,0,none⟩=some (.slice none 0 0):=by rw[hW5];go_simp
  have l5:W5.cell? ⟨g+2,1,none⟩=some (.bool true):=by rw[hW5];go_simp
  have hbz:∀ {B0:Nat} {w0:World},B0≤g+1→Below B0 w0 w4→Below B0 w0 W5:=fun hB h=>by
   rw[hW5];exact (((((h.setCell (p:=⟨g+1,0,none⟩) (by dsimp only;omega) _).setCell (p:=⟨g+1,1,none⟩) (by dsimp only;omega) _).setCell (p:=⟨g+1,2,none⟩) (by dsimp only;omega) _).setCell (p:=⟨g+2,0,none⟩) (by dsimp only;omega) _).setCell (p:=⟨g+2,1,none⟩) (by dsimp only;omega) _)
  have hsz5:w4.heap.size≤W5.heap.size:=by rw[hW5];simp[World.setCell]
  have hkp5:∀ z,g+4≤z→z<w4.heap.size→W5.heap[z]?=w4.heap[z]?:=fun z hz _=>by
   rw[hW5];exact ((((Below.heap_setCell _ ⟨g+2,1,none⟩ _ z (by dsimp only;omega)).trans (Below.heap_setCell _ ⟨g+2,0,none⟩ _ z (by dsimp only;omega))).trans (Below.heap_setCell _ ⟨g+1,2,none⟩ _ z (by dsimp only;omega))).trans (Below.heap_setCell _ ⟨g+1,1,none⟩ _ z (by dsimp only;omega))).trans (Below.heap_setCell _ ⟨g+1,0,none⟩ _ z (by dsimp only;omega))
  have HB5:=Lib.hid (hbz (by omega) HK4.out.below);have HW5:=Lib.hid hW5;clear hb4 hW5 hbz hsz5 hkp5;go_wp2;rw[← HW5.out];exact bodyPost_ret (v:=.tuple #[.agg #[.slice none 0 0,.slice none 0 0,.slice none 0 0],.agg #[.slice none 0 0,.bool true]]) (by simp[results,Tryz.results36,go_sem,l0,l1,l2,l4,l5]) rfl ⟨(none_,[]),none,0,0,none,0,0,none,0,0,[],0,none,0,true,rfl,RdO.none _ _ _ _ _ _,rfl,⟨World.ownsRow_nil _ _ _ _,by simp[spsC]⟩,rfl,Rd.nil _,.inr ⟨rfl,rfl,rfl,HNO.out⟩,HB5.out⟩
 | false=>
  obtain⟨z,hz⟩:∃ z,rightKB (t,cs)=z:=⟨_,rfl⟩;have HC7:=Lib.hid (Cs.refrightK_any t cs Ae Ak Ca ne nk ce ck na ca wq (by have:=HNT.out;omega) HLC.out (by have:=HNC.out;omega) (RdO.rd _ HTz.out) HOz.out.rd (by have:=HNT.out;omega));rw[hz]at HC7;have HZZ:=Lib.hid hz;clear hz;go_wp2_with fail;rw[← HWQ.out];refine HC7.out.mono ?_;rintro e w7 ⟨rfl,hb7⟩;have HKz0:=HKz.out;have HFz10:=HFz1.out;have HFz20:=HFz2.out;have HKz:=Lib.hid (HKz0.later hb7);have HFz1:=Lib.hid (HFz10.later hb7);have HFz2:=Lib.hid (HFz20.later hb7);have HR7:Hid (Rd w7 B 1 A2 m2 C2 (u8s r2)):=HRDz.out.below (hb7.mono (Nat.le_trans HBB.out HKz0.below.size));have HT7:=Lib.hid (HTz.out.later hb7);have HO7:=Lib.hid (own_later HOz.out hb7);clear hb7 HKz0 HFz10 HFz20 HC7 k0 k1 k2 k3 k4 k5 k6 k7 k8 k9 f0 f1 f32;have k0:=HKz.out.c0;have k1:=HKz.out.c1
  cases z with
  | false=>
   have HNO:=Lib.hid (caus_not HTS.out HCS.out (fun h=>by have h1:=rightKB_iff.2 h;rw[HZZ.out]at h1;cases h1));go_wp2_with fail;refine (bad_any16 w7).mono ?_;rintro e w4 ⟨rfl,hb4⟩;have HK4:=Lib.hid (HKz.out.later hb4.out);have HF41:=Lib.hid (HFz1.out.later hb4.out);have HF42:=Lib.hid (HFz2.out.later hb4.out);clear k0 k1;have g10:=HF41.out.2 0;have g11:=HF41.out.2 1;have g12:=HF41.out.2 2;have g20:=HF42.out.2 0;have g21:=HF42.out.2 1;obtain⟨k0,k1,k2,k3,k4,k5,k6,k7,-⟩:=HK4.out.cj;have k8:=HK4.out.t8.c0;have k9:=HK4.out.t8.c1;obtain⟨W5,hW5⟩:∃ W,W=((((w4.setCell ⟨g+1,0,none⟩ (.slice none 0 0)).setCell ⟨g+1,1,none⟩ (.slice none 0 0)).setCell ⟨g+1,2,none⟩ (.slice none 0 0)).setCell ⟨g+2,0,none⟩ (.slice none 0 0)).setCell ⟨g+2,1,none⟩ (.bool true):=⟨_,rfl⟩
   have l0:W5.cell? ⟨g+1,0,none⟩=some (.slice none 0 0):=by rw[hW5];go_simp
   have l1:W5.cell? ⟨g+1,1,none⟩=some (.slice none 0 0):=by rw[hW5];go_simp
   have l2:W5.cell? ⟨g+1,2,none⟩=some (.slice none 0 0):=by rw[hW5];go_simp
   have l4:W5.cell? ⟨g+2,0,none⟩=some (.slice none 0 0):=by rw[hW5];go_simp
   have l5:W5.cell? ⟨g+2,1,none⟩=some (.bool true):=by rw[hW5];go_simp
   have hbz:∀ {B0:Nat} {w0:World},B0≤g+1→Below B0 w0 w4→Below B0 w0 W5:=fun hB h=>by
    rw[hW5];exact (((((h.setCell (p:=⟨g+1,0,none⟩) (by dsimp only;omega) _).setCell (p:=⟨g+1,1,none⟩) (by dsimp only;omega) _).setCell (p:=⟨g+1,2,none⟩) (by dsimp only;omega) _).setCell (p:=⟨g+2,0,none⟩) (by dsimp only;omega) _).setCell (p:=⟨g+2,1,none⟩) (by dsimp only;omega) _)
   have hsz5:w4.heap.size≤W5.heap.size:=by rw[hW5];simp[World.setCell]
   have hkp5:∀ z,g+4≤z→z<w4.heap.size→W5.heap[z]?=w4.heap[z]?:=fun z hz _=>by
    rw[hW5];exact ((((Below.heap_setCell _ ⟨g+2,1,none⟩ _ z (by dsimp only;omega)).trans (Below.heap_setCell _ ⟨g+2,0,none⟩ _ z (by dsimp only;omega))).trans (Below.heap_setCell _ ⟨g+1,2,none⟩ _ z (by dsimp only;omega))).trans (Below.heap_setCell _ ⟨g+1,1,none⟩ _ z (by dsimp only;omega))).trans (Below.heap_setCell _ ⟨g+1,0,none⟩ _ z (by dsimp only;omega))
   have HB5:=Lib.hid (hbz (by omega) HK4.out.below);have HW5:=Lib.hid hW5;clear hb4 hW5 hbz hsz5 hkp5;go_wp2;rw[← HW5.out];exact bodyPost_ret (v:=.tuple #[.agg #[.slice none 0 0,.slice none 0 0,.slice none 0 0],.agg #[.slice none 0 0,.bool true]]) (by simp[results,Tryz.results36,go_sem,l0,l1,l2,l4,l5]) rfl ⟨(none_,[]),none,0,0,none,0,0,none,0,0,[],0,none,0,true,rfl,RdO.none _ _ _ _ _ _,rfl,⟨World.ownsRow_nil _ _ _ _,by simp[spsC]⟩,rfl,Rd.nil _,.inr ⟨rfl,rfl,rfl,HNO.out⟩,HB5.out⟩
  | true=>
   clear k0 k1;have g10:=HFz1.out.2 0;have g11:=HFz1.out.2 1;have g12:=HFz1.out.2 2;have g20:=HFz2.out.2 0;have g21:=HFz2.out.2 1;obtain⟨k0,k1,k2,k3,k4,k5,k6,k7,-⟩:=HKz.out.cj;have k8:=HKz.out.t8.c0;have k9:=HKz.out.t8.c1;obtain⟨W5,hW5⟩:∃ W,W=((((w7.setCell ⟨g+1,0,none⟩ (.slice Ae ne ce)).setCell ⟨g+1,1,none⟩ (.slice Ak nk ck)).setCell ⟨g+1,2,none⟩ (.slice Ca na ca)).setCell ⟨g+2,0,none⟩ (.slice A2 m2 C2)).setCell ⟨g+2,1,none⟩ (.bool false):=⟨_,rfl⟩
   have l0:W5.drew.cell? ⟨g+1,0,none⟩=some (.slice Ae ne ce):=by rw[hW5];go_simp
   have l1:W5.drew.cell? ⟨g+1,1,none⟩=some (.slice Ak nk ck):=by rw[hW5];go_simp
   have l2:W5.drew.cell? ⟨g+1,2,none⟩=some (.slice Ca na ca):=by rw[hW5];go_simp
   have l4:W5.drew.cell? ⟨g+2,0,none⟩=some (.slice A2 m2 C2):=by rw[hW5];go_simp
   have l5:W5.drew.cell? ⟨g+2,1,none⟩=some (.bool false):=by rw[hW5];go_simp
   have hbz:∀ {B0:Nat} {w0:World},B0≤g+1→Below B0 w0 w7→Below B0 w0 W5.drew:=fun hB h=>by
    rw[hW5];exact (((((h.setCell (p:=⟨g+1,0,none⟩) (by dsimp only;omega) _).setCell (p:=⟨g+1,1,none⟩) (by dsimp only;omega) _).setCell (p:=⟨g+1,2,none⟩) (by dsimp only;omega) _).setCell (p:=⟨g+2,0,none⟩) (by dsimp only;omega) _).setCell (p:=⟨g+2,1,none⟩) (by dsimp only;omega) _).drew
   have hsz5:w7.heap.size≤W5.drew.heap.size:=by rw[hW5];simp[World.setCell]
   have hkp5:∀ z,g+4≤z→z<w7.heap.size→W5.drew.heap[z]?=w7.heap[z]?:=fun z hz _=>by
    rw[hW5];exact ((((Below.heap_setCell _ ⟨g+2,1,none⟩ _ z (by dsimp only;omega)).trans (Below.heap_setCell _ ⟨g+2,0,none⟩ _ z (by dsimp only;omega))).trans (Below.heap_setCell _ ⟨g+1,2,none⟩ _ z (by dsimp only;omega))).trans (Below.heap_setCell _ ⟨g+1,1,none⟩ _ z (by dsimp only;omega))).trans (Below.heap_setCell _ ⟨g+1,0,none⟩ _ z (by dsimp only;omega))
   have HB5:=Lib.hid (hbz (by omega) HKz.out.below);have HRD5:Hid (Rd W5.drew B 1 A2 m2 C2 (u8s r2)):=HR7.out.below (hbz (by omega) (Below.refl B _));have HT5:Hid (RdO W5.drew (fun z=>w.heap.size≤z) t ⟨Ae,ne,ce⟩ ⟨Ak,nk,ck⟩):=RdO.mono (fun z hz _=>by omega) _ (RdO.keep (ok:=fun z=>g+4≤z) hsz5 (fun z hz hlt=>hkp5 z hz hlt) _ HT7.out)
   have HO5:Hid (Own W5.drew w.heap.size 100 3 Ca na ca (spsC cs)):=by
    unfold Hid;rw[hW5];exact (own_later (((((HO7.out.set_below (a:=⟨g+1,0,none⟩) (by dsimp only;omega) _).set_below (a:=⟨g+1,1,none⟩) (by dsimp only;omega) _).set_below (a:=⟨g+1,2,none⟩) (by dsimp only;omega) _).set_below (a:=⟨g+2,0,none⟩) (by dsimp only;omega) _).set_below (a:=⟨g+2,1,none⟩) (by dsimp only;omega) _) (bel_drewN (Below.refl _ _) 1)).mono (by omega)
   have HOK:Hid (CausS bs (t,cs) r2 false):=.inl ⟨rfl,caus_yes HTS.out HCS.out,rightKB_iff.1 HZZ.out⟩;have HW5:=Lib.hid hW5;clear hW5 hbz hsz5 hkp5;go_wp2_with fail
   go_region
   all_goals
    go_wp2;rw[← HW5.out];exact bodyPost_ret (v:=.tuple #[.agg #[.slice Ae ne ce,.slice Ak nk ck,.slice Ca na ca],.agg #[.slice A2 m2 C2,.bool false]]) (by simp[results,Tryz.results36,go_sem,l0,l1,l2,l4,l5]) rfl ⟨(t,cs),Ae,ne,ce,Ak,nk,ck,Ca,na,ca,r2,m2,A2,C2,false,rfl,HT5.out,HLC.out,HO5.out,HM2.out,HRD5.out,HOK.out,HB5.out⟩
end Pk
end Go.Proofs.YtcbpgemiffmieaaGreat
namespace Go.Proofs.YtcbpgemiffmieaaGreat
open Go.ChangeShapes Go.WideShapes Go.ChangeAt Go.RowKit
namespace Cs
open Tr Cx Sp Rw Classical
set_option maxRecDepth 100000 in
set_option maxHeartbeats 4000000 in
theorem refshort_any (xp:List ByteArray) (xa:Int) (xs:ByteArray) (xv:Int) (xA:Option Addr) (xn xc:Nat) (w:World) (hrx:Rd w w.heap.size 1 xA xn xc (strs xp)) :
  Calls Tryz.prog 38 #[.agg #[.slice xA xn xc,.int .i64 xa,.string xs,.int .i64 xv]] w fun e w'=>∃ z:Bool,e = .returned (.bool z)∧Hid (z=true→xn≤9)∧Below w.heap.size w w':=by
 obtain⟨g,hg⟩:∃ g,g=w.heap.size:=⟨_,rfl⟩;obtain⟨W,hW⟩:∃ W,W=w.alloc (.cells #[.slice xA xn xc,.int .i64 xa,.string xs,.int .i64 xv] 40):=⟨_,rfl⟩
 have hb0:Below w.heap.size w W:=by rw[hW];exact Dt.box_below _ _ _
 have hsz:W.heap.size=g+1:=by rw[hW,hg];simp
 have HKc:Hid (Kept [(⟨g,0,none⟩,.slice xA xn xc),(⟨g,1,none⟩,.int .i64 xa),(⟨g,2,none⟩,.string xs),(⟨g,3,none⟩,.int .i64 xv)] w W):=by
  have h0:=Kept.nil_of hb0
  refine (((h0.cons_of ?_).cons_of ?_).cons_of ?_).cons_of ?_ <;> (rw[hW,hg];go_simp)
 have HRX:=Lib.hid (hrx.later hb0);have HLX:=Lib.hid (rd_len1 hrx);have HG:=Lib.hid hg;have HW:=Lib.hid hW;clear hg hW hb0 hsz
 by_cases h9:9<xn
 ·have f9:decide ((9:Int)<(xn:Int))=true:=decide_eq_true (by omega)
  obtain⟨c0,c1,c2,c3,-⟩:=HKc.out.cj;rw[HW.out]at c0 c1 c2 c3;rw[HG.out]at c0 c1 c2 c3;go_enter Tryz.func38,Tryz.ntmps38;go_wp2_with fail;go_ret;exact⟨false,rfl,fun h=>(by cases h),by have h:=HKc.out.below;rw[HW.out]at h;exact h⟩
 have f9:decide ((9:Int)<(xn:Int))=false:=decide_eq_false (by omega)
 by_cases h99:99<xs.size
 ·have f8:decide ((99:Int)<(xs.size:Int))=true:=decide_eq_true (by omega)
  obtain⟨c0,c1,c2,c3,-⟩:=HKc.out.cj;rw[HW.out]at c0 c1 c2 c3;rw[HG.out]at c0 c1 c2 c3;go_enter Tryz.func38,Tryz.ntmps38;go_wp2_with fail;go_ret;exact⟨false,rfl,fun h=>(by cases h),by have h:=HKc.out.below;rw[HW.out]at h;exact h⟩
 have f8:decide ((99:Int)<(xs.size:Int))=false:=decide_eq_false (by omega)
 have HN9:Hid (xn≤9):=by unfold Hid;omega
 obtain⟨c0,c1,c2,c3,-⟩:=HKc.out.cj;rw[HW.out]at c0 c1 c2 c3;rw[HG.out]at c0 c1 c2 c3;go_enter Tryz.func38,Tryz.ntmps38;go_wp2_with fail;rw[← HG.out,← HW.out];clear c0 c1 c2 c3 h9 h99 f9 f8
 go_loopw [17] (fun i wr=>∃ (k:Nat),k≤xn∧i = .int .i64 k∧Hid (Kept [(⟨g,0,none⟩,.slice xA xn xc),(⟨g,1,none⟩,.int .i64 xa),(⟨g,2,none⟩,.string xs),(⟨g,3,none⟩,.int .i64 xv)] w wr)) (fun i _=>xn-(intOf i).toNat)
 case atStart=>exact⟨0,by omega,rfl,HKc.out⟩
 case round=>
  obtain⟨k,hk,rfl,HKW⟩:=hrel;have hk9:=HN9.out
  by_cases hlt:k<xn
  ·have hkl:k<xp.length:=by rw[HLX.out];exact hlt
   have HRW:=Lib.hid (Rd.more (Rd.below (hrx) HKW.out.below) HKW.out.below.size);obtain⟨b,o,rfl,hgl,hc⟩:=rd_text HRW.out (by omega);have q0:=hc k hkl;obtain⟨x,hx⟩:∃ x,x=xp[k]:=⟨_,rfl⟩;rw[← hx]at q0;have c0:=HKW.out.c0;clear hc hx hgl
   by_cases h7:99<x.size
   ·have f7:decide ((99:Int)<(x.size:Int))=true:=decide_eq_true (by omega)
    clear h7;go_wp2_with fail;go_ret;exact⟨false,rfl,fun h=>(by cases h),HKW.out.below⟩
   ·have f7:decide ((99:Int)<(x.size:Int))=false:=decide_eq_false (by omega)
    clear h7;go_wp2_with fail;go_roundw
    case rel=>exact⟨k+1,by omega,by go_num,HKW.out⟩
    case measure=>simp[intOf];omega
  ·obtain rfl:k=xn:=by omega
   go_wp2_with fail;go_ret;exact⟨true,rfl,fun _=>HN9.out,HKW.out.below⟩
end Cs
end Go.Proofs.YtcbpgemiffmieaaGreat
namespace Go.Proofs.YtcbpgemiffmieaaGreat
open Go.ChangeShapes Go.WideShapes Go.ChangeAt Go.RowKit
namespace Cs
open Tr Cx Sp Rw Classical
set_option maxRecDepth 100000
theorem wfu8 {n:Int} (h:(Lit.int .u8 n).wf=true):0≤n∧n≤255:=by
 have e1:IntKind.u8.min=0:=by decide
 have e2:IntKind.u8.max=255:=by decide
 simp[Lit.wf,e1,e2]at h;exact h
theorem slice_of_trod {H:Type} {enc:TypeId×Value→H} {W:World} {fuel:Nat} {u:Value} {y:DataW H×List MemPlace} (h:DataW.trod enc Tryz.prog W 0 (fun _=>true) true fuel 38 [u]=some y):∃ (A:Option Addr) (n c:Nat) (l:List ByteArray),u = .slice A n c∧Rd W W.heap.size 1 A n c (Tr.strs l):=by
 obtain⟨A,n,c,rfl⟩:∃ A n c,u = .slice A n c:=by
  rcases DataW.trod_slice Tryz.underlying38 h with ⟨e,_⟩ | ⟨a,len,cap,_,_,_,_,e,_⟩ <;> exact⟨_,_,_,by simpa using e⟩
 obtain⟨l,_,h2,_⟩:=strs_of_trod (A:=A) (len:=n) (cap:=c) h;exact⟨A,n,c,l,rfl,h2⟩
theorem op_of_trod {H:Type} {enc:TypeId×Value→H} {W:World} {fuel:Nat} {cs:List Value} {y:DataW H×List MemPlace} (h:DataW.trod enc Tryz.prog W 0 (fun _=>true) true fuel 40 cs=some y):∃ (A:Option Addr) (n c:Nat) (o:OpM),cs=[.slice A n c,.int .i64 o.act,.string o.s,.int .i64 o.n]∧Rd W W.heap.size 1 A n c (Tr.strs o.path):=by
 obtain⟨f0,f1,f2,f3,hT,t0,o0,t1,o1,t2,o2,t3,o3⟩:∃ f0 f1 f2 f3:Field,Tryz.prog.underlying 40=some (.struct #[f0,f1,f2,f3])∧f0.type=38∧f0.offset=0∧f1.type=3∧f1.offset=1∧f2.type=9∧f2.offset=2∧f3.type=2∧f3.offset=3:=⟨_,_,_,_,Tryz.underlying40,rfl,rfl,rfl,rfl,rfl,rfl,rfl,rfl⟩;obtain⟨xs,n,rfl,rfl,hlen,hxl,hfs⟩:=DataW.trod_struct hT h
 have hc4:Tryz.prog.cellsOf 40=4:=by kernel_rfl
 have hcs:Tryz.prog.cellsOf 38=1:=by kernel_rfl
 have hci:Tryz.prog.cellsOf 3=1:=by kernel_rfl
 have hct:Tryz.prog.cellsOf 9=1:=by kernel_rfl
 have hcj:Tryz.prog.cellsOf 2=1:=by kernel_rfl
 rw[hc4]at hlen
 obtain⟨c0,c1,c2,c3,rfl⟩:∃ c0 c1 c2 c3,cs=[c0,c1,c2,c3]:=by
  match cs,hlen with
  | [c0,c1,c2,c3],_=>exact⟨_,_,_,_,rfl⟩
 obtain⟨x0,x1,x2,x3,rfl⟩:∃ x0 x1 x2 x3,xs=[x0,x1,x2,x3]:=by
  match xs,hxl with
  | [x0,x1,x2,x3],_=>exact⟨_,_,_,_,rfl⟩
 have h0:=hfs 0 f0 rfl;have h1:=hfs 1 f1 rfl;have h2:=hfs 2 f2 rfl;have h3:=hfs 3 f3 rfl;rw[t0,o0,hcs]at h0;rw[t1,o1,hci]at h1;rw[t2,o2,hct]at h2;rw[t3,o3,hcj]at h3
 simp at h0 h1 h2 h3
 obtain⟨A,n,c,l,rfl,hr⟩:=slice_of_trod h0;obtain⟨a,e1,_,_⟩:=DataW.trod_int Tryz.underlying3 h1;obtain⟨s,e2,_,_⟩:=DataW.trod_string Tryz.underlying9 h2;obtain⟨v,e3,_,_⟩:=DataW.trod_int Tryz.underlying2 h3
 simp at e1 e2 e3
 subst e1;subst e2;subst e3;exact⟨A,n,c,⟨l,a,s,v⟩,rfl,hr⟩
end Cs
end Go.Proofs.YtcbpgemiffmieaaGreat
