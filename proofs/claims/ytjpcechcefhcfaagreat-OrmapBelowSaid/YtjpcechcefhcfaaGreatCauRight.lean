/- What may be known: the program's, and the document's. -/
import Derived.Test.YtjpcechcefhcfaaGreatG00
import Derived.Test.YtjpcechcefhcfaaGreatCauTrees
import Derived.Test.YtjpcechcefhcfaaGreatTreeDots
import Derived.Test.YtjpcechcefhcfaaGreatG50
import Derived.Test.YtjpcechcefhcfaaGreatTreeRefRight
import Derived.Test.YtjpcechcefhcfaaGreatG20
set_option maxRecDepth 100000
set_option maxHeartbeats 4000000
namespace Go.Proofs.YtjpcechcefhcfaaGreat
open Go.ChangeShapes Go.WideShapes Go.ChangeAt Go.RowKit
namespace Cs
open Tr Cx Sp Rw Classical
theorem Calls.some {P:Program} {f:FuncId} {args:Array Value} {w:World} {R:Ending→World→Prop} (h:Calls P f args w R):∃ e w',R e w':=by
 obtain⟨e,w',_,hr,_⟩:=h [];exact⟨e,w',hr⟩
theorem empty_of {l:List S3} (hl:RightC l) (h:∀ d n,Cen d→hasC l d n=false):l=[]:=extC hl right_noneC fun d n hd=>by rw[h d n hd];rfl
theorem rightKB_of {t:T} {cs u l:List S3} (ht:rightB 5 t=true) (hc:RightC cs) (hu:OfC (dl t) u) (hl:PutC minF u cs l):rightKB (t,cs)=decide (l=[]):=by
 have hiff:RK (t,cs)↔l=[]:=by
  constructor
  ·intro h
   refine empty_of hl.right fun d n hd=>?_;rw[hl.has d n hd];unfold minF
   cases h1:hasC u d n with
   | false=>rfl
   | true=>
    have h2:=(hu.has d n hd).1 h1;unfold dl at h2;obtain⟨x,hx,he⟩:=List.mem_map.1 h2;have h3:=h.has x hx;have e1:x.2.a=d:=congrArg Prod.fst he;have e2:x.2.n=n:=congrArg Prod.snd he;rw[e1,e2]at h3;rw[show hasC cs d n=true from h3];rfl
  ·rintro rfl
   refine⟨rightB_iff.1 ht,hc,fun x hx=>?_⟩;have hm:(x.2.a,x.2.n)∈dl t:=List.mem_map.2 ⟨x,hx,rfl⟩;have hd:=(good_num (good_dl (rightB_iff.1 ht) _ hm)).1;have h1:=(hu.has x.2.a x.2.n hd).2 hm;have h2:=hl.has x.2.a x.2.n hd;rw[h1]at h2;have h3:hasC [] x.2.a x.2.n=false:=rfl;rw[h3]at h2;show hasC cs x.2.a x.2.n=true
   cases h4:hasC cs x.2.a x.2.n with
   | true=>rfl
   | false=>rw[h4]at h2;cases h2
 unfold rightKB
 by_cases h:l=[]
 ·rw[decide_eq_true h]
  exact decide_eq_true (hiff.2 h)
 ·rw[decide_eq_false h]
  exact decide_eq_false fun h2=>h (hiff.1 h2)
theorem rightKB_noT {t:T} {cs:List S3} (h:rightB 5 t=false):rightKB (t,cs)=false:=decide_eq_false fun h2=>by
 have h3:=rightB_iff.2 h2.tree;rw[h]at h3
 cases h3
theorem rightKB_noC {t:T} {cs:List S3} (h:¬RightC cs):rightKB (t,cs)=false:=decide_eq_false fun h2=>h h2.ctx
theorem boxC1 (w:World) (Ae Ak Ca:Option Addr) (ne nk ce ck na ca9:Nat):∃ (W:World) (p:Nat),Hid (W=w.alloc (.cells #[.slice Ae ne ce,.slice Ak nk ck,.slice Ca na ca9] 29))∧Hid (p=w.heap.size)∧Hid (Kept [(⟨p,0,none⟩,.slice Ae ne ce),(⟨p,1,none⟩,.slice Ak nk ck),(⟨p,2,none⟩,.slice Ca na ca9)] w W):=by
 refine⟨_,_,rfl,rfl,?_⟩;have h0:=Kept.nil_of (Dt.box_below w #[.slice Ae ne ce,.slice Ak nk ck,.slice Ca na ca9] 29)
 refine ((h0.cons_of ?_).cons_of ?_).cons_of ?_ <;> go_simp
theorem rightK_any (t:T) (cs:List S3) (Ae Ak Ca:Option Addr) (ne nk ce ck na ca9:Nat) (w:World) (hn:nodes t≤1000) (hl:cs.length=na) (hna:na≤1000) (hr:RdT w w.heap.size t ⟨Ae,ne,ce⟩ ⟨Ak,nk,ck⟩) (hc:Rd w w.heap.size 3 Ca na ca9 (spsC cs)) :
  Calls Tryz.prog 37 #[.agg #[.slice Ae ne ce,.slice Ak nk ck,.slice Ca na ca9]] w fun e w'=>e = .returned (.bool (rightKB (t,cs)))∧Below w.heap.size w w':=by
 obtain⟨z,hz⟩:∃ z,rightKB (t,cs)=z:=⟨_,rfl⟩;rw[hz];have HZ:=Lib.hid hz;have HR:=Lib.hid (And.intro hr (And.intro hl hc));have HN:=Lib.hid hn;clear hz hr hl hc hn;obtain⟨W,p,HW,HP,HK⟩:=boxC1 w Ae Ak Ca ne nk ce ck na ca9;have hb:=HK.out.below;obtain⟨c0,c1,c2,-⟩:=HK.out.cj;have HRT:=Lib.hid (RdT.more hb.size _ (RdT.below HR.out.1 hb));clear hb;go_enter Tryz.func37,Tryz.ntmps37;go_wp2_with fail;rw[← HP.out,← HW.out]
 cases hb:rightB 5 t with
 | false=>
  obtain rfl:z=false:=by rw[← HZ.out];exact rightKB_noT hb
  refine (dotsT_bad t Ae Ak ne nk ce ck W hb (LenT.few (by have:=HN.out;omega)) HRT.out).mono ?_;rintro e w1 ⟨rfl,hb1⟩;have HB1:=Lib.hid (HK.out.below.trans (hb1.mono HK.out.below.size));clear hb1 c0 c1 c2 hb;go_wp2_with fail;go_ret;exact⟨rfl,HB1.out⟩
 | true=>
  refine (dotsT_any t Ae Ak ne nk ce ck W hb (LenT.few (by have:=HN.out;omega)) HN.out HRT.out).mono ?_;rintro e w1 ⟨u,q,A,c,rfl,HUL,HOF,hq,HRU,hb1⟩;have HK1:=Lib.hid (HK.out.later hb1);have hcr:=(HR.out.2.2.below HK1.out.below).more HK1.out.below.size;have HT:=Lib.hid hb;clear hb1 c0 c1 c2 hb;have c2:=HK1.out.c2
  by_cases hc:RightC cs
  ·have HLQ:=Lib.hid (leqC_any u cs q na A Ca c ca9 w1 HUL.out HR.out.2.1 (by have:=HN.out;omega) (by omega) HRU.out hcr HOF.out.right hc)
   have HC:=Lib.hid hc;clear hcr hc;go_wp2_with fail;refine HLQ.out.mono ?_;rintro e w2 ⟨l,hpl,rfl,hb2⟩;have HB2:=Lib.hid (HK1.out.below.trans (hb2.mono HK1.out.below.size));obtain⟨y,hy⟩:∃ y,decide (l=[])=y:=⟨_,rfl⟩;rw[hy]
   have hzy:z=y:=by rw[← HZ.out,← hy];exact rightKB_of HT.out HC.out HOF.out hpl
   have HZY:=Lib.hid hzy;clear hpl hb2 hy hzy;go_wp2_with fail;go_ret;exact⟨by rw[HZY.out];try rfl,HB2.out⟩
  ·obtain rfl:z=false:=by rw[← HZ.out];exact rightKB_noC hc
   have HLQ:=Lib.hid (leqC_bad u cs q na A Ca c ca9 w1 HUL.out HR.out.2.1 (by have:=HN.out;omega) (by omega) HRU.out hcr (by rw[rightCB_false hc,Bool.and_false]));clear hcr hc;go_wp2_with fail;refine HLQ.out.mono ?_;rintro e w2 ⟨rfl,hb2⟩;have HB2:=Lib.hid (HK1.out.below.trans (hb2.mono HK1.out.below.size));clear hb2;go_wp2_with fail;go_ret;exact⟨rfl,HB2.out⟩
theorem refleqC_any (a b u:List S3) (n m q:Nat) (A B:Option Addr) (c d:Nat) (w:World) (hla:a.length=n) (hlb:b.length=m) (hlu:u.length=q) (hn:n≤1000) (hm:m≤1000) (hra:Rd w w.heap.size 3 A n c (spsC a)) (hrb:Rd w w.heap.size 3 B m d (spsC b)) (ha:RightC a) (hb:RightC b) (hu:PutC minF a b u) (huq:q≤800000) :
  Calls Tryz.prog 43 #[.slice A n c,.slice B m d] w fun e w'=>e = .returned (.bool (decide (u=[])))∧Below w.heap.size w w':=by
 have HC:=Lib.hid (refbyC_any minF 2 (.inr (.inr ⟨rfl,rfl⟩)) a b u n m q A B c d w hla hlb hlu hn hm hra hrb ha hb hu huq)
 have HE:Hid (decide (u=[])=((q:Int)==0)):=by
  unfold Hid;rw[← hlu]
  cases u with
  | nil=>rfl
  | cons x u=>
   rw[decide_eq_false (by simp)]
   symm
   rw[beq_eq_false_iff_ne];simp;omega
 clear hla hlb hra hrb ha hb hu hlu;go_enter Tryz.func43,Tryz.ntmps43;go_wp2_with (go_at_call 79;refine HC.out.mono ?_;rintro e w1 ⟨A1,c1,rfl,h1,h2⟩);go_ret;exact⟨by rw[HE.out];try rfl,h2⟩
theorem refrightK_any (t:T) (cs:List S3) (Ae Ak Ca:Option Addr) (ne nk ce ck na ca9:Nat) (w:World) (hn:nodes t≤1000) (hl:cs.length=na) (hna:na≤1000) (hr:RdT w w.heap.size t ⟨Ae,ne,ce⟩ ⟨Ak,nk,ck⟩) (hc:Rd w w.heap.size 3 Ca na ca9 (spsC cs)) (hn2:nodes t≤200) :
  Calls Tryz.prog 13 #[.agg #[.slice Ae ne ce,.slice Ak nk ck,.slice Ca na ca9]] w fun e w'=>e = .returned (.bool (rightKB (t,cs)))∧Below w.heap.size w w':=by
 obtain⟨z,hz⟩:∃ z,rightKB (t,cs)=z:=⟨_,rfl⟩;rw[hz]
 have HEX:Hid (rightB 5 t=true→∃ u,OfC (dl t) u∧u.length≤4*nodes t):=fun hb=>by
  obtain⟨e,w',u,q,A,c,_,h1,h2,h3,_⟩:=Cs.Calls.some (dotsT_any t Ae Ak ne nk ce ck w hb (LenT.few (by omega)) hn hr);exact⟨u,h2.out,by rw[h1.out];exact h3⟩
 have HR:=Lib.hid (And.intro hr (And.intro hl hc));have HN:=Lib.hid hn;have HN2:=Lib.hid hn2;have HZ:=Lib.hid hz
 have HMX:Hid (∀ (W:World) (u:List S3) (q:Nat) (A:Option Addr) (c:Nat),Rd W W.heap.size 3 A q c (spsC u)→u.length=q→q≤1000→Below w.heap.size w W→RightC u→RightC cs→∃ l,PutC minF u cs l∧l.length≤800000):=fun W u q A c h1 h2 h3 h4 h5 h6=>by
  obtain⟨e,w',l,k,_,_,_,g1,g2,g3,_⟩:=Cs.Calls.some (minusC_any u cs q na A Ca c ca9 W h2 hl (by omega) (by omega) h1 ((hc.below h4).more h4.size) h5 h6);exact⟨l,g2.out,by rw[g1.out];omega⟩
 clear hz hr hl hc hn hn2;obtain⟨W,p,HW,HP,HK⟩:=boxC1 w Ae Ak Ca ne nk ce ck na ca9;obtain⟨c0,c1,c2,-⟩:=HK.out.cj;have HKc:=Lib.hid (HK.out.drew);go_enter Tryz.func13,Tryz.ntmps13;go_wp2_with fail;rw[← HP.out,← HW.out]
 cases hb:rightB 5 t with
 | false=>
  obtain rfl:z=false:=by rw[← HZ.out];exact rightKB_noT hb
  have HT:=Lib.hid hb;clear hb HEX HMX;refine wp_region_held_drew (S:=Conj _) (by kernel_rfl) HKc.out.cj (fun hHeld=>?_);obtain⟨w1,hw1⟩:∃ v,v=W.drew:=⟨_,rfl⟩;rw[← hw1]at hHeld HKc ⊢;clear hw1;refine Tk 0 3 ?_;refine Tk 1 4 ?_;refine Tc 2 (fun K hK=>?_);go_simp;(go_at_call 12;refine (refrightT_any t Ae Ak ne nk ce ck w1 (LenT.few (by have:=HN.out;omega)) (RdT.more HKc.out.below.size _ (RdT.below HR.out.1 HKc.out.below))).mono ?_);rw[HT.out];rintro e v2 ⟨rfl,hb9⟩;have HKc:=Lib.hid (HKc.out.later hb9);clear hb9;clear hHeld;refine Th hK ?_ (fun hHeld=>?_)
  ·exact HKc.out.cj
  clear hK K;refine Tk 3 6 ?_;refine Tn 4 7 ?_;refine Tn 5 8 ?_;refine Tn 6 9 ?_;refine Tk 7 10 ?_;refine Tk 8 11 ?_;refine Tn 9 12 ?_;refine Tn 10 13 ?_;refine Tn 11 14 ?_;refine Tn 12 15 ?_;refine Tn 13 16 ?_;refine Tn 14 17 ?_;refine Tk 15 18 ?_;refine Tk 16 2 ?_;refine wpAnyH_done (by kernel_rfl) ?_ _;clear hHeld;go_wp2_with fail;go_ret;exact⟨by first | rfl | (rw[HZ.out];rfl),HKc.out.below⟩
 | true=>
  have HT:=Lib.hid hb;obtain⟨u,hu1,hu2⟩:=HEX.out hb;obtain⟨q,hq⟩:∃ q,u.length=q:=⟨_,rfl⟩
  have hq1:q≤1000:=by have:=HN2.out;omega
  have HU:=Lib.hid (And.intro hu1 (And.intro hq hq1));clear hb HEX hu1 hu2 hq
  cases hcs:rightCB cs with
  | false=>
   obtain rfl:z=false:=by rw[← HZ.out];exact rightKB_noC (not_rightCB hcs)
   have HC:=Lib.hid hcs;clear hcs HMX;refine wp_region_held_drew (S:=Conj _) (by kernel_rfl) HKc.out.cj (fun hHeld=>?_);obtain⟨w1,hw1⟩:∃ v,v=W.drew:=⟨_,rfl⟩;rw[← hw1]at hHeld HKc ⊢;clear hw1;refine Tk 0 3 ?_;refine Tk 1 4 ?_;refine Tc 2 (fun K hK=>?_);go_simp;(go_at_call 12;refine (refrightT_any t Ae Ak ne nk ce ck w1 (LenT.few (by have:=HN.out;omega)) (RdT.more HKc.out.below.size _ (RdT.below HR.out.1 HKc.out.below))).mono ?_);rw[HT.out];rintro e v2 ⟨rfl,hb9⟩;have HKc:=Lib.hid (HKc.out.later hb9);clear hb9;clear hHeld;refine Th hK ?_ (fun hHeld=>?_)
   ·exact HKc.out.cj
   clear hK K;refine Tk 3 6 ?_;refine Tk 4 7 ?_;refine Tk 5 8 ?_;refine Tc 6 (fun K hK=>?_);go_simp;(go_at_call 42;refine (refrightC_any cs na Ca ca9 v2 HR.out.2.1 (by omega) ((HR.out.2.2.below HKc.out.below).more HKc.out.below.size) false HC.out).mono ?_);rintro e v6 ⟨rfl,hb9⟩;have HKc:=Lib.hid (HKc.out.later hb9);clear hb9;clear hHeld;refine Th hK ?_ (fun hHeld=>?_)
   ·exact HKc.out.cj
   clear hK K;refine Tk 7 10 ?_;refine Tk 8 11 ?_;refine Tn 9 12 ?_;refine Tn 10 13 ?_;refine Tn 11 14 ?_;refine Tn 12 15 ?_;refine Tn 13 16 ?_;refine Tn 14 17 ?_;refine Tk 15 18 ?_;refine Tk 16 2 ?_;refine wpAnyH_done (by kernel_rfl) ?_ _;clear hHeld;go_wp2_with fail;go_ret;exact⟨by first | rfl | (rw[HZ.out];rfl),HKc.out.below⟩
  | true=>
   have HC:=Lib.hid hcs;have HCC:=Lib.hid (of_rightCB hcs);clear hcs;refine wp_region_held_drew (S:=Conj _) (by kernel_rfl) HKc.out.cj (fun hHeld=>?_);obtain⟨w1,hw1⟩:∃ v,v=W.drew:=⟨_,rfl⟩;rw[← hw1]at hHeld HKc ⊢;clear hw1;refine Tk 0 3 ?_;refine Tk 1 4 ?_;refine Tc 2 (fun K hK=>?_);go_simp;(go_at_call 12;refine (refrightT_any t Ae Ak ne nk ce ck w1 (LenT.few (by have:=HN.out;omega)) (RdT.more HKc.out.below.size _ (RdT.below HR.out.1 HKc.out.below))).mono ?_);rw[HT.out];rintro e v2 ⟨rfl,hb9⟩;have HKc:=Lib.hid (HKc.out.later hb9);clear hb9;clear hHeld;refine Th hK ?_ (fun hHeld=>?_)
   ·exact HKc.out.cj
   clear hK K;refine Tk 3 6 ?_;refine Tk 4 7 ?_;refine Tk 5 8 ?_;refine Tc 6 (fun K hK=>?_);go_simp;(go_at_call 42;refine (refrightC_any cs na Ca ca9 v2 HR.out.2.1 (by omega) ((HR.out.2.2.below HKc.out.below).more HKc.out.below.size) true HC.out).mono ?_);rintro e v6 ⟨rfl,hb9⟩;have HKc:=Lib.hid (HKc.out.later hb9);clear hb9;clear hHeld;refine Th hK ?_ (fun hHeld=>?_)
   ·exact HKc.out.cj
   clear hK K;refine Tk 7 10 ?_;refine Tk 8 11 ?_;refine Tk 9 12 ?_;refine Tk 10 13 ?_;refine Tk 12 15 ?_;refine Tk 13 16 ?_;refine Tc 11 (fun K hK=>?_);go_simp;(go_at_call 22;refine (refdots_any t Ae Ak ne nk ce ck v6 HN.out (RdT.more HKc.out.below.size _ (RdT.below HR.out.1 HKc.out.below)) (good_dl (rightB_iff.1 HT.out)) u HU.out.1 q HU.out.2.1 (by omega)).mono ?_);rintro e v11 ⟨A7,c7,rfl,hru,hb9⟩;obtain⟨l,hl1,hl2⟩:=HMX.out v11 u q A7 c7 hru HU.out.2.1 HU.out.2.2 (HKc.out.below.trans (hb9.mono HKc.out.below.size)) HU.out.1.right HCC.out;obtain⟨m,hm⟩:∃ m,l.length=m:=⟨_,rfl⟩;have HL:=Lib.hid (And.intro hl1 (And.intro hm (And.intro (show m≤800000 by omega) HU.out.2.2)));obtain⟨y,hy⟩:∃ y,decide (l=[])=y:=⟨_,rfl⟩
   have hzy:z=y:=by rw[← HZ.out,← hy];exact rightKB_of HT.out HCC.out HU.out.1 hl1
   have HZY:=Lib.hid hzy;have HY:=Lib.hid hy;clear hl1 hl2 hm hy hzy;have HRU:=Lib.hid hru;clear hru;have HKc:=Lib.hid (HKc.out.later hb9);clear hb9;clear hHeld;refine Th hK ?_ (fun hHeld=>?_)
   ·exact HKc.out.cj
   clear hK K;refine Tc 14 (fun K hK=>?_);go_simp;(go_at_call 43;refine (refleqC_any u cs l q na m A7 Ca c7 ca9 v11 HU.out.2.1 HR.out.2.1 HL.out.2.1 HL.out.2.2.2 (by omega) HRU.out ((HR.out.2.2.below HKc.out.below).more HKc.out.below.size) HU.out.1.right HCC.out HL.out.1 HL.out.2.2.1).mono ?_);rw[HY.out,← HZY.out];rintro e v14 ⟨rfl,hb9⟩;have HKc:=Lib.hid (HKc.out.later hb9);clear hb9;clear hHeld;refine Th hK ?_ (fun hHeld=>?_)
   ·exact HKc.out.cj
   clear hK K;refine Tk 15 18 ?_;refine Tk 16 2 ?_;refine wpAnyH_done (by kernel_rfl) ?_ _;clear hHeld;go_wp2_with fail;go_ret;exact⟨by first | rfl | (rw[HZ.out];rfl),HKc.out.below⟩
end Cs
end Go.Proofs.YtjpcechcefhcfaaGreat
