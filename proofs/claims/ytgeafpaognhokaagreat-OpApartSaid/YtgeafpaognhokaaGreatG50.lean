/- Texts of the lower layers, and of layer 9, put together. -/
import Derived.Test.YtgeafpaognhokaaGreatG00
import Derived.Test.YtgeafpaognhokaaGreatCauMrgK
import Derived.Test.YtgeafpaognhokaaGreatG10
import Derived.Test.YtgeafpaognhokaaGreatG20
import Derived.Test.YtgeafpaognhokaaGreatTreeRefRight
import Derived.Test.YtgeafpaognhokaaGreatTreeRight
import Derived.Lib.OwnBridge
import Derived.Test.YtgeafpaognhokaaGreatG01
import Derived.Test.YtgeafpaognhokaaGreatTreeLeaves
set_option maxRecDepth 100000
set_option maxHeartbeats 4000000
namespace Go.Proofs.YtgeafpaognhokaaGreat
open Go.ChangeShapes Go.WideShapes Go.ChangeAt Go.RowKit
namespace Cs
open Tr Cx Sp Rw
theorem boxC2 (w:World) (Ae Ak Be Bk Ca Cb:Option Addr) (ne nk ce ck me mk de dk na ca9 nb cb9:Nat):∃ (W:World) (p q:Nat),Hid (W=(w.alloc (.cells #[.slice Ae ne ce,.slice Ak nk ck,.slice Ca na ca9] 42)).alloc (.cells #[.slice Be me de,.slice Bk mk dk,.slice Cb nb cb9] 42))∧Hid (p=w.heap.size)∧Hid (q=p+1)∧Hid (Kept [(⟨p,0,none⟩,.slice Ae ne ce),(⟨p,1,none⟩,.slice Ak nk ck),(⟨p,2,none⟩,.slice Ca na ca9),(⟨q,0,none⟩,.slice Be me de),(⟨q,1,none⟩,.slice Bk mk dk),(⟨q,2,none⟩,.slice Cb nb cb9)] w W):=by
 refine⟨_,_,_,rfl,rfl,rfl,?_⟩;have h0:=Kept.nil_of (Dt.box2_below w #[.slice Ae ne ce,.slice Ak nk ck,.slice Ca na ca9] #[.slice Be me de,.slice Bk mk dk,.slice Cb nb cb9] 42 42)
 refine (((((h0.cons_of ?_).cons_of ?_).cons_of ?_).cons_of ?_).cons_of ?_).cons_of ?_ <;> go_simp
theorem RdK.more {w:World} {B B' n c:Nat} {A:Option Addr} {ks:List Kd} (h:RdK w B A n c ks) (hB:B≤B'):RdK w B' A n c ks:=by
 obtain⟨xs,h1,h2,h3⟩:=h;refine⟨xs,h1.more hB,h2,fun i hi=>?_⟩;obtain⟨se,sk,e1,e2,e3,e4⟩:=h3 i hi;exact⟨se,sk,e1,e2,e3,RdT.more hB _ e4⟩
theorem entriesC_any (ca cb:List S3) (es es2:List E) (Ae Ak Be Bk Ca Cb:Option Addr) (ne nk ce ck me mk de dk na ca9 nb cb9:Nat) (w:World) (hla:ca.length=na) (hlb:cb.length=nb) (hna:na≤100000) (hnb:nb≤100000) (hra:Rd w w.heap.size 3 Ca na ca9 (spsC ca)) (hrb:Rd w w.heap.size 3 Cb nb cb9 (spsC cb)) (hRa:RightC ca) (hRb:RightC cb) (hn:ne≤100000) (hm:me≤100000) (hl1:es.length=ne) (hl2:es2.length=me) (hr1:Rd w w.heap.size 4 Ae ne ce (entsC es)) (hr2:Rd w w.heap.size 4 Be me de (entsC es2)) (hu1:Up keyE ltD es) (hu2:Up keyE ltD es2) (hg1:∀ e∈es,1≤e.n) (hg2:∀ e∈es2,1≤e.n) :
  Calls Tryz.prog 153 #[.agg #[.slice Ae ne ce,.slice Ak nk ck,.slice Ca na ca9],.agg #[.slice Be me de,.slice Bk mk dk,.slice Cb nb cb9]] w fun e w'=>∃ A q c,e = .returned (.slice A q c)∧(mrg keyE ltD (stE ca cb) es es2).length=q∧Own w' w.heap.size 97 4 A q c (entsC (mrg keyE ltD (stE ca cb) es es2))∧Below w.heap.size w w':=by
 obtain⟨W,p,q,HW,HP,HQ,HK⟩:=boxC2 w Ae Ak Be Bk Ca Cb ne nk ce ck me mk de dk na ca9 nb cb9;have hb:=HK.out.below;obtain⟨c0,c1,c2,c3,c4,c5,-⟩:=HK.out.cj;go_enter Tryz.func153,Tryz.ntmps153;have HM:=Lib.hid (mergedE_any ca cb Ca Cb na ca9 nb cb9 p q es es2 Ae Be ne me ce de W hla hlb hna hnb c2 c5 ((hra.below hb).more hb.size) ((hrb.below hb).more hb.size) hRa hRb hl1 hl2 hn hm ((hr1.below hb).more hb.size) ((hr2.below hb).more hb.size) hu1 hu2 hg1 hg2);have HB:=Lib.hid hb;clear hla hlb hra hrb hRa hRb hr1 hr2 hu1 hu2 hg1 hg2 hl1 hl2 hb;go_wp2_with fail;rw[← HP.out,← HW.out]
 try rw[← HQ.out]
 refine HM.out.mono ?_;rintro e w2 ⟨A,k,c,rfl,hl,ho,hb2⟩;have HR:Hid ((mrg keyE ltD (stE ca cb) es es2).length=k∧Own w2 w.heap.size 97 4 A k c (entsC (mrg keyE ltD (stE ca cb) es es2))∧Below w.heap.size w w2):=⟨hl,ho.mono HB.out.size,HB.out.trans (hb2.mono HB.out.size)⟩;clear hl ho hb2;go_wp2_with fail;go_ret;exact⟨A,k,c,rfl,HR.out⟩
theorem kidsC_any (dd:Nat) (ca cb:List S3) (hih:TreesOk dd ca cb) (ks ks2:List Kd) (Ae Ak Be Bk Ca Cb:Option Addr) (ne nk ce ck me mk de dk na ca9 nb cb9:Nat) (w:World) (hla:ca.length=na) (hlb:cb.length=nb) (hna:na≤100000) (hnb:nb≤100000) (hra:Rd w w.heap.size 3 Ca na ca9 (spsC ca)) (hrb:Rd w w.heap.size 3 Cb nb cb9 (spsC cb)) (hRa:RightC ca) (hRb:RightC cb) (hn:nk≤100000) (hm:mk≤100000) (hl1:ks.length=nk) (hl2:ks2.length=mk) (hr1:RdK w w.heap.size Ak nk ck ks) (hr2:RdK w w.heap.size Bk mk dk ks2) (hu1:Up keyK ltS ks) (hu2:Up keyK ltS ks2) (hg1:∀ k∈ks,RightT dd k.2∧nodes k.2≤100000∧¬k.2=none_∧1≤k.1.size) (hg2:∀ k∈ks2,RightT dd k.2∧nodes k.2≤100000∧¬k.2=none_∧1≤k.1.size) :
  Calls Tryz.prog 154 #[.agg #[.slice Ae ne ce,.slice Ak nk ck,.slice Ca na ca9],.agg #[.slice Be me de,.slice Bk mk dk,.slice Cb nb cb9]] w fun e w'=>∃ base A q c kr,e = .returned (.slice A q c)∧w.heap.size≤base∧KidRow w' base 134 A q c (mrg keyK ltS (stK (joinT dd ca cb)) ks ks2) kr∧Below w.heap.size w w':=by
 obtain⟨W,p,q,HW,HP,HQ,HK⟩:=boxC2 w Ae Ak Be Bk Ca Cb ne nk ce ck me mk de dk na ca9 nb cb9;have hb:=HK.out.below;obtain⟨c0,c1,c2,c3,c4,c5,-⟩:=HK.out.cj;go_enter Tryz.func154,Tryz.ntmps154;have HM:=Lib.hid (mergedK_any dd ca cb hih Ca Cb na ca9 nb cb9 p q ks ks2 Ak Bk nk mk ck dk W hla hlb hna hnb c2 c5 ((hra.below hb).more hb.size) ((hrb.below hb).more hb.size) hRa hRb hl1 hl2 hn hm ((hr1.below hb).more hb.size) ((hr2.below hb).more hb.size) hu1 hu2 hg1 hg2);have HB:=Lib.hid hb;clear hih hla hlb hra hrb hRa hRb hr1 hr2 hu1 hu2 hg1 hg2 hl1 hl2 hb;go_wp2_with fail;rw[← HP.out,← HW.out]
 try rw[← HQ.out]
 refine HM.out.mono ?_;rintro e w2 ⟨A,k,c,kr,rfl,ho,hb2⟩;have HR:Hid (w.heap.size≤W.heap.size∧KidRow w2 W.heap.size 134 A k c (mrg keyK ltS (stK (joinT dd ca cb)) ks ks2) kr∧Below w.heap.size w w2):=⟨HB.out.size,ho,HB.out.trans (hb2.mono HB.out.size)⟩;clear ho hb2;go_wp2_with fail;go_ret;exact⟨_,A,k,c,kr,rfl,HR.out⟩
theorem rd_parts {w:World} {B:Nat} {es:List E} {ks:List Kd} {Ae Ak:Option Addr} {ne nk ce ck:Nat} (h:RdT w B (.mk es ks) ⟨Ae,ne,ce⟩ ⟨Ak,nk,ck⟩):Rd w B 4 Ae ne ce (entsC es)∧RdK w B Ak nk ck ks:=by
 rw[rdT_mk]at h;obtain⟨h1,h2,h3,xs,h4,h5⟩:=h;exact⟨h2,xs,h4,h3,h5⟩
theorem good_ents {d:Nat} {es:List E} {ks:List Kd} (h:RightT (d+1) (.mk es ks)):∀ e∈es,1≤e.n:=fun e he=>by
 have h1:=(h.1 e he).1;unfold Dt.rightB at h1;have:=of_decide_eq_true h1;omega
theorem good_kids {d:Nat} {es:List E} {ks:List Kd} (h:RightT (d+1) (.mk es ks)) (hn:nodes (.mk es ks)≤100000):∀ k∈ks,RightT d k.2∧nodes k.2≤100000∧¬k.2=none_∧1≤k.1.size:=fun k hk=>by
 obtain⟨h1,h2,h3⟩:=h.2.2.2 k hk;exact⟨h3,Nat.le_trans (nodes_kid hk) hn,fun e=>h2 (by rw[e];exact⟨rfl,rfl⟩),h1.1⟩
theorem trees_step (d:Nat) (hih:∀ ca cb,TreesOk d ca cb) (ca cb:List S3):∀ (ta tb:T) (Ae Ak Be Bk Ca Cb:Option Addr) (ne nk ce ck me mk de dk na ca9 nb cb9:Nat) (w:World),RT (d+1) ta→RT (d+1) tb→nodes ta≤100000→nodes tb≤100000→ca.length=na→cb.length=nb→na≤100000→nb≤100000→Rd w w.heap.size 3 Ca na ca9 (spsC ca)→Rd w w.heap.size 3 Cb nb cb9 (spsC cb)→RightC ca→RightC cb→RdT w w.heap.size ta ⟨Ae,ne,ce⟩ ⟨Ak,nk,ck⟩→RdT w w.heap.size tb ⟨Be,me,de⟩ ⟨Bk,mk,dk⟩ →
  Calls Tryz.prog 124 #[.agg #[.slice Ae ne ce,.slice Ak nk ck,.slice Ca na ca9],.agg #[.slice Be me de,.slice Bk mk dk,.slice Cb nb cb9]] w (TreeIs (joinT (d+1) ca cb ta tb) w):=by
 intro ta tb Ae Ak Be Bk Ca Cb ne nk ce ck me mk de dk na ca9 nb cb9 w hta htb hna5 hnb5 hla hlb hna hnb hra hrb hRa hRb hrt hru;obtain⟨es,ks⟩:=ta;obtain⟨es2,ks2⟩:=tb;have HIH:=Lib.hid hih;have HC:=Lib.hid (And.intro hla (And.intro hlb (And.intro hra (And.intro hrb (And.intro hRa hRb)))));have HTA:=Lib.hid hta.succ;have HTB:=Lib.hid htb.succ;have HLA:=Lib.hid (rd_lens hrt);have HLB:=Lib.hid (rd_lens hru);have HE1:=Lib.hid (rd_parts hrt).1;have HE2:=Lib.hid (rd_parts hru).1;have HK1:=Lib.hid (rd_parts hrt).2;have HK2:=Lib.hid (rd_parts hru).2;have HG:=Lib.hid (And.intro (good_ents hta.succ) (And.intro (good_ents htb.succ) (And.intro (good_kids hta.succ hna5) (good_kids htb.succ hnb5))))
 have hne5:ne≤100000:=by have:=nodes_es es ks;have:=HLA.out.1;omega
 have hnk5:nk≤100000:=by have:=nodes_es es ks;have:=HLA.out.2;omega
 have hme5:me≤100000:=by have:=nodes_es es2 ks2;have:=HLB.out.1;omega
 have hmk5:mk≤100000:=by have:=nodes_es es2 ks2;have:=HLB.out.2;omega
 clear hih hla hlb hra hrb hRa hRb hrt hru hta htb hna5 hnb5;obtain⟨W0,p,q,HW0,HP,HQ,HK⟩:=boxC2 w Ae Ak Be Bk Ca Cb ne nk ce ck me mk de dk na ca9 nb cb9;obtain⟨r,hr⟩:∃ z,z=p+1+1:=⟨_,rfl⟩;obtain⟨W,hW⟩:∃ v,v=((w.alloc (.cells #[.slice Ae ne ce,.slice Ak nk ck,.slice Ca na ca9] 42)).alloc (.cells #[.slice Be me de,.slice Bk mk dk,.slice Cb nb cb9] 42)).alloc (.cells #[.slice none 0 0,.slice none 0 0] 35):=⟨_,rfl⟩
 have hbW:Below W0.heap.size W0 W:=by rw[hW,← HW0.out];exact Dt.box_below _ _ _
 have hsz:W0.heap.size=r:=by rw[HW0.out,hr,HP.out];simp
 have z0:W.cell? ⟨r,0,none⟩=some (.slice none 0 0):=by rw[hW,hr,HP.out];go_simp
 have z1:W.cell? ⟨r,1,none⟩=some (.slice none 0 0):=by rw[hW,hr,HP.out];go_simp
 have HKc:=Lib.hid ((HK.out.later hbW).drew);have HKR:=Lib.hid ((((Kept.nil_of (HK.out.below.trans (hbW.mono HK.out.below.size))).cons_of z1).cons_of z0).drew);have HFR:Hid (Free r W.drew):=(show Free r W from⟨World.block_lt_of_cell? W _ z0,fun j=>by rw[hW,hr,HP.out];go_simp⟩).drew
 have hwr:w.heap.size≤r:=by have:=HK.out.below.size;omega
 have hpr:p<r:=by omega
 have hqr:q<r:=by have:=HQ.out;omega
 have HR:=Lib.hid hr;have HW:=Lib.hid hW;clear HK hbW hsz hr hW z0 z1;go_enter Tryz.func124,Tryz.ntmps124;go_wp2_with fail;rw[← HW.out,← HP.out,← HR.out]
 try rw[← HQ.out]
 refine wp_region_held_drew (S:=Conj _) (by kernel_rfl) HKc.out.cj (fun hHeld=>?_);obtain⟨w1,hw1⟩:∃ v,v=W.drew:=⟨_,rfl⟩;rw[← hw1]at hHeld HKc HKR HFR ⊢;clear hw1;refine Tk 0 5 ?_;refine Tk 1 6 ?_;refine Tk 3 8 ?_;refine Tk 4 9 ?_;refine Tc 2 (fun K hK=>?_);go_simp;(go_at_call 153;refine (entriesC_any ca cb es es2 Ae Ak Be Bk Ca Cb ne nk ce ck me mk de dk na ca9 nb cb9 w1 HC.out.1 HC.out.2.1 hna hnb ((HC.out.2.2.1.below HKc.out.below).more HKc.out.below.size) ((HC.out.2.2.2.1.below HKc.out.below).more HKc.out.below.size) HC.out.2.2.2.2.1 HC.out.2.2.2.2.2 hne5 hme5 HLA.out.1 HLB.out.1 ((HE1.out.below HKc.out.below).more HKc.out.below.size) ((HE2.out.below HKc.out.below).more HKc.out.below.size) (upE HTA.out.2.1) (upE HTB.out.2.1) HG.out.1 HG.out.2.1).mono ?_);rintro e v1 ⟨A1,k1,d1,rfl,hl1,ho1,hb1⟩;have hr1:r<w1.heap.size:=HFR.out.1
 have HO1:Hid ((mrg keyE ltD (stE ca cb) es es2).length=k1∧RO v1 (fun b=>w1.heap.size≤b) 4 A1 k1 d1 (entsC (mrg keyE ltD (stE ca cb) es es2))):=⟨hl1,(RO.of_own ho1).mono fun b hb _=>hb.1⟩;have HKc:=Lib.hid (HKc.out.later hb1);have HKR:=Lib.hid (HKR.out.later hb1);have HFR:=Lib.hid (HFR.out.later hb1);have HW1:Hid (w1.heap.size≤v1.heap.size):=hb1.size;clear hl1 ho1 hb1;clear hHeld;refine Th hK ?_ (fun hHeld=>?_)
 ·exact HKc.out.cj
 clear hK K;refine Tc 5 (fun K hK=>?_);go_simp;(go_at_call 154;refine (kidsC_any d ca cb (HIH.out ca cb) ks ks2 Ae Ak Be Bk Ca Cb ne nk ce ck me mk de dk na ca9 nb cb9 v1 HC.out.1 HC.out.2.1 hna hnb ((HC.out.2.2.1.below HKc.out.below).more HKc.out.below.size) ((HC.out.2.2.2.1.below HKc.out.below).more HKc.out.below.size) HC.out.2.2.2.2.1 HC.out.2.2.2.2.2 hnk5 hmk5 HLA.out.2 HLB.out.2 (HK1.out.below HKc.out.below |>.more HKc.out.below.size) (HK2.out.below HKc.out.below |>.more HKc.out.below.size) HTA.out.2.2.1 HTB.out.2.2.1 HG.out.2.2.1 HG.out.2.2.2).mono ?_);rintro e v2 ⟨bs,A2,k2,d2,kr,rfl,hbs,ho2,hb2⟩;have HT9:Hid (RdO v2 (fun b=>w1.heap.size≤b) (joinT (d+1) ca cb (.mk es ks) (.mk es2 ks2)) ⟨A1,k1,d1⟩ ⟨A2,k2,d2⟩):=ho2.tree (fun b hb _=>by have:=HW1.out;omega) HO1.out.1 (HO1.out.2.keep hb2.size fun b _ hlt=>hb2.block b hlt);have HKc:=Lib.hid (HKc.out.later hb2)
 have HKR:=Lib.hid (HKR.out.later hb2);have HFR:=Lib.hid (HFR.out.later hb2);have z0:=HKR.out.c0;have z1:=HKR.out.c1;have m0:=HFR.out.2 0;have m1:=HFR.out.2 1;clear ho2 hb2 hbs;clear hHeld;refine Th hK ?_ (fun hHeld=>?_)
 ·exact HKc.out.cj
 clear hK K;refine Tk 6 11 ?_;refine Tc 7 (fun K hK=>?_);go_simp;refine Th hK ?_ (fun hHeld2=>?_)
 ·(try dsimp only)
  have h9:=(HKc.out.set (a:=⟨r,0,none⟩) hwr (fun x hx=>by simp at hx;rcases hx with rfl | rfl | rfl | rfl | rfl | rfl <;> (dsimp only;omega)) (.slice A1 k1 d1)).set (a:=⟨r,1,none⟩) hwr (fun x hx=>by simp at hx;rcases hx with rfl | rfl | rfl | rfl | rfl | rfl <;> (dsimp only;omega)) (.slice A2 k2 d2)
  exact h9.cj
 clear hK K hHeld;have hHeld:=hHeld2;clear hHeld2;refine wpAnyH_done (by kernel_rfl) ?_ _;clear hHeld;obtain⟨W9,hW9⟩:∃ W,W=(v2.setCell ⟨r,0,none⟩ (.slice A1 k1 d1)).setCell ⟨r,1,none⟩ (.slice A2 k2 d2):=⟨_,rfl⟩
 have HB9:Hid (Below w.heap.size w W9):=by
  unfold Hid;rw[hW9];exact (HKc.out.below.setCell (p:=⟨r,0,none⟩) hwr _).setCell (p:=⟨r,1,none⟩) hwr _
 have HT10:Hid (RdO W9 (fun b=>w.heap.size≤b) (joinT (d+1) ca cb (.mk es ks) (.mk es2 ks2)) ⟨A1,k1,d1⟩ ⟨A2,k2,d2⟩):=by
  unfold Hid;rw[hW9];exact RdO.mono (fun b hb _=>by have:=hr1;omega) _ (RdO.keep (by simp[World.setCell]) (fun b hb _=>(Below.heap_setCell _ ⟨r,1,none⟩ _ b (fun e=>by have h:b=r:=e;omega)).trans (Below.heap_setCell _ ⟨r,0,none⟩ _ b (fun e=>by have h:b=r:=e;omega))) _ HT9.out)
 have l0:W9.cell? ⟨r,0,none⟩=some (.slice A1 k1 d1):=by rw[hW9];go_simp
 have l1:W9.cell? ⟨r,1,none⟩=some (.slice A2 k2 d2):=by rw[hW9];go_simp
 clear z0 z1 m0 m1;rw[← hW9];clear hW9;go_wp2_with fail;refine bodyPost_ret (v:=.agg #[.slice A1 k1 d1,.slice A2 k2 d2]) (by simp[results,Tryz.results124,go_sem,l0,l1]) rfl ⟨A1,k1,d1,A2,k2,d2,rfl,HT10.out,HB9.out⟩
theorem trees_ok:∀ (d:Nat) (ca cb:List S3),TreesOk d ca cb
 | 0,ca,cb=>by
  intro ta tb Ae Ak Be Bk Ca Cb ne nk ce ck me mk de dk na ca9 nb cb9 w hta htb hne
  have e:∀ t:T,RT 0 t→t=none_:=fun t h=>by
   rcases h with h | h
   ·exact h.elim
   ·exact h
  exact absurd ⟨e ta hta,e tb htb⟩ hne
 | d+1,ca,cb=>by
  intro ta tb Ae Ak Be Bk Ca Cb ne nk ce ck me mk de dk na ca9 nb cb9 w hta htb _ hna5 hnb5 hla hlb hna hnb hra hrb hRa hRb hrt hru;exact trees_step d (fun ca cb=>trees_ok d ca cb) ca cb ta tb Ae Ak Be Bk Ca Cb ne nk ce ck me mk de dk na ca9 nb cb9 w hta htb hna5 hnb5 hla hlb hna hnb hra hrb hRa hRb hrt hru
end Cs
end Go.Proofs.YtgeafpaognhokaaGreat
namespace Go.Proofs.YtgeafpaognhokaaGreat
open Go.ChangeShapes Go.WideShapes Go.ChangeAt Go.RowKit
namespace Cs
open Tr Cx Sp Rw Classical
theorem Calls.some {P:Program} {f:FuncId} {args:Array Value} {w:World} {R:Ending→World→Prop} (h:Calls P f args w R):∃ e w',R e w':=by
 obtain⟨e,w',_,hr,_⟩:=h [];exact⟨e,w',hr⟩
theorem empty_of {l:List S3} (hl:RightC l) (h:∀ d n,Cen d→hasC l d n=false):l=[]:=extC hl right_noneC fun d n hd=>by rw[h d n hd];rfl
theorem rightKB_of {t:T} {cs u l:List S3} (ht:rightB 5 t=true) (hc:RightC cs) (hu:OfC (dl t) u) (hl:PutC minF u cs l):rightKB (t,cs)=decide (l=[]):=by
 have hiff:RK (t,cs)↔l=[]:=by
  constructor
  ·intro h
   refine empty_of hl.right fun d n hd=>?_;rw[hl.has d n hd];unfold minF
   cases h1:hasC u d n with
   | false=>rfl
   | true=>
    have h2:=(hu.has d n hd).1 h1;unfold dl at h2;obtain⟨x,hx,he⟩:=List.mem_map.1 h2;have h3:=h.has x hx;have e1:x.2.a=d:=congrArg Prod.fst he;have e2:x.2.n=n:=congrArg Prod.snd he;rw[e1,e2]at h3;rw[show hasC cs d n=true from h3];rfl
  ·rintro rfl
   refine⟨rightB_iff.1 ht,hc,fun x hx=>?_⟩;have hm:(x.2.a,x.2.n)∈dl t:=List.mem_map.2 ⟨x,hx,rfl⟩;have hd:=(good_num (good_dl (rightB_iff.1 ht) _ hm)).1;have h1:=(hu.has x.2.a x.2.n hd).2 hm;have h2:=hl.has x.2.a x.2.n hd;rw[h1]at h2;have h3:hasC [] x.2.a x.2.n=false:=rfl;rw[h3]at h2;show hasC cs x.2.a x.2.n=true
   cases h4:hasC cs x.2.a x.2.n with
   | true=>rfl
   | false=>rw[h4]at h2;cases h2
 unfold rightKB
 by_cases h:l=[]
 ·rw[decide_eq_true h]
  exact decide_eq_true (hiff.2 h)
 ·rw[decide_eq_false h]
  exact decide_eq_false fun h2=>h (hiff.1 h2)
theorem rightKB_noT {t:T} {cs:List S3} (h:rightB 5 t=false):rightKB (t,cs)=false:=decide_eq_false fun h2=>by
 have h3:=rightB_iff.2 h2.tree;rw[h]at h3
 cases h3
theorem rightKB_noC {t:T} {cs:List S3} (h:¬RightC cs):rightKB (t,cs)=false:=decide_eq_false fun h2=>h h2.ctx
theorem boxC1 (w:World) (Ae Ak Ca:Option Addr) (ne nk ce ck na ca9:Nat):∃ (W:World) (p:Nat),Hid (W=w.alloc (.cells #[.slice Ae ne ce,.slice Ak nk ck,.slice Ca na ca9] 42))∧Hid (p=w.heap.size)∧Hid (Kept [(⟨p,0,none⟩,.slice Ae ne ce),(⟨p,1,none⟩,.slice Ak nk ck),(⟨p,2,none⟩,.slice Ca na ca9)] w W):=by
 refine⟨_,_,rfl,rfl,?_⟩;have h0:=Kept.nil_of (Dt.box_below w #[.slice Ae ne ce,.slice Ak nk ck,.slice Ca na ca9] 42)
 refine ((h0.cons_of ?_).cons_of ?_).cons_of ?_ <;> go_simp
set_option maxRecDepth 100000 in
set_option maxHeartbeats 4000000 in
theorem rightK_any (t:T) (cs:List S3) (Ae Ak Ca:Option Addr) (ne nk ce ck na ca9:Nat) (w:World) (hn:nodes t≤1000) (hl:cs.length=na) (hna:na≤1000) (hr:RdT w w.heap.size t ⟨Ae,ne,ce⟩ ⟨Ak,nk,ck⟩) (hc:Rd w w.heap.size 3 Ca na ca9 (spsC cs)) :
  Calls Tryz.prog 70 #[.agg #[.slice Ae ne ce,.slice Ak nk ck,.slice Ca na ca9]] w fun e w'=>e = .returned (.bool (rightKB (t,cs)))∧Below w.heap.size w w':=by
 obtain⟨z,hz⟩:∃ z,rightKB (t,cs)=z:=⟨_,rfl⟩;rw[hz];have HZ:=Lib.hid hz;have HR:=Lib.hid (And.intro hr (And.intro hl hc));have HN:=Lib.hid hn;clear hz hr hl hc hn;obtain⟨W,p,HW,HP,HK⟩:=boxC1 w Ae Ak Ca ne nk ce ck na ca9;have hb:=HK.out.below;obtain⟨c0,c1,c2,-⟩:=HK.out.cj;have HRT:=Lib.hid (RdT.more hb.size _ (RdT.below HR.out.1 hb));clear hb;go_enter Tryz.func70,Tryz.ntmps70;go_wp2_with fail;rw[← HP.out,← HW.out]
 cases hb:rightB 5 t with
 | false=>
  obtain rfl:z=false:=by rw[← HZ.out];exact rightKB_noT hb
  refine (dotsT_bad t Ae Ak ne nk ce ck W hb (LenT.few (by have:=HN.out;omega)) HRT.out).mono ?_;rintro e w1 ⟨rfl,hb1⟩;have HB1:=Lib.hid (HK.out.below.trans (hb1.mono HK.out.below.size));clear hb1 c0 c1 c2 hb;go_wp2_with fail;go_ret;exact⟨rfl,HB1.out⟩
 | true=>
  refine (dotsT_any t Ae Ak ne nk ce ck W hb (LenT.few (by have:=HN.out;omega)) HN.out HRT.out).mono ?_;rintro e w1 ⟨u,q,A,c,rfl,HUL,HOF,hq,HRU,hb1⟩;have HK1:=Lib.hid (HK.out.later hb1);have hcr:=(HR.out.2.2.below HK1.out.below).more HK1.out.below.size;have HT:=Lib.hid hb;clear hb1 c0 c1 c2 hb;have c2:=HK1.out.c2
  by_cases hc:RightC cs
  ·have HLQ:=Lib.hid (leqC_any u cs q na A Ca c ca9 w1 HUL.out HR.out.2.1 (by have:=HN.out;omega) (by omega) HRU.out hcr HOF.out.right hc)
   have HC:=Lib.hid hc;clear hcr hc;go_wp2_with fail;refine HLQ.out.mono ?_;rintro e w2 ⟨l,hpl,rfl,hb2⟩;have HB2:=Lib.hid (HK1.out.below.trans (hb2.mono HK1.out.below.size));obtain⟨y,hy⟩:∃ y,decide (l=[])=y:=⟨_,rfl⟩;rw[hy]
   have hzy:z=y:=by rw[← HZ.out,← hy];exact rightKB_of HT.out HC.out HOF.out hpl
   have HZY:=Lib.hid hzy;clear hpl hb2 hy hzy;go_wp2_with fail;go_ret;exact⟨by rw[HZY.out];try rfl,HB2.out⟩
  ·obtain rfl:z=false:=by rw[← HZ.out];exact rightKB_noC hc
   have HLQ:=Lib.hid (leqC_bad u cs q na A Ca c ca9 w1 HUL.out HR.out.2.1 (by have:=HN.out;omega) (by omega) HRU.out hcr (by rw[rightCB_false hc,Bool.and_false]));clear hcr hc;go_wp2_with fail;refine HLQ.out.mono ?_;rintro e w2 ⟨rfl,hb2⟩;have HB2:=Lib.hid (HK1.out.below.trans (hb2.mono HK1.out.below.size));clear hb2;go_wp2_with fail;go_ret;exact⟨rfl,HB2.out⟩
end Cs
end Go.Proofs.YtgeafpaognhokaaGreat
namespace Go.Proofs.YtgeafpaognhokaaGreat
namespace Cs
open Tr Cx Sp Rw Classical
theorem cen_of {a n:Int} (h:Dt.rightB a n=true):Cen a:=(good_num (x:=(a,n)) h).1
def oneC (a n:Int):List S3:=[(a,n,n)]
theorem part_oneC (a n d:Int):Cx.part (oneC a n) d=if a=d then [(n,n)]else []:=by
 unfold oneC;rw[part_cons,part_nil]
theorem has_oneC (a n d m:Int):hasC (oneC a n) d m=decide (d=a∧m=n):=by
 unfold hasC;rw[part_oneC]
 by_cases h:a=d
 ·rw[if_pos h,has_cons,has_nil,Bool.or_false]
  by_cases h2:m=n
  ·rw[decide_eq_true (by omega),decide_eq_true ⟨h.symm,h2⟩]
  ·rw[decide_eq_false (by omega),decide_eq_false fun h3=>h2 h3.2]
 ·rw[if_neg h,has_nil,decide_eq_false fun h3=>h h3.1.symm]
theorem right_oneC {a n:Int} (h:Dt.rightB a n=true):RightC (oneC a n):=by
 obtain⟨hc,h1,h2⟩:=Cx.good_num (x:=(a,n)) h;refine⟨⟨hc.1,hc.2,trivial⟩,fun d _=>?_⟩;rw[part_oneC]
 split
 ·exact⟨h1,Int.le_refl _,h2,trivial⟩
 ·trivial
theorem of_oneC {a n:Int} (h:Dt.rightB a n=true):OfC [(a,n)] (oneC a n):=⟨right_oneC h,fun d m _=>by
 rw[has_oneC,decide_eq_true_iff,List.mem_singleton];constructor
 ·rintro⟨rfl,rfl⟩;rfl
 ·intro h;injection h with h1 h2;exact⟨h1,h2⟩⟩
noncomputable def checkB (t:T) (a n:Int):Bool:=Tr.rightB 5 t&&Dt.rightB a n && !decide ((a,n)∈dl t)
theorem check_iff {t:T} {a n:Int} : checkB t a n=true↔RightT 5 t∧Dt.rightB a n=true∧(a,n)∉dl t:=by
 unfold checkB;rw[Bool.and_eq_true,Bool.and_eq_true,Tr.rightB_iff,Bool.not_eq_true',decide_eq_false_iff_not,and_assoc]
theorem has_dl {t:T} {u:List S3} (ht:RightT 5 t) (hu:OfC (dl t) u) (a n:Int):hasC u a n=decide ((a,n)∈dl t):=by
 by_cases hd:Cen a
 ·by_cases h:(a,n)∈dl t
  ·rw[(hu.has a n hd).2 h,decide_eq_true h]
  ·rw[decide_eq_false h]
   cases h2:hasC u a n with
   | false=>rfl
   | true=>exact absurd ((hu.has a n hd).1 h2) h
 ·rw[not_cen hu.right hd,decide_eq_false fun h=>hd (good_num (x:=(a,n)) (good_dl ht _ h)).1]
theorem known_right {t:T} {u:List S3} (ht:RightT 5 t) (hu:OfC (dl t) u):RK (t,u):=⟨ht,hu.right,fun x hx=>by
 show hasC u x.2.a x.2.n=true;rw[has_dl ht hu]
 exact decide_eq_true (List.mem_map.2 ⟨x,hx,rfl⟩)⟩
theorem uni_has {u v:List S3} {a n:Int} (hu:RightC u) (hd:Dt.rightB a n=true) (hv:PutC uniF u (oneC a n) v) (d m:Int):hasC v d m=(hasC u d m||decide (d=a∧m=n)):=by
 by_cases h:Cen d
 ·rw[hv.has d m h,has_oneC];rfl
 ·rw[not_cen hv.right h,not_cen hu h,decide_eq_false fun h2=>h (by rw[h2.1];exact cen_of hd)];rfl
theorem uni_self {u v:List S3} {a n:Int} (hu:RightC u) (hd:Dt.rightB a n=true) (hv:PutC uniF u (oneC a n) v):hasC v a n=true:=by
 rw[uni_has hu hd hv,decide_eq_true ⟨rfl,rfl⟩,Bool.or_true]
theorem right_oneT {d:Nat} {e:E} (he:RightE e):RightT (d+1) (oneT e):=⟨fun x hx=>by
 rw[List.mem_singleton.1 hx];exact he,by simp,by simp,by simp⟩
theorem nodes_one (e:E):nodes (oneT e)=1:=by unfold oneT;rw[nodes_mk];rfl
theorem RK.ent_of {k:K} (h:RK k) (p:List ByteArray) (q:Int×Int) (o:Option (Option E)) (hs:Cs.st k p q=o):entAt k.1 p q=o.join:=by
 rw[← hs]
 cases h1:hasC k.2 q.1 q.2 with
 | true=>rw[st_some h1];rfl
 | false=>rw[st_none h1,h.unknown h1];rfl
end Cs
end Go.Proofs.YtgeafpaognhokaaGreat
namespace Go.Proofs.YtgeafpaognhokaaGreat
namespace Cs
open Tr Cx Sp Rw Classical
def sumE (l:List E):Int:=(l.map fun e=>e.v).sum
theorem sumE_nil:sumE []=0:=rfl
theorem sumE_cons (e:E) (l:List E):sumE (e::l)=e.v+sumE l:=by unfold sumE;rw[List.map_cons,List.sum_cons]
theorem sumE_app (a b:List E):sumE (a++b)=sumE a+sumE b:=by unfold sumE;rw[List.map_append,List.sum_append_int]
theorem sumE_take {l:List E} {k:Nat} (h:k<l.length):sumE (l.take (k+1))=sumE (l.take k)+l[k].v:=by
 rw[List.take_succ_eq_append_getElem h,sumE_app,sumE_cons,sumE_nil,Int.add_zero]
theorem sumE_low {m:Int} : ∀ {l:List E},(∀ e∈l,-m≤e.v∧e.v≤m) → -(m*l.length)≤sumE l∧sumE l≤m*l.length
 | [],_=>by simp[sumE_nil]
 | e::l,h=>by
  have h1:=h e (List.mem_cons_self);have h2:=sumE_low (l:=l) fun x hx=>h x (List.mem_cons_of_mem _ hx);rw[sumE_cons,List.length_cons]
  have h3:m*((l.length+1:Nat):Int)=m*l.length+m:=by rw[Int.natCast_add,Int.mul_add];simp
  omega
noncomputable def insE (e:E):List E→List E
 | []=>[e]
 | x::l=>if ltD (keyE e) (keyE x)then e::x::l else x::insE e l
theorem insE_mem (e:E):∀ (l:List E) (x:E),x∈insE e l↔x=e∨x∈l
 | [],x=>by simp[insE]
 | y::l,x=>by
  unfold insE
  split
  ·simp
  ·rw[List.mem_cons,insE_mem e l,List.mem_cons]
   constructor
   ·rintro (h | h | h)
    ·exact .inr (.inl h)
    ·exact .inl h
    ·exact .inr (.inr h)
   ·rintro (h | h | h)
    ·exact .inr (.inl h)
    ·exact .inl h
    ·exact .inr (.inr h)
theorem insE_sum (e:E):∀ l:List E,sumE (insE e l)=sumE l+e.v
 | []=>by unfold insE;rw[sumE_cons,sumE_nil];omega
 | x::l=>by
  unfold insE
  split
  ·rw[sumE_cons,sumE_cons];omega
  ·rw[sumE_cons,insE_sum e l,sumE_cons];omega
theorem insE_len (e:E):∀ l:List E,(insE e l).length=l.length+1
 | []=>rfl
 | x::l=>by
  unfold insE
  split
  ·rfl
  ·rw[List.length_cons,insE_len e l,List.length_cons]
theorem insE_rise (e:E):∀ l:List E,l.Pairwise (fun x y=>ltD (keyE x) (keyE y))→(∀ x∈l,keyE x≠keyE e)→(insE e l).Pairwise fun x y=>ltD (keyE x) (keyE y)
 | [],_,_=>by simp[insE]
 | x::l,h,hn=>by
  obtain⟨h1,h2⟩:=List.pairwise_cons.1 h;unfold insE
  split
  ·rename_i hlt
   refine List.pairwise_cons.2 ⟨fun y hy=>?_,h⟩
   rcases List.mem_cons.1 hy with rfl | hy
   ·exact hlt
   ·exact tot_dot.tr _ _ _ hlt (h1 y hy)
  ·rename_i hlt
   have hgt:ltD (keyE x) (keyE e):=by
    rcases tot_dot.tri (keyE e) (keyE x)with h3 | h3 | h3
    ·exact absurd h3 hlt
    ·exact absurd h3.symm (hn x (List.mem_cons_self))
    ·exact h3
   refine List.pairwise_cons.2 ⟨fun y hy=>?_,insE_rise e l h2 fun y hy=>hn y (List.mem_cons_of_mem _ hy)⟩
   rcases (insE_mem e l y).1 hy with rfl | hy
   ·exact hgt
   ·exact h1 y hy
noncomputable def addT (t:T) (e:E):T:=.mk (insE e t.es) t.ks
theorem rise_es {d:Nat} {t:T} (h:RightT (d+1) t):t.es.Pairwise fun x y=>ltD (keyE x) (keyE y):=by
 cases t
 exact upE h.2.1
theorem new_key {t:T} {e:E} (hn:∀ p,entAt t p (keyE e)=none) {d:Nat} (h:RightT (d+1) t):∀ x∈t.es,keyE x≠keyE e:=fun x hx hk=>by
 have h1:entAt t [] (keyE x)=some x:=(look_iff (key:=keyE) tot_dot (rise_es h)).2 ⟨hx,rfl⟩;rw[hk,hn]at h1
 cases h1
theorem right_add {t:T} {e:E} {d:Nat} (h:RightT (d+1) t) (he:RightE e) (hn:∀ p,entAt t p (keyE e)=none):RightT (d+1) (addT t e):=by
 have hk:=new_key hn h;have hr:=insE_rise e t.es (rise_es h) hk
 cases t with
 | mk es ks=>
  refine⟨fun x hx=>?_,?_,h.2.2⟩
  ·rcases (insE_mem e es x).1 hx with rfl | hx
   ·exact he
   ·exact h.1 x hx
  ·exact hr.imp fun {x y} hxy=>(ltE_iff.2 (by
    have h1:ltD (x.a,x.n) (y.a,y.n):=hxy;unfold ltD at h1
    exact h1))
theorem entAt_add {t:T} {e:E} {d:Nat} (h:RightT (d+1) t) (hn:∀ p,entAt t p (keyE e)=none) (p:List ByteArray) (q:Int×Int):entAt (addT t e) p q=if p=[]∧keyE e=q then some e else entAt t p q:=by
 cases p with
 | nil=>
  show look keyE (insE e t.es) q=if _ then _ else look keyE t.es q
  have hr:=insE_rise e t.es (rise_es h) (new_key hn h)
  by_cases hq:keyE e=q
  ·rw[if_pos ⟨rfl,hq⟩]
   exact (look_iff (key:=keyE) tot_dot hr).2 ⟨(insE_mem _ _ _).2 (.inl rfl),hq⟩
  ·rw[if_neg fun h2=>hq h2.2]
   cases h1:look keyE t.es q with
   | some x=>
    obtain⟨h2,h3⟩:=(look_iff (key:=keyE) tot_dot (rise_es h)).1 h1;exact (look_iff (key:=keyE) tot_dot hr).2 ⟨(insE_mem _ _ _).2 (.inr h2),h3⟩
   | none=>
    refine look_none fun x hx hk=>?_
    rcases (insE_mem _ _ _).1 hx with rfl | hx
    ·exact hq hk
    ·have h4:=(look_iff (key:=keyE) tot_dot (rise_es h)).2 ⟨hx,hk⟩
     rw[h1]at h4
     cases h4
 | cons k p=>
  rw[if_neg fun h2=>by cases h2.1];rfl
theorem cnt_join {c r:K} {e:E} (hc:RK c) (he:RightE e) (hn:hasC c.2 e.a e.n=false) (h:IsJ c (oneT e,oneC e.a e.n) r):r.1=addT c.1 e:=by
 have hno:∀ p,entAt c.1 p (keyE e)=none:=fun p=>hc.unknown (q:=keyE e) hn;have hx:RK (oneT e,oneC e.a e.n):=right_one (right_oneT he) (right_oneC he.1) (by rw[has_oneC];exact decide_eq_true ⟨rfl,rfl⟩);refine tree_ext (d:=5) (.inl (h.right hc hx).tree) (.inl (right_add hc.tree he hno)) fun p q=>?_;rw[h.ent hc hx,entAt_add hc.tree hno,entAt_one]
 by_cases hpq:p=[]∧keyE e=q
 ·obtain⟨rfl,rfl⟩:=hpq
  rw[if_pos ⟨rfl,rfl⟩,if_pos ⟨rfl,rfl⟩,hno,stE_right,if_neg];show ¬hasC c.2 e.a e.n=true;rw[hn];simp
 ·rw[if_neg hpq,if_neg hpq]
  cases h1:entAt c.1 p q with
  | none=>rfl
  | some y=>
   rw[stE_left,if_neg];have hky:=entAt_key h1;show ¬hasC (oneC e.a e.n) y.a y.n=true;rw[has_oneC,decide_eq_true_iff];rintro⟨h2,h3⟩
   have hq:keyE e=q:=by rw[← hky];unfold keyE;rw[h2,h3]
   rw[← hq,hno]at h1
   cases h1
theorem cnt_sum {c r:K} {e:E} (hc:RK c) (he:RightE e) (hn:hasC c.2 e.a e.n=false) (h:IsJ c (oneT e,oneC e.a e.n) r):sumE r.1.es=sumE c.1.es+e.v∧r.1.es.length=c.1.es.length+1:=by
 rw[cnt_join hc he hn h];exact⟨insE_sum _ _,insE_len _ _⟩
theorem one_right {e:E} (he:RightE e):RK (oneT e,oneC e.a e.n):=right_one (right_oneT he) (right_oneC he.1) (by rw[has_oneC];exact decide_eq_true ⟨rfl,rfl⟩)
end Cs
end Go.Proofs.YtgeafpaognhokaaGreat
namespace Go.Proofs.YtgeafpaognhokaaGreat
namespace Cs
open Tr Cx Sp Rw Classical
def ownD (t:T):List (Int×Int):=t.es.map keyE
theorem ownD_dl (t:T):dl (.mk t.es [])=ownD t:=by
 unfold dl ownD;rw[leaves_mk];simp[below];exact fun _ _=>rfl
theorem right_own {d:Nat} {t:T} (h:RightT (d+1) t):RightT (d+1) (.mk t.es []):=by
 cases t
 exact⟨h.1,h.2.1,by simp,by simp⟩
theorem es_ent {d:Nat} {t:T} (h:RightT (d+1) t) {x:E} : x∈t.es↔entAt t [] (keyE x)=some x:=by
 rw[show entAt t [] (keyE x)=look keyE t.es (keyE x) from rfl,look_iff tot_dot (rise_es h)];exact⟨fun hx=>⟨hx,rfl⟩,fun hx=>hx.1⟩
theorem own_mem {d:Nat} {t:T} (h:RightT (d+1) t) {q:Int×Int} : q∈ownD t↔∃ e,entAt t [] q=some e:=by
 constructor
 ·intro hq
  obtain⟨x,hx,rfl⟩:=List.mem_map.1 hq;exact⟨x,(es_ent h).1 hx⟩
 ·rintro⟨e,he⟩
  have hk:=entAt_key he;exact List.mem_map.2 ⟨e,(es_ent h).2 (by rw[hk];exact he),hk⟩
theorem own_sub {d:Nat} {t:T} (h:RightT (d+1) t) {q:Int×Int} (hq:q∈ownD t):q∈dl t:=by
 obtain⟨e,he⟩:=(own_mem h).1 hq;have hk:=entAt_key he;have h1:([],e)∈leaves t:=(leaf_iff h [] e).2 (by rw[hk];exact he);exact List.mem_map.2 ⟨([],e),h1,hk⟩
end Cs
end Go.Proofs.YtgeafpaognhokaaGreat
namespace Go.Proofs.YtgeafpaognhokaaGreat
namespace Cs
open Tr Cx Sp Rw Classical
def elemsT (t:T):List ByteArray:=(t.ks.filter fun k=>decide (0<k.2.es.length)).map fun k=>k.1
theorem kidAt_of {ks:List Kd} (h:ks.Pairwise fun x y=>ltS x.1 y.1) {x:Kd} (hx:x∈ks):kidAt ks x.1=x.2:=by
 rw[kidAt_look,show look keyK ks x.1=some x from (look_iff (key:=keyK) tot_str h).2 ⟨hx,rfl⟩];rfl
theorem entAt_kid (t:T) (k:ByteArray) (p:List ByteArray) (q:Int×Int):entAt t (k::p) q=entAt (kidAt t.ks k) p q:=rfl
theorem rise_ext {l m:List ByteArray} (hl:l.Pairwise ltS) (hm:m.Pairwise ltS) (h:∀ x,x∈l↔x∈m):l=m:=by
 refine up_ext (key:=id) tot_str hl hm fun k=>?_
 by_cases hk:k∈l
 ·rw[show look id l k=some k from (look_iff (key:=id) tot_str hl).2 ⟨hk,rfl⟩,show look id m k=some k from (look_iff (key:=id) tot_str hm).2 ⟨(h k).1 hk,rfl⟩]
 ·rw[show look id l k=none from look_none fun x hx e=>hk (by rw[← show x=k from e];exact hx),show look id m k=none from look_none fun x hx e=>hk (by rw[← show x=k from e];exact (h x).2 hx)]
structure SortIs (l m:List ByteArray):Prop where
 rise:m.Pairwise ltS
 mem:∀ x,x∈m↔x∈l
theorem SortIs.eq {l m m':List ByteArray} (h:SortIs l m) (h':SortIs l m'):m=m':=rise_ext h.rise h'.rise fun x=>(h.mem x).trans (h'.mem x).symm
theorem right_wrap1 {e:E} {s:ByteArray} (he:RightE e) (hs:KeyOk s):RightT 5 (wrapT (oneT e) [s]):=by
 have h:=RightT.wrap (d:=1) (right_oneT (d:=0) he) (fun h=>by cases h.1) (p:=[s]) (fun k hk=>by rw[List.mem_singleton.1 hk];exact hs);exact RightT.more (RightT.more (RightT.more h))
theorem ent_dl {d:Nat} {t:T} (h:RightT d t) {p:List ByteArray} {q:Int×Int} {e:E} (he:entAt t p q=some e):q∈dl t:=by
 have hk:=entAt_key he;have h1:(p,e)∈leaves t:=(leaf_iff h p e).2 (by rw[hk];exact he);exact List.mem_map.2 ⟨(p,e),h1,hk⟩
theorem dl_ent {d:Nat} {t:T} (h:RightT d t) {q:Int×Int} (hq:q∈dl t):∃ p e,entAt t p q=some e:=by
 obtain⟨x,hx,rfl⟩:=List.mem_map.1 hq;exact⟨x.1,x.2,(leaf_iff h x.1 x.2).1 hx⟩
def OnceT (t:T):Prop:=∀ p p' q e e',entAt t p q=some e→entAt t p' q=some e'→p=p'
theorem kid_right {t:T} (h:RightT 5 t) (k:ByteArray):RightT 5 (kidAt t.ks k):=by
 cases t
 exact RightT.kid (d:=4) h k
theorem kid_sub {t:T} (ht:RightT 5 t) {s:ByteArray} {q:Int×Int} (h:q∈dl (kidAt t.ks s)):q∈dl t:=by
 obtain⟨p,e,h1⟩:=dl_ent (kid_right ht s) h;exact ent_dl ht (p:=s::p) (e:=e) h1
end Cs
end Go.Proofs.YtgeafpaognhokaaGreat
namespace Go.Proofs.YtgeafpaognhokaaGreat
namespace Cs
open Tr Cx Sp Rw Classical
structure OpM where
 path:List ByteArray
 act:Int
 s:ByteArray
 n:Int
def kindK (k:ByteArray):Nat:=match k.data.toList with
 | 102::_=>1
 | 115::_=>2
 | 99::_=>3
 | 114::_=>4
 | 109::_=>5
 | _=>0
def lastK (p:List ByteArray):Nat:=match p.getLast? with
 | some k=>kindK k
 | none=>0
structure PathOk (p:List ByteArray):Prop where
 some:p≠[]
 few:p.length≤3
 each:∀ k∈p,k.size≤30∧kindK k≠0
 maps:∀ (i:Nat) (h:i<p.length),i+1<p.length→kindK p[i]=5
def actOk (a:Int) (k:Nat):Prop:=(a=1∨a=2)∧k=1∨(a=3∨a=4)∧k=2∨a=5∧k=3∨a=6∧k=4∨a=7
structure OpOk (o:OpM):Prop where
 path:PathOk o.path
 act:actOk o.act (lastK o.path)
 key:(o.act=3∨o.act=4)→KeyOk o.s
 text:o.act=6→o.s.size≤30
 none_:¬(o.act=3∨o.act=4∨o.act=6)→o.s=⟨#[]⟩
 num:o.act=5 → -1099511627776≤o.n∧o.n≤1099511627776
 zero:o.act≠5→o.n=0
def brings (a:Int):Prop:=a=1∨a=3∨a=5∨a=6
def endP (o:OpM):List ByteArray:=if o.act=3 then o.path++[o.s]else o.path
def undoes (x e:OpM):Prop:=x.path <+: e.path∧(x.act=7∨(e.path.length=x.path.length∧((x.act=1∨x.act=2)∧e.act=1∨(x.act=3∨x.act=4)∧e.act=3∧e.s=x.s∨x.act=6∧e.act=6)))
def seesAt (o:OpM) (p:List ByteArray):Prop:=(o.act=1∨o.act=2∨o.act=7)∧o.path <+: p∨(o.act=3∨o.act=4)∧o.path++[o.s] <+: p∨o.act=6∧p=o.path
theorem entAt_get (t:T) (p p':List ByteArray) (q:Int×Int):entAt (getT t p) p' q=entAt t (p++p') q:=by
 induction p generalizing t with
 | nil=>rfl
 | cons k p ih=>exact ih (kidAt t.ks k)
theorem getT_right {t:T} (h:RightT 5 t) (p:List ByteArray):RightT 5 (getT t p):=by
 induction p generalizing t with
 | nil=>exact h
 | cons k p ih=>exact ih (kid_right h k)
theorem dl_iff {t:T} (h:RightT 5 t) {q:Int×Int} : q∈dl t↔∃ p e,entAt t p q=some e:=by
 constructor
 ·intro hq
  obtain⟨x,hx,rfl⟩:=List.mem_map.1 hq;exact⟨x.1,x.2,(leaf_iff h x.1 x.2).1 hx⟩
 ·rintro⟨p,e,he⟩
  have hk:=entAt_key he;exact List.mem_map.2 ⟨(p,e),(leaf_iff h p e).2 (by rw[hk];exact he),hk⟩
noncomputable def seesL (t:T) (o:OpM):List (Int×Int):=
 if o.act=3∨o.act=4 then dl (getT t (o.path++[o.s]))else if o.act=5 then []else if o.act=6 then ownD (getT t o.path)else dl (getT t o.path)
theorem sees_iff {t:T} (h:RightT 5 t) {o:OpM} (ho:OpOk o) {q:Int×Int} : q∈seesL t o↔∃ p e,entAt t p q=some e∧seesAt o p:=by
 have ha:=ho.act;unfold actOk at ha;unfold seesL seesAt
 have pre:∀ p0:List ByteArray,(q∈dl (getT t p0)↔∃ p e,entAt t p q=some e∧p0 <+: p):=fun p0=>by
  rw[dl_iff (getT_right h p0)];constructor
  ·rintro⟨p,e,he⟩
   rw[entAt_get]at he;exact⟨_,e,he,List.prefix_append _ _⟩
  ·rintro⟨p,e,he,c,rfl⟩
   exact⟨c,e,by rw[entAt_get];exact he⟩
 split
 ·rename_i h1
  rw[pre];constructor
  ·rintro⟨p,e,he,hp⟩
   exact⟨p,e,he,.inr (.inl ⟨h1,hp⟩)⟩
  ·rintro⟨p,e,he,⟨h2,_⟩ | ⟨_,hp⟩ | ⟨h2,_⟩⟩
   ·omega
   ·exact⟨p,e,he,hp⟩
   ·omega
 ·rename_i h1
  split
  ·rename_i h5
   simp only[List.not_mem_nil,false_iff]
   rintro⟨p,e,he,⟨h2,_⟩ | ⟨h2,_⟩ | ⟨h2,_⟩⟩ <;> omega
  ·rename_i h5
   split
   ·rename_i h6
    rw[own_mem (d:=4) (getT_right h o.path)];constructor
    ·rintro⟨e,he⟩
     rw[entAt_get,List.append_nil]at he;exact⟨_,e,he,.inr (.inr ⟨h6,rfl⟩)⟩
    ·rintro⟨p,e,he,⟨h2,_⟩ | ⟨h2,_⟩ | ⟨_,rfl⟩⟩
     ·omega
     ·omega
     ·exact⟨e,by rw[entAt_get,List.append_nil];exact he⟩
   ·rename_i h6
    rw[pre];constructor
    ·rintro⟨p,e,he,hp⟩
     exact⟨p,e,he,.inl ⟨by omega,hp⟩⟩
    ·rintro⟨p,e,he,⟨_,hp⟩ | ⟨h2,_⟩ | ⟨h2,_⟩⟩
     ·exact⟨p,e,he,hp⟩
     ·omega
     ·omega
structure Ev where
 d:Int×Int
 o:OpM
 seen:List S3
noncomputable def entOf (ev:Ev):E:=⟨ev.d.1,ev.d.2,if ev.o.act=6 then ev.o.s else⟨#[]⟩,ev.o.n⟩
structure Made15 (all:List Ev):Prop where
 diff:all.Pairwise fun x y=>x.d≠y.d
 ok:∀ x∈all,OpOk x.o
 seen:∀ x∈all,∀ a n,hasC x.seen a n=true→∃ y∈all,y.d=(a,n)
theorem pair_one:∀ {all:List Ev},all.Pairwise (fun x y=>x.d≠y.d)→∀ x∈all,∀ y∈all,x.d=y.d→x=y
 | [],_,x,hx,_,_,_=>by cases hx
 | z::l,h,x,hx,y,hy,e=>by
  obtain⟨h1,h2⟩:=List.pairwise_cons.1 h
  rcases List.mem_cons.1 hx with h3 | h3 <;> rcases List.mem_cons.1 hy with h4 | h4
  ·rw[h3,h4]
  ·exact absurd (by rw[← h3];exact e) (h1 y h4)
  ·exact absurd (by rw[← h4];exact e.symm) (h1 x h3)
  ·exact pair_one h2 x h3 y h4 e
theorem Made15.one {all:List Ev} (h:Made15 all):∀ x∈all,∀ y∈all,x.d=y.d→x=y:=pair_one h.diff
def Stands (all:List Ev) (c:List S3) (ev:Ev):Prop:=brings ev.o.act∧∀ y∈all,hasC c y.d.1 y.d.2=true→hasC y.seen ev.d.1 ev.d.2=true→¬undoes y.o ev.o
structure Knows (all:List Ev) (k:K):Prop where
 right:RK k
 made:∀ a n,hasC k.2 a n=true→∃ y∈all,y.d=(a,n)
 down:∀ y∈all,hasC k.2 y.d.1 y.d.2=true→∀ a n,hasC y.seen a n=true→hasC k.2 a n=true
 ent:∀ p q e,entAt k.1 p q=some e↔∃ y∈all,y.d=q∧hasC k.2 q.1 q.2=true∧endP y.o=p∧entOf y=e∧Stands all k.2 y
structure DeltaOf (t:T) (o:OpM) (d:Int×Int) (x:K):Prop where
 tree:x.1=if brings o.act then wrapT (oneT (entOf ⟨d,o,[]⟩)) (endP o)else none_
 ctx:∃ u,OfC (seesL t o) u∧PutC uniF u (oneC d.1 d.2) x.2
theorem entAt_wrap (e:E):∀ (s p:List ByteArray) (q:Int×Int),entAt (wrapT (oneT e) s) p q=if p=s∧keyE e=q then some e else none
 | [],p,q=>entAt_one e p q
 | k::s,p,q=>by
  cases p with
  | nil=>
   rw[if_neg (by rintro⟨h,_⟩;cases h)];rfl
  | cons k' p=>
   rw[entAt_kid]
   show entAt (if k=k' then wrapT (oneT e) s else none_) p q=_
   by_cases hk:k=k'
   ·subst hk
    rw[if_pos rfl,entAt_wrap e s p q]
    by_cases h:p=s∧keyE e=q
    ·rw[if_pos h,if_pos ⟨by rw[h.1],h.2⟩]
    ·rw[if_neg h,if_neg (by rintro⟨h1,h2⟩;injection h1 with _ h1;exact h ⟨h1,h2⟩)]
   ·rw[if_neg hk,entAt_none,if_neg (by rintro⟨h1,_⟩;injection h1 with h1;exact hk h1.symm)]
theorem Made15.snoc {all:List Ev} (h:Made15 all) {ev:Ev} (hf:∀ y∈all,y.d≠ev.d) (ho:OpOk ev.o) (hs:∀ a n,hasC ev.seen a n=true→∃ y∈all,y.d=(a,n)):Made15 (all++[ev]):=by
 have hin:∀ y,y∈all++[ev]↔y∈all∨y=ev:=fun y=>by rw[List.mem_append,List.mem_singleton]
 refine⟨List.pairwise_append.2 ⟨h.diff,by simp,fun x hx y hy=>by rw[List.mem_singleton.1 hy];exact hf x hx⟩,fun x hx=>?_,fun x hx a n hh=>?_⟩
 ·rcases (hin x).1 hx with hx | rfl
  ·exact h.ok x hx
  ·exact ho
 ·rcases (hin x).1 hx with hx | rfl
  ·obtain⟨y,hy,hd⟩:=h.seen x hx a n hh
   exact⟨y,(hin y).2 (.inl hy),hd⟩
  ·obtain⟨y,hy,hd⟩:=hs a n hh
   exact⟨y,(hin y).2 (.inl hy),hd⟩
theorem Knows.none_:Knows [] noneK:=⟨right_noneK,fun a n h=>(by cases (show hasC [] a n=true from h)),fun y hy=>(by cases hy),fun p q e=>by
 rw[show entAt noneK.1 p q=none from entAt_none p q];constructor
 ·intro h;cases h
 ·rintro⟨y,hy,_⟩;cases hy⟩
theorem Knows.same {all:List Ev} {a b:K} (ha:Knows all a) (hb:Knows all b) (h:a.2=b.2):a=b:=by
 refine Prod.ext (tree_ext (d:=5) (.inl ha.right.tree) (.inl hb.right.tree) fun p q=>?_) h
 have he:∀ e,entAt a.1 p q=some e↔entAt b.1 p q=some e:=fun e=>by rw[ha.ent,hb.ent,h]
 cases h1:entAt a.1 p q with
 | some e=>exact ((he e).1 h1).symm
 | none=>
  cases h2:entAt b.1 p q with
  | none=>rfl
  | some e=>rw[(he e).2 h2]at h1;cases h1
end Cs
end Go.Proofs.YtgeafpaognhokaaGreat
namespace Go.Proofs.YtgeafpaognhokaaGreat
open Go.ChangeShapes Go.WideShapes Go.ChangeAt Go.RowKit
namespace Cs
open Tr Cx Sp Rw Classical
end Cs
end Go.Proofs.YtgeafpaognhokaaGreat
namespace Go.Proofs.YtgeafpaognhokaaGreat
open Go.ChangeShapes Go.WideShapes Go.ChangeAt Go.RowKit
namespace Cs
open Tr Cx Sp Rw Classical
theorem ins_ex (s:ByteArray):∀ m:List ByteArray,m.Pairwise ltS→∃ m':List ByteArray,m'.Pairwise ltS∧m'.length≤m.length+1∧∀ x,x∈m'↔x=s∨x∈m
 | [],_=>⟨[s],by simp,by simp,by simp⟩
 | a::m,h=>by
  obtain⟨h1,h2⟩:=List.pairwise_cons.1 h
  rcases tot_str.tri s a with h3 | h3 | h3
  ·refine⟨s::a::m,List.pairwise_cons.2 ⟨fun x hx=>?_,h⟩,by simp,fun x=>List.mem_cons⟩
   rcases List.mem_cons.1 hx with rfl | hx
   ·exact h3
   ·exact tot_str.tr _ _ _ h3 (h1 x hx)
  ·subst h3
   exact⟨s::m,h,by simp,fun x=>by rw[List.mem_cons];constructor <;> intro h <;> simp_all⟩
  ·obtain⟨m',h4,h5,h6⟩:=ins_ex s m h2
   refine⟨a::m',List.pairwise_cons.2 ⟨fun x hx=>?_,h4⟩,by simp;omega,fun x=>?_⟩
   ·rcases (h6 x).1 hx with rfl | hx
    ·exact h3
    ·exact h1 x hx
   ·rw[List.mem_cons,h6,List.mem_cons]
    constructor
    ·rintro (h | h | h)
     ·exact .inr (.inl h)
     ·exact .inl h
     ·exact .inr (.inr h)
    ·rintro (h | h | h)
     ·exact .inr (.inl h)
     ·exact .inl h
     ·exact .inr (.inr h)
theorem sort_ex:∀ l:List ByteArray,∃ m,SortIs l m∧m.length≤l.length
 | []=>⟨[],⟨by simp,fun x=>Iff.rfl⟩,by simp⟩
 | a::l=>by
  obtain⟨m,h1,h2⟩:=sort_ex l;obtain⟨m',h3,h4,h5⟩:=ins_ex a m h1.rise;exact⟨m',⟨h3,fun x=>by rw[h5,h1.mem,List.mem_cons]⟩,by simp;omega⟩
end Cs
end Go.Proofs.YtgeafpaognhokaaGreat
namespace Go.Proofs.YtgeafpaognhokaaGreat
open Go.ChangeShapes Go.WideShapes Go.ChangeAt Go.RowKit
namespace Cs
open Tr Cx Sp Rw Classical
def Low (b:Nat) (w:World):Prop:=b≤w.heap.size
theorem Low.later {b:Nat} {w w':World} (h:Low b w) (hb:Below w.heap.size w w'):Low b w':=Nat.le_trans h hb.size
structure EvP where
 ev:Ev
 p:SV
 q:SV
def evC (x:EvP):List Value:=[.int .i64 x.ev.d.1,.int .i64 x.ev.d.2,.slice x.p.A x.p.n x.p.c,.int .i64 x.ev.o.act,.string x.ev.o.s,.int .i64 x.ev.o.n,.slice x.q.A x.q.n x.q.c]
structure EvAt (w:World) (B:Nat) (x:EvP):Prop where
 path:Rd w B 1 x.p.A x.p.n x.p.c (Tr.strs x.ev.o.path)
 seen:Rd w B 3 x.q.A x.q.n x.q.c (spsC x.ev.seen)
theorem EvAt.more {w:World} {B B':Nat} {x:EvP} (h:EvAt w B x) (hB:B≤B'):EvAt w B' x:=⟨h.path.more hB,h.seen.more hB⟩
theorem EvAt.below {w w':World} {B:Nat} {x:EvP} (h:EvAt w B x) (hb:Below B w w'):EvAt w' B x:=⟨h.path.below hb,h.seen.below hb⟩
structure EvRd (w:World) (B:Nat) (A:Option Addr) (n c:Nat) (l:List EvP):Prop where
 len:l.length=n
 row:Rd w B 7 A n c (l.flatMap evC)
 each:∀ x∈l,EvAt w B x
theorem EvRd.later {w w':World} {A:Option Addr} {n c:Nat} {l:List EvP} (h:EvRd w w.heap.size A n c l) (hb:Below w.heap.size w w'):EvRd w' w'.heap.size A n c l:=⟨h.len,h.row.later hb,fun x hx=>((h.each x hx).below hb).more hb.size⟩
end Cs
end Go.Proofs.YtgeafpaognhokaaGreat
namespace Go.Proofs.YtgeafpaognhokaaGreat
namespace Cs
open Tr Cx Sp Rw Classical
end Cs
end Go.Proofs.YtgeafpaognhokaaGreat
namespace Go.Proofs.YtgeafpaognhokaaGreat
namespace Cs
open Tr Cx Sp Rw Classical
noncomputable def oneK (e:E):K:=(oneT e,oneC e.a e.n)
theorem put_one {a n:Int} (h:Dt.rightB a n=true):PutC uniF [] (oneC a n) (oneC a n):=⟨right_oneC h,fun d m _=>by
 show hasC (oneC a n) d m=(false||hasC (oneC a n) d m)
 rw[Bool.false_or]⟩
theorem stAll_none {l:List K} {p:List ByteArray} {q:Int×Int} (h:∀ k∈l,Cs.st k p q=none):stAll l p q=none:=by
 induction l with
 | nil=>rfl
 | cons k l ih=>
  show mx (Cs.st k p q) (stAll l p q)=none;rw[h k (List.mem_cons_self),ih fun x hx=>h x (List.mem_cons_of_mem _ hx)];rfl
theorem AllJ.hasno {l:List K} {x:K} (h:AllJ l x) {a n:Int} (hn:∀ k∈l,hasC k.2 a n=false):hasC x.2 a n=false:=by
 cases h2:hasC x.2 a n with
 | false=>rfl
 | true=>
  have h3:Cs.st x [] (a,n)=none:=by
   rw[h.st];exact stAll_none fun k hk=>st_none (k:=k) (q:=(a,n)) (hn k hk)
  rw[st_some (k:=x) (q:=(a,n)) h2]at h3
  cases h3
def cA (k:Nat):Int:=((k % 4:Nat):Int)
def cN (k:Nat):Int:=1099511627776-(k:Int)
theorem oneK_has (e:E) (a n:Int):hasC (oneK e).2 a n=decide (a=e.a∧n=e.n):=has_oneC _ _ _ _
theorem oneK_right {e:E} (he:RightE e):RK (oneK e):=one_right he
def sumL (l:List Int) (k:Nat):Int:=(l.take k).sum
theorem sumL_zero (l:List Int):sumL l 0=0:=by unfold sumL;simp
theorem sumL_succ {l:List Int} {k:Nat} (h:k<l.length):sumL l (k+1)=sumL l k+l[k]:=by
 unfold sumL;rw[List.take_succ_eq_append_getElem h,List.sum_append_int,List.sum_cons,List.sum_nil,Int.add_zero]
structure Made (c:K) (l:List Int) (xs:List K):Prop where
 each:∀ (j:Nat) (h:j<xs.length) (h2:j<l.length),xs[j]=oneK ⟨cA j,cN j,⟨#[]⟩,l[j]⟩∧RightE ⟨cA j,cN j,⟨#[]⟩,l[j]⟩∧hasC c.2 (cA j) (cN j)=false
theorem Made.nil (c:K) (l:List Int):Made c l []:=⟨fun j h _=>absurd h (Nat.not_lt_zero j)⟩
theorem Made.snoc {c:K} {l:List Int} {xs:List K} (h:Made c l xs) (hl:xs.length<l.length) {k:K} (hk:k=oneK ⟨cA xs.length,cN xs.length,⟨#[]⟩,l[xs.length]⟩) (he:RightE ⟨cA xs.length,cN xs.length,⟨#[]⟩,l[xs.length]⟩) (hn:hasC c.2 (cA xs.length) (cN xs.length)=false):Made c l (xs++[k]):=⟨fun j hj hj2=>by
 by_cases e:j<xs.length
 ·rw[List.getElem_append_left e]
  exact h.each j e hj2
 ·rw[List.length_append,List.length_singleton]at hj
  obtain rfl:j=xs.length:=by omega
  rw[List.getElem_append_right (Nat.le_refl _)];simp only[Nat.sub_self,List.getElem_cons_zero]
  exact⟨hk,he,hn⟩⟩
theorem Made.right {c:K} {l:List Int} {xs:List K} (h:Made c l xs) (hl:xs.length≤l.length) (j:Nat) (hj:j<xs.length):RK xs[j]:=by
 obtain⟨h1,h2,_⟩:=h.each j hj (by omega);rw[h1];exact oneK_right h2
structure Fore (c:K) (l:List Int) (xs:List K) (k:Nat) (ka:K):Prop where
 all:AllJ (c::xs.take k) ka
 sum:sumE ka.1.es=sumE c.1.es+sumL l k
theorem Fore.zero {c:K} (hc:RK c) (l:List Int) (xs:List K):Fore c l xs 0 c:=⟨by rw[List.take_zero];exact AllJ.one hc,by rw[sumL_zero,Int.add_zero]⟩
theorem Fore.step {c:K} {l:List Int} {xs:List K} {k:Nat} {ka r:K} (hm:Made c l xs) (h:Fore c l xs k ka) (hk:k<xs.length) (hl:xs.length≤l.length) (hj:IsJ ka xs[k] r):Fore c l xs (k+1) r:=by
 obtain⟨h1,h2,h3⟩:=hm.each k hk (by omega);refine⟨?_,?_⟩
 ·rw[List.take_succ_eq_append_getElem hk,← List.cons_append]
  exact h.all.snoc (hm.right hl k hk) hj
 ·have hno:hasC ka.2 (cA k) (cN k)=false:=by
   refine h.all.hasno fun y hy=>?_
   rcases List.mem_cons.1 hy with rfl | hy
   ·exact h3
   ·obtain⟨j,hj2,rfl⟩:=List.getElem_of_mem hy
    rw[List.length_take]at hj2;rw[List.getElem_take];obtain⟨g1,_,_⟩:=hm.each j (by omega) (by omega);rw[g1,oneK_has,decide_eq_false];rintro⟨_,e⟩;have e:cN k=cN j:=e;unfold cN at e;omega
  rw[h1]at hj;have hs:=(cnt_sum (e:=⟨cA k,cN k,⟨#[]⟩,l[k]'(by omega)⟩) h.all.right h2 hno hj).1;rw[hs,h.sum,sumL_succ (by omega),Int.add_assoc]
end Cs
end Go.Proofs.YtgeafpaognhokaaGreat
namespace Go.Proofs.YtgeafpaognhokaaGreat
namespace Cs
open Tr Cx Sp Rw Classical
end Cs
end Go.Proofs.YtgeafpaognhokaaGreat
namespace Go.Proofs.YtgeafpaognhokaaGreat
open Go.ChangeShapes Go.WideShapes Go.ChangeAt Go.RowKit
namespace Cs
open Tr Cx Sp Rw Classical
theorem small_v {t:T} (ht:RightT 5 t):∀ e∈t.es,-1099511627776≤e.v∧e.v≤1099511627776:=by
 cases t with
 | mk es ks=>exact fun e he=>⟨(ht.1 e he).2.2.1,(ht.1 e he).2.2.2⟩
theorem sum_take {es:List E} (h:∀ e∈es,-1099511627776≤e.v∧e.v≤1099511627776) (k:Nat) (hk:k≤1000) : -1099511627776000≤sumE (es.take k)∧sumE (es.take k)≤1099511627776000:=by
 have h1:=sumE_low (m:=1099511627776) (l:=es.take k) fun e he=>h e (List.mem_of_mem_take he)
 have h2:(es.take k).length≤k:=by rw[List.length_take];omega
 omega
set_option maxRecDepth 100000 in
set_option maxHeartbeats 4000000 in
theorem value_any (t:T) (Ae Ak:Option Addr) (ne nk ce ck:Nat) (w:World) (x:Int) (hx:(if Tr.rightB 5 t=true then sumE t.es else 0)=x) (hl:LenT reachBytes t) (hn:nodes t≤999) (hr:RdT w w.heap.size t ⟨Ae,ne,ce⟩ ⟨Ak,nk,ck⟩) :
  Calls Tryz.prog 115 #[.agg #[.slice Ae ne ce,.slice Ak nk ck]] w fun e w'=>e = .returned (.int .i64 x)∧Below w.heap.size w w':=by
 have HR0:=Lib.hid hr;have HL:=Lib.hid hl;have HX:=Lib.hid hx;clear hx hl;obtain⟨g,hg⟩:∃ g,g=w.heap.size:=⟨_,rfl⟩;have HK:=Lib.hid (tree_box w Ae Ak ne nk ce ck);rw[← hg]at HK;obtain⟨W0,hW0⟩:∃ W,W=w.alloc (.cells #[.slice Ae ne ce,.slice Ak nk ck] 35):=⟨_,rfl⟩;rw[← hW0]at HK;have HG:=Lib.hid hg;have HW0:=Lib.hid hW0;have k0:=HK.out.c0;have k1:=HK.out.c1;clear hg hW0;have HC:=Lib.hid (rightT_any t Ae Ak ne nk ce ck W0 HL.out (RdT.more HK.out.below.size _ (RdT.below HR0.out HK.out.below)));obtain⟨y,hy⟩:∃ y,Tr.rightB 5 t=y:=⟨_,rfl⟩;rw[hy]at HC HX;have HY:=Lib.hid hy;clear hy;go_enter Tryz.func115,Tryz.ntmps115;go_wp2_with fail;rw[← HG.out,← HW0.out];refine HC.out.mono ?_;rintro e v1 ⟨rfl,hb9⟩;have HKv:=Lib.hid (HK.out.later hb9);clear hb9 k0 k1 HC
 have k0:=HKv.out.c0;have k1:=HKv.out.c1
 cases y with
 | false=>
  obtain rfl:x=0:=HX.out.symm;go_wp2_with fail;go_ret;exact⟨rfl,HKv.out.below⟩
 | true=>
  have hsv:=small_v (Tr.rightB_iff.1 HY.out);clear HY
  cases t with
  | mk es ks=>
   obtain⟨hle,hlk⟩:=rd_lens hr;have HR:=Lib.hid hr;have HLE:=Lib.hid hle;have HSV:Hid (∀ e∈es,-1099511627776≤e.v∧e.v≤1099511627776):=hsv
   have hnk:ne≤999:=by have:=nodes_es es ks;omega
   clear hle hlk hr hsv;have HXS:Hid (sumE es=x):=HX.out;clear HX;clear hn;go_wp2_with fail;clear k0 k1
   go_loopw [3,12] (fun s9 i wr=>∃ (k:Nat),k≤ne∧i = .int .i64 k∧s9 = .int .i64 (sumE (es.take k))∧Hid (Kept [(⟨g,0,none⟩,.slice Ae ne ce),(⟨g,1,none⟩,.slice Ak nk ck)] w wr)) (fun _ i _=>ne-(intOf i).toNat)
   case atStart=>exact⟨0,by omega,rfl,rfl,HKv.out⟩
   case round=>
    obtain⟨k,hk,rfl,rfl,HKW⟩:=hrel;have k0:=HKW.out.c0;have k1:=HKW.out.c1
    by_cases hlt:k<ne
    ·have hkl:k<es.length:=by rw[HLE.out];exact hlt
     obtain⟨b,o,rfl,hb,hc⟩:=rd_ent HR.out (by omega);obtain⟨c0,c1,c2,c3⟩:=hc k hkl;have c0:=(HKW.out.below.cell (p:=⟨b,o+k*4,none⟩) hb).trans c0;have c1:=(HKW.out.below.cell (p:=⟨b,o+k*4+1,none⟩) hb).trans c1;have c2:=(HKW.out.below.cell (p:=⟨b,o+k*4+2,none⟩) hb).trans c2;have c3:=(HKW.out.below.cell (p:=⟨b,o+k*4+3,none⟩) hb).trans c3;obtain⟨s1,hs1⟩:∃ s:Int,sumE (es.take k)=s:=⟨_,rfl⟩;obtain⟨s2,hs2⟩:∃ s:Int,sumE (es.take (k+1))=s:=⟨_,rfl⟩;have hst:=sumE_take hkl;have hlo:=sum_take HSV.out k (by omega);have hhi:=sum_take HSV.out (k+1) (by omega);have hee:=HSV.out _ (List.getElem_mem hkl);obtain⟨v,hv⟩:∃ v:Int,(es[k]).v=v:=⟨_,rfl⟩;rw[hv]at c3 hst hee;rw[hs1]at hst hlo ⊢;rw[hs2]at hst hhi
     have hw:IntKind.i64.wrap (s1+v)=s2:=by rw[IntKind.wrap_i64];omega
     have HS2:=Lib.hid hs2;clear hs1 hs2 hst hlo hhi hee hv hc

     go_wp2_with fail;go_roundw
     case rel=>exact⟨k+1,by omega,by go_num,by rw[HS2.out],(HKW.out.alloc _)⟩
     case measure=>simp[intOf];omega
    ·obtain rfl:k=ne:=by omega
     have hsum:sumE (es.take k)=x:=by rw[← HXS.out,List.take_of_length_le (by rw[HLE.out];omega)]
     rw[hsum];clear hsum;go_wp2_with fail;go_ret;exact⟨rfl,HKW.out.below⟩
end Cs
end Go.Proofs.YtgeafpaognhokaaGreat
namespace Go.Proofs.YtgeafpaognhokaaGreat
open Go.ChangeShapes Go.WideShapes Go.ChangeAt Go.RowKit Go.Shelf Go.Sort
namespace Cs
open Tr Cx Sp Rw Classical
theorem up_mem {α:Type} [Inhabited α] [DecidableEq α] (d:Array α):∀ m j,j<m→d[j]! ∈ Lib.compactUpTo d m
 | 0,j,h=>absurd h (by omega)
 | m+1,j,h=>by
  rw[Lib.compactUpTo_succ,List.mem_append]
  by_cases hj:j<m
  ·exact .inl (up_mem d m j hj)
  ·obtain rfl:j=m:=by omega
   cases hk:Lib.keeps d j with
   | true=>exact .inr (by simp)
   | false=>
    have h1:¬(j=0∨d[j]! ≠ d[j-1]!):=of_decide_eq_false hk;have h2:j≠0:=fun e=>h1 (.inl e);have h3:d[j]! = d[j-1]!:=Classical.byContradiction fun e=>h1 (.inr e);rw[h3];exact .inl (up_mem d j (j-1) (by omega))
theorem up_of {α:Type} [Inhabited α] [DecidableEq α] {d:Array α} {m:Nat} {x:α} (h:x∈Lib.compactUpTo d m):∃ j,j<m∧x=d[j]!:=by
 unfold Lib.compactUpTo at h;obtain⟨j,hj,rfl⟩:=List.mem_map.1 h;exact⟨j,List.mem_range.1 (List.mem_filter.1 hj).1,rfl⟩
theorem up_rise (d:Array (List UInt8)) (hs:∀ i j,i<j→j<d.size→Op.bytesLess d[j]! d[i]! = false):∀ m,m≤d.size→(Lib.compactUpTo d m).Pairwise fun a b=>Op.bytesLess a b=true
 | 0,_=>by simp[Lib.compactUpTo]
 | m+1,h=>by
  rw[Lib.compactUpTo_succ,List.pairwise_append]
  refine⟨up_rise d hs m (by omega),by split <;> simp,fun a ha b hb=>?_⟩
  obtain⟨j,hj,rfl⟩:=up_of ha
  cases hk:Lib.keeps d m with
  | false=>rw[hk]at hb;simp at hb
  | true=>
   rw[hk]at hb
   obtain rfl:b=d[m]!:=by simpa using hb
   have h1:d[m]! ≠ d[m-1]!:=by
    have h2:m=0∨d[m]! ≠ d[m-1]!:=of_decide_eq_true hk
    rcases h2 with h2 | h2
    ·omega
    ·exact h2
   have h5:=hs j m hj (by omega)
   rcases bytesLess_tri d[j]! d[m]! with h2 | h2 | h2
   ·exact h2
   ·exfalso
    by_cases hjm:j=m-1
    ·rw[hjm]at h2;exact h1 h2.symm
    ·have h3:=hs j (m-1) (by omega) (by omega)
     have h4:=hs (m-1) m (by omega) (by omega);rw[h2]at h3
     rcases bytesLess_tri d[m]! d[m-1]! with h6 | h6 | h6
     ·rw[h6]at h4;cases h4
     ·exact h1 h6
     ·rw[h6]at h3;cases h3
   ·rw[h2]at h5;cases h5
def cmpS (l:List ByteArray):List ByteArray:=(Lib.compact (l.map toL)).map ofL
theorem cmpS_len (l:List ByteArray):(cmpS l).length≤l.length:=by
 unfold cmpS;rw[List.length_map];exact Nat.le_trans (Lib.compact_length_le _) (by rw[List.length_map];exact Nat.le_refl _)
theorem mem_compact' {zs:List (List UInt8)} {x:List UInt8} : x∈Lib.compact zs↔x∈zs:=by
 unfold Lib.compact;constructor
 ·intro h
  obtain⟨j,hj,rfl⟩:=up_of h;rw[show zs.toArray[j]! = zs[j] from by simp[hj]];exact List.getElem_mem hj
 ·intro h
  obtain⟨j,hj,rfl⟩:=List.getElem_of_mem h;have h2:=up_mem zs.toArray zs.length j hj
  rwa [show zs.toArray[j]! = zs[j] from by simp[hj]]at h2
theorem cmpS_mem {l:List ByteArray} {x:ByteArray} : x∈cmpS l↔x∈l:=by
 unfold cmpS;constructor
 ·intro h
  obtain⟨y,hy,rfl⟩:=List.mem_map.1 h;obtain⟨z,hz,rfl⟩:=List.mem_map.1 (mem_compact'.1 hy);rw[of_to];exact hz
 ·intro h
  exact List.mem_map.2 ⟨toL x,mem_compact'.2 (List.mem_map.2 ⟨x,h,rfl⟩),of_to x⟩
theorem cmpS_rise {l:List ByteArray} (h:l.Pairwise fun a b=>¬ltS b a):(cmpS l).Pairwise ltS:=by
 unfold cmpS;rw[List.pairwise_map]
 have h1:=up_rise (l.map toL).toArray (fun i j hij hj=>by
  have hj2:j<l.length:=by simpa using hj
  have hi2:i<l.length:=by omega
  have h2:=List.pairwise_iff_getElem.1 h i j hi2 hj2 hij;rw[show (l.map toL).toArray[j]! = toL l[j] from by simp[hj2],show (l.map toL).toArray[i]! = toL l[i] from by simp[hi2]]
  cases h3:Op.bytesLess (toL l[j]) (toL l[i])with
  | false=>rfl
  | true=>
   refine absurd ?_ h2;unfold ltS;rw[ByteArray.toList_eq,ByteArray.toList_eq]
   exact h3) (l.map toL).length (by simp)
 refine List.Pairwise.imp (fun {a b} h2=>?_) h1;unfold ltS;rw[ByteArray.toList_eq,ByteArray.toList_eq];show Op.bytesLess (toL (ofL a)) (toL (ofL b))=true;rw[to_of,to_of];exact h2
theorem cmpS_is (l:List ByteArray):SortIs l (cmpS (sortS l)):=⟨cmpS_rise (sortS_rise l),fun _=>cmpS_mem.trans sortS_mem⟩
theorem cmpS_own (l:List ByteArray) (n m:Nat) (A:Option Addr) (c base:Nat) (w:World) (hl:l.length=n) (hm:(cmpS l).length=m) (hn:n≤900000) (ho:Own w base 9 1 A n c (strs l)) :
  Calls Tryz.prog 150 #[.slice A n c] w fun e w'=>e = .returned (.slice A m c)∧Own w' base 9 1 A m c (strs (cmpS l))∧Below base w w':=by
 rcases Nat.eq_zero_or_pos n with h0 | h0
 ·subst h0
  have:l=[]:=List.eq_nil_of_length_eq_zero hl;subst this;have e0:cmpS []=[]:=List.eq_nil_of_length_eq_zero (Nat.le_zero.1 (cmpS_len []))
  obtain rfl:m=0:=by rw[← hm,e0];rfl
  refine (Go.Proofs.AnyG.slices_Compact_string_empty compS_lay A c w).mono ?_;rintro e w' ⟨rfl,rfl⟩;exact⟨rfl,by rw[e0];exact ho,Below.refl _ _⟩
 ·subst hl
  rcases ho.row.2 with ⟨_,h⟩ | ⟨g,cap,cur,hv,hg,hh,h1,h2,h3,h4⟩
  ·omega
  ·injection hv with e1 _ e3
   subst e1;subst e3;rw[Nat.mul_one,strs_enc]at h4;have hs:=Go.Proofs.AnyG.slices_Compact_string compS_lay g 0 c (l.map toL) w (holds_of_block hh (by simpa using h4)) (by rw[List.length_map];omega) (by rw[List.length_map];exact h1)
   have hmm:(Lib.compact (l.map toL)).length=m:=by rw[← hm];unfold cmpS;rw[List.length_map]
   rw[List.length_map,hmm]at hs;refine hs.mono ?_;rintro e w' ⟨rfl,q,rfl⟩;refine⟨rfl,⟨?_,strs_one _⟩,Lib.below_putRow (Below.refl _ _) hg⟩;have hr:=ho.row;rw[strs_enc]at hr
   have hle:m≤l.length:=by rw[← hm];exact cmpS_len l
   have h5:=Lib.ownsRow_putRow (q:=q) (k:=m) (ys:=Lib.compact (l.map toL)++List.replicate (l.length-m) []) hr (by simp;omega) hle;rw[← hmm,List.take_left]at h5;rw[hmm]at h5
   have e6:Tr.strs (cmpS l)=(Lib.compact (l.map toL)).map encStr:=by
    unfold Tr.strs cmpS;rw[List.map_map];rfl
   rw[e6];exact h5
end Cs
end Go.Proofs.YtgeafpaognhokaaGreat
namespace Go.Proofs.YtgeafpaognhokaaGreat
open Go.ChangeShapes Go.WideShapes Go.ChangeAt Go.RowKit
namespace Cs
open Tr Cx Sp Rw Classical
set_option maxRecDepth 100000 in
set_option maxHeartbeats 4000000 in
theorem rvalues_own (t:T) (Ae Ak:Option Addr) (ne nk ce ck:Nat) (w:World) (m:List ByteArray) (q:Nat) (hm:(Tr.rightB 5 t=true→SortIs (t.es.map E.s) m)∧(Tr.rightB 5 t=false→m=[])) (hq:m.length=q) (hl:LenT reachBytes t) (hn:nodes t≤1000) (hr:RdT w w.heap.size t ⟨Ae,ne,ce⟩ ⟨Ak,nk,ck⟩) :
  Calls Tryz.prog 116 #[.agg #[.slice Ae ne ce,.slice Ak nk ck]] w fun e w'=>∃ (A':Option Addr) (c':Nat),e = .returned (.slice A' q c')∧Hid (Own w' w.heap.size 9 1 A' q c' (strs m))∧Below w.heap.size w w':=by
 have HRT:∀ W,Below w.heap.size w W→Hid (Calls Tryz.prog 46 #[.agg #[.slice Ae ne ce,.slice Ak nk ck]] W fun e w'=>e = .returned (.bool (Tr.rightB 5 t))∧Below W.heap.size W w'):=fun W hW=>rightT_any t Ae Ak ne nk ce ck W hl (RdT.more hW.size _ (RdT.below hr hW));obtain⟨z,hz⟩:∃ z,Tr.rightB 5 t=z:=⟨_,rfl⟩;rw[hz]at hm HRT;have HM:=Lib.hid hm;have HQ:=Lib.hid hq;clear hz hm hq
 cases t with
 | mk es ks=>
  obtain⟨hle,hlk⟩:=rd_lens hr;have HR:=Lib.hid hr;have HLE:=Lib.hid hle
  have hnk:ne≤1000:=by have:=nodes_es es ks;omega
  clear hle hlk hr hl hn;obtain⟨g,hg⟩:∃ g,g=w.heap.size:=⟨_,rfl⟩;have HK:=Lib.hid (tree_box w Ae Ak ne nk ce ck);rw[← hg]at HK;obtain⟨W0,hW0⟩:∃ W,W=w.alloc (.cells #[.slice Ae ne ce,.slice Ak nk ck] 35):=⟨_,rfl⟩;rw[← hW0]at HK;have HG:=Lib.hid hg;have HW0:=Lib.hid hW0;have k0:=HK.out.c0;have k1:=HK.out.c1;clear hg hW0;go_enter Tryz.func116,Tryz.ntmps116;go_wp2_with fail;rw[← HG.out,← HW0.out];refine (HRT W0 HK.out.below).out.mono ?_;rintro e w1 ⟨rfl,hb9⟩;have HKc:=Lib.hid (HK.out.later hb9);clear hb9 k0 k1 HRT;have k0:=HKc.out.c0;have k1:=HKc.out.c1
  cases z with
  | false=>
   obtain rfl:m=[]:=HM.out.2 rfl;obtain rfl:q=0:=HQ.out.symm;go_wp2_with fail;go_ret;exact⟨none,0,rfl,⟨World.ownsRow_nil _ _ _ _,by simp[Tr.strs]⟩,HKc.out.below⟩
  | true=>
   have HSI:Hid (SortIs (es.map E.s) m):=HM.out.1 rfl;clear HM;go_wp2_with fail
   go_loopw [3,12] (fun v i wr=>∃ (k:Nat) (Ax:Option Addr) (cx:Nat),k≤ne∧i = .int .i64 k∧v = .slice Ax k cx∧Hid (Own wr w1.heap.size 9 1 Ax k cx (strs ((es.take k).map E.s)))∧Hid (Below w1.heap.size w1 wr)) (fun _ i _=>ne-(intOf i).toNat)
   case atStart=>exact⟨0,none,0,by omega,rfl,rfl,⟨World.ownsRow_nil _ _ _ _,by simp[Tr.strs]⟩,Below.refl _ _⟩
   case round=>
    obtain⟨k,Ax,cx,hk,rfl,rfl,HO,HBL⟩:=hrel;clear k0 k1
    by_cases hlt:k<ne
    ·have hbw:=HKc.out.below.trans (HBL.out.mono HKc.out.below.size)
     have hkl:k<es.length:=by rw[HLE.out];exact hlt
     obtain⟨b,o,rfl,hb,hc⟩:=rd_ent HR.out (by omega);obtain⟨c0,c1,c2,c3⟩:=hc k hkl;have c0:=(hbw.cell (p:=⟨b,o+k*4,none⟩) hb).trans c0;have c1:=(hbw.cell (p:=⟨b,o+k*4+1,none⟩) hb).trans c1;have c2:=(hbw.cell (p:=⟨b,o+k*4+2,none⟩) hb).trans c2;have c3:=(hbw.cell (p:=⟨b,o+k*4+3,none⟩) hb).trans c3;obtain⟨tx,htx⟩:∃ s,s=(es[k]).s:=⟨_,rfl⟩;obtain⟨ea,hea⟩:∃ s,s=(es[k]).a:=⟨_,rfl⟩;obtain⟨en,hen⟩:∃ s,s=(es[k]).n:=⟨_,rfl⟩;obtain⟨ev,hev⟩:∃ s,s=(es[k]).v:=⟨_,rfl⟩;rw[← hea]at c0;rw[← hen]at c1;rw[← htx]at c2;rw[← hev]at c3
     have HSUC:Hid ((es.take (k+1)).map E.s=(es.take k).map E.s++[tx]):=by unfold Hid;rw[List.take_succ_eq_append_getElem hkl,List.map_append,htx];rfl
     have hb1:Below wr.heap.size wr (wr.alloc (.cells #[.int .i64 ea,.int .i64 en,.string tx,.int .i64 ev] 97)):=Dt.box_below _ _ _;obtain⟨A6,c6,w6,r1,r2,r3⟩:=push_str (wr.alloc (.cells #[.int .i64 ea,.int .i64 en,.string tx,.int .i64 ev] 97)) w1.heap.size (wr.heap.size+1) (by simp) (own_later HO.out hb1) (Nat.le_trans HBL.out.size hb1.size) tx (by omega)
     have HO6:Hid (Own w6 w1.heap.size 9 1 A6 (k+1) c6 (strs ((es.take (k+1)).map E.s))):=by unfold Hid;rw[HSUC.out];exact r2
     have HBL6:=Lib.hid ((HBL.out.trans (hb1.mono HBL.out.size)).trans r3);have Hrun:=Lib.hid r1;clear r1 r2 r3 hb1 hc hbw htx hea hen hev;go_wp2_with (at_builtin;refine Lib.wpList_append_run _ rfl _ _ _ _ rfl _ _ rfl rfl _ _ Hrun.out ?_);go_roundw
     case rel=>exact⟨k+1,A6,c6,by omega,by go_num,rfl,HO6.out,HBL6.out⟩
     case measure=>simp[intOf];omega
    ·obtain rfl:k=ne:=by omega
     obtain⟨l,hl⟩:∃ l,l=es.map E.s:=⟨_,rfl⟩
     have HO1:Hid (Own wr w1.heap.size 9 1 Ax k cx (strs l)):=by
      have h1:=HO.out;rw[List.take_of_length_le (by rw[HLE.out];exact Nat.le_refl _),← hl]at h1;exact h1
     have hlk:l.length=k:=by rw[hl,List.length_map];exact HLE.out
     have HEQ:Hid (cmpS (sortS l)=m):=by
      have h:=HSI.out;rw[← hl]at h;exact (cmpS_is l).eq h
     have HB:=Lib.hid (HKc.out.below.trans (HBL.out.mono HKc.out.below.size));have HS1:=Lib.hid (sortS_own l k Ax cx w1.heap.size wr hlk (by omega) HO1.out HBL.out.size);have HLK:=Lib.hid hlk;clear hl hlk;go_wp2_with fail;refine HS1.out.mono ?_;rintro e w2 ⟨rfl,ho2,hb2⟩;have HO2:=Lib.hid ho2;have HB2:=Lib.hid (HB.out.trans (hb2.mono HKc.out.below.size));have HC:=Lib.hid (cmpS_own (sortS l) k q Ax cx w1.heap.size w2 (by rw[sortS_len];exact HLK.out) (by rw[HEQ.out];exact HQ.out) (by omega) HO2.out);clear ho2 hb2 HS1;go_wp2_with fail;refine HC.out.mono ?_;rintro e w3 ⟨rfl,ho3,hb3⟩
     have HRD:Hid (Own w3 w.heap.size 9 1 Ax q cx (strs m)):=by
      have h:=ho3.mono HKc.out.below.size;rw[HEQ.out]at h;exact h
     have HB3:=Lib.hid (HB2.out.trans (hb3.mono HKc.out.below.size));clear ho3 hb3 HC;go_wp2_with fail;go_ret;exact⟨Ax,cx,rfl,HRD.out,HB3.out⟩
end Cs
end Go.Proofs.YtgeafpaognhokaaGreat
namespace Go.Proofs.YtgeafpaognhokaaGreat
open Go.ChangeShapes Go.WideShapes Go.ChangeAt Go.RowKit
namespace Cs
open Tr Cx Sp Rw Classical
end Cs
end Go.Proofs.YtgeafpaognhokaaGreat
namespace Go.Proofs.YtgeafpaognhokaaGreat
namespace Cs
open Tr Cx Sp Rw Classical
theorem endP_head {o:OpM} {k:ByteArray} {l:List ByteArray} (h:o.path=k::l):∃ l',endP o=k::l':=by
 unfold endP
 split
 ·exact⟨l++[o.s],by rw[h];rfl⟩
 ·exact⟨l,h⟩
theorem sees_head {o:OpM} {k:ByteArray} {l p:List ByteArray} (h:o.path=k::l) (hs:seesAt o p):∃ p',p=k::p':=by
 unfold seesAt at hs;rw[h]at hs
 rcases hs with ⟨_,c,h1⟩ | ⟨_,c,h1⟩ | ⟨_,h1⟩
 ·exact⟨_,h1.symm⟩
 ·exact⟨_,h1.symm⟩
 ·exact⟨_,h1⟩
theorem op_apart {t:T} {u:List S3} {o:OpM} {d:Int×Int} {x r:K} {k k0:ByteArray} {l:List ByteArray} (ht:RightT 5 t) (hu:OfC (dl t) u) (hon:OnceT t) (ho:OpOk o) (hdr:Dt.rightB d.1 d.2=true) (hd:DeltaOf t o d x) (hx:RK x) (hn:d∉dl t) (hj:IsJ (t,u) x r) (hk:o.path=k::l) (hne:k0≠k):kidAt r.1.ks k0=kidAt t.ks k0:=by
 have hc:=known_right ht hu;have hr:=hj.right hc hx;obtain⟨w,hw,hv⟩:=hd.ctx;refine tree_ext (d:=5) (.inl (kid_right hr.tree k0)) (.inl (kid_right ht k0)) fun p q=>?_;show entAt r.1 (k0::p) q=entAt t (k0::p) q
 have hxn:entAt x.1 (k0::p) q=none:=by
  rw[hd.tree]
  split
  ·rw[entAt_wrap,if_neg]
   rintro⟨h1,_⟩;obtain⟨l',h2⟩:=endP_head hk;rw[h2]at h1;injection h1 with h1;exact hne h1
  ·exact entAt_none _ _
 have key:∀ e,entAt t (k0::p) q=some e→hasC x.2 q.1 q.2=false:=fun e he=>by
  cases h1:hasC x.2 q.1 q.2 with
  | false=>rfl
  | true=>
   exfalso;rw[uni_has hw.right hdr hv,Bool.or_eq_true,decide_eq_true_iff]at h1;have hcen:Cen q.1:=(good_num (x:=q) (good_dl ht q ((dl_iff ht).2 ⟨_,e,he⟩))).1
   rcases h1 with h1 | h1
   ·obtain⟨p',e',he',hs⟩:=(sees_iff ht ho).1 ((hw.has q.1 q.2 hcen).1 h1)
    obtain⟨p'',rfl⟩:=sees_head hk hs;have:=hon _ _ q e e' he he';injection this with this;exact hne this
   ·exact hn ((dl_iff ht).2 ⟨_,e,by rw[show d=q from Prod.ext h1.1.symm h1.2.symm];exact he⟩)
 rw[hr.ent_of _ _ _ (hj.st hc hx _ _)]
 cases h1:entAt t (k0::p) q with
 | some e=>
  have h2:=key e h1;rw[st_none (k:=x) h2,none_mx,st_some (k:=(t,u)) (by rw[has_dl ht hu];exact decide_eq_true ((dl_iff ht).2 ⟨_,e,h1⟩))];exact h1
 | none=>
  cases h2:hasC u q.1 q.2 with
  | false=>
   rw[st_none (k:=(t,u)) h2,mx_none]
   cases h3:hasC x.2 q.1 q.2 with
   | false=>rw[st_none h3];rfl
   | true=>rw[st_some h3];exact hxn
  | true=>
   rw[st_some (k:=(t,u)) h2,show entAt (t,u).1 (k0::p) q=none from h1]
   cases h3:hasC x.2 q.1 q.2 with
   | false=>rw[st_none h3];rfl
   | true=>rw[st_some h3,hxn];rfl
end Cs
end Go.Proofs.YtgeafpaognhokaaGreat
namespace Go.Proofs.YtgeafpaognhokaaGreat
open Go.ChangeShapes Go.WideShapes Go.ChangeAt Go.RowKit
namespace Cs
open Tr Cx Sp Rw Classical
theorem once_of {t:T} (ht:RightT 5 t) (h:∀ (i k:Nat) (hi:i<(leaves t).length) (hk:k<(leaves t).length),i<k→keyE (leaves t)[i].2≠keyE (leaves t)[k].2):OnceT t:=by
 intro p p' q e e' he he';have h1:(p,e)∈leaves t:=(leaf_iff ht p e).2 (by rw[entAt_key he];exact he);have h2:(p',e')∈leaves t:=(leaf_iff ht p' e').2 (by rw[entAt_key he'];exact he');obtain⟨i,hi,ei⟩:=List.getElem_of_mem h1;obtain⟨k,hk,ek⟩:=List.getElem_of_mem h2
 have hke:keyE (leaves t)[i].2=keyE (leaves t)[k].2:=by rw[ei,ek];exact (entAt_key he).trans (entAt_key he').symm
 rcases Nat.lt_trichotomy i k with h3 | h3 | h3
 ·exact absurd hke (h i k hi hk h3)
 ·subst h3
  have h4:=ei.symm.trans ek;injection h4
 ·exact absurd hke.symm (h k i hk hi h3)
set_option maxRecDepth 100000 in
set_option maxHeartbeats 4000000 in
theorem refonce_any (t:T) (Ae Ak:Option Addr) (ne nk ce ck:Nat) (w:World) (ht:RightT 5 t) (_hl:LenT reachBytes t) (hn:nodes t≤1000) (hr:RdT w w.heap.size t ⟨Ae,ne,ce⟩ ⟨Ak,nk,ck⟩) :
  Calls Tryz.prog 28 #[.agg #[.slice Ae ne ce,.slice Ak nk ck]] w fun e w'=>∃ z:Bool,e = .returned (.bool z)∧(z=true→OnceT t)∧Below w.heap.size w w':=by
 have HR:=Lib.hid hr;have HN:=Lib.hid hn;have HT:=Lib.hid ht;clear hr hn ht;obtain⟨g,hg⟩:∃ g,g=w.heap.size:=⟨_,rfl⟩;have HK:=Lib.hid (tree_box w Ae Ak ne nk ce ck);rw[← hg]at HK;obtain⟨W0,hW0⟩:∃ W,W=w.alloc (.cells #[.slice Ae ne ce,.slice Ak nk ck] 35):=⟨_,rfl⟩;rw[← hW0]at HK;have HG:=Lib.hid hg;have HW0:=Lib.hid hW0;have k0:=HK.out.c0;have k1:=HK.out.c1;clear hg hW0;go_enter Tryz.func28,Tryz.ntmps28;go_wp2_with fail;rw[← HG.out,← HW0.out];refine (leaves_any t Ae Ak ne nk ce ck W0 (by have:=HN.out;omega) (RdT.more HK.out.below.size _ (RdT.below HR.out HK.out.below))).mono ?_;rintro e w1 ⟨A,c,rfl,hlf,hb9⟩;have HB1:=Lib.hid (HK.out.below.trans (hb9.mono HK.out.below.size));have hle:(leaves t).length≤1000:=Nat.le_trans (leaves_nodes t) HN.out
 obtain⟨L,hL⟩:∃ L,leaves t=L:=⟨_,rfl⟩;have HLL:=Lib.hid hL;rw[hL]at hlf hle ⊢;obtain⟨n,hn⟩:∃ n,L.length=n:=⟨_,rfl⟩;rw[hn]at hlf hle ⊢;have HLF:=Lib.hid hlf;have HLN:=Lib.hid hn;clear hlf hn hL hb9 k0 k1;go_wp2_with fail
 go_loopw [10] (fun z wr=>∃ (k:Nat),k≤n∧z = .int .i64 k∧Hid (∀ (i j:Nat) (hi:i<L.length) (hj:j<L.length),i<j→j<k→keyE L[i].2≠keyE L[j].2)∧Hid (Below w1.heap.size w1 wr)) (fun z _=>n-(intOf z).toNat)
 case atStart=>exact⟨0,by omega,rfl,fun i j _ _ _ h=>absurd h (by omega),Below.refl _ _⟩
 case round=>
  obtain⟨k,hk,rfl,HI,HBL⟩:=hrel
  by_cases hlt:k<n
  ·have hkl:k<L.length:=by rw[HLN.out];exact hlt
   go_wp2_with fail
   go_loopw [14] (fun z wr2=>∃ (i:Nat),i≤k∧z = .int .i64 i∧Hid (∀ (j:Nat) (hj:j<L.length),j<i→keyE L[j].2≠keyE (L[k]'hkl).2)∧Hid (Below w1.heap.size w1 wr2)) (fun z _=>k-(intOf z).toNat)
   case atStart=>exact⟨0,by omega,rfl,fun j _ h=>absurd h (by omega),HBL.out⟩
   case round=>
    obtain⟨i,hi,rfl,HJ,HBM⟩:=hrel
    by_cases hli:i<k
    ·have hil:i<L.length:=by rw[HLN.out];omega
     obtain⟨b,o,rfl,hb,hc⟩:=LfRd.at_ HLF.out (by omega);obtain⟨s1,_,c1,c2,_,_,_,_⟩:=hc i hil;obtain⟨s2,_,d1,d2,_,_,_,_⟩:=hc k hkl;have c1:=(HBM.out.cell (p:=⟨b,o+i*5+1,none⟩) hb).trans c1;have c2:=(HBM.out.cell (p:=⟨b,o+i*5+2,none⟩) hb).trans c2;have d1:=(HBM.out.cell (p:=⟨b,o+k*5+1,none⟩) hb).trans d1;have d2:=(HBM.out.cell (p:=⟨b,o+k*5+2,none⟩) hb).trans d2;have hkx:keyE L[i].2=((L[i]).2.a,(L[i]).2.n):=rfl;have hky:keyE L[k].2=((L[k]).2.a,(L[k]).2.n):=rfl;obtain⟨xa,hxa⟩:∃ x,x=(L[i]).2.a:=⟨_,rfl⟩;obtain⟨xn,hxn⟩:∃ x,x=(L[i]).2.n:=⟨_,rfl⟩;obtain⟨ya,hya⟩:∃ x,x=(L[k]).2.a:=⟨_,rfl⟩;obtain⟨yn,hyn⟩:∃ x,x=(L[k]).2.n:=⟨_,rfl⟩;rw[← hxa]at c1 hkx;rw[← hxn]at c2 hkx;rw[← hya]at d1 hky;rw[← hyn]at d2 hky
     have hik:(i:Int)<(n:Int):=by omega
     have hkk:(k:Int)<(n:Int):=by omega
     have hnext:¬(xa=ya∧xn=yn)→∀ (j:Nat) (hj:j<L.length),j<i+1→keyE L[j].2≠keyE (L[k]'hkl).2:=fun hne j hj hji=>by
      by_cases e:j=i
      ·subst e
       rw[hkx,hky];intro h;injection h with h1 h2;exact hne ⟨h1,h2⟩
      ·exact HJ.out j hj (by omega)
     have HNX:=Lib.hid hnext;clear hc hxa hxn hya hyn hkx hky hnext
     by_cases h0:xa=ya
     ·subst h0
      by_cases h1:xn=yn
      ·subst h1
       clear HNX;go_wp2_with fail
       go_quiet (fail)
       go_wp2_with fail;go_ret;exact⟨false,rfl,(fun h=>by cases h),HB1.out.trans ((bel_drewN HBM.out _).mono HB1.out.size)⟩
      ·have f1:(xn==yn)=false:=by simpa using h1
       have HN2:=Lib.hid (HNX.out fun h=>h1 h.2);clear HNX h1;go_wp2_with fail
       go_quiet (fail)
       go_wp2_with fail;go_roundw
       case rel=>exact⟨i+1,by omega,by go_num,HN2.out,bel_drewN HBM.out _⟩
       case measure=>simp[intOf];omega
     ·have f0:(xa==ya)=false:=by simpa using h0
      have HN2:=Lib.hid (HNX.out fun h=>h0 h.1);clear HNX h0;go_wp2_with fail
      go_quiet (fail)
      go_wp2_with fail;go_roundw
      case rel=>exact⟨i+1,by omega,by go_num,HN2.out,bel_drewN HBM.out _⟩
      case measure=>simp[intOf];omega
    ·obtain rfl:i=k:=by omega
     have HI2:Hid (∀ (a j:Nat) (ha:a<L.length) (hj:j<L.length),a<j→j<i+1→keyE L[a].2≠keyE L[j].2):=fun a j ha hj haj hji=>by
      by_cases e:j=i
      ·subst e;exact HJ.out a ha haj
      ·exact HI.out a j ha hj haj (by omega)
     go_wp2_with fail;go_roundw
     case rel=>exact⟨i+1,by omega,by go_num,HI2.out,HBM.out⟩
     case measure=>simp[intOf];omega
  ·obtain rfl:k=n:=by omega
   have HON:Hid (OnceT t):=once_of HT.out (by
    rw[HLL.out]
    exact fun i j hi hj hij=>HI.out i j hi hj hij (by rw[← HLN.out];exact hj))
   go_wp2_with fail;go_ret;exact⟨true,rfl,fun _=>HON.out,HB1.out.trans (HBL.out.mono HB1.out.size)⟩
end Cs
end Go.Proofs.YtgeafpaognhokaaGreat
