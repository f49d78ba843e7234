/- What is known: two trees joined. -/
import Derived.Test.YtjpcechcefhcfaaGreatG00
import Derived.Test.YtjpcechcefhcfaaGreatCauMrgK
set_option maxRecDepth 100000
set_option maxHeartbeats 4000000
namespace Go.Proofs.YtjpcechcefhcfaaGreat
open Go.ChangeShapes Go.WideShapes Go.ChangeAt Go.RowKit
namespace Cs
open Tr Cx Sp Rw
theorem boxC2 (w:World) (Ae Ak Be Bk Ca Cb:Option Addr) (ne nk ce ck me mk de dk na ca9 nb cb9:Nat):∃ (W:World) (p q:Nat),Hid (W=(w.alloc (.cells #[.slice Ae ne ce,.slice Ak nk ck,.slice Ca na ca9] 29)).alloc (.cells #[.slice Be me de,.slice Bk mk dk,.slice Cb nb cb9] 29))∧Hid (p=w.heap.size)∧Hid (q=p+1)∧Hid (Kept [(⟨p,0,none⟩,.slice Ae ne ce),(⟨p,1,none⟩,.slice Ak nk ck),(⟨p,2,none⟩,.slice Ca na ca9),(⟨q,0,none⟩,.slice Be me de),(⟨q,1,none⟩,.slice Bk mk dk),(⟨q,2,none⟩,.slice Cb nb cb9)] w W):=by
 refine⟨_,_,_,rfl,rfl,rfl,?_⟩;have h0:=Kept.nil_of (Dt.box2_below w #[.slice Ae ne ce,.slice Ak nk ck,.slice Ca na ca9] #[.slice Be me de,.slice Bk mk dk,.slice Cb nb cb9] 29 29)
 refine (((((h0.cons_of ?_).cons_of ?_).cons_of ?_).cons_of ?_).cons_of ?_).cons_of ?_ <;> go_simp
theorem RdK.more {w:World} {B B' n c:Nat} {A:Option Addr} {ks:List Kd} (h:RdK w B A n c ks) (hB:B≤B'):RdK w B' A n c ks:=by
 obtain⟨xs,h1,h2,h3⟩:=h;refine⟨xs,h1.more hB,h2,fun i hi=>?_⟩;obtain⟨se,sk,e1,e2,e3,e4⟩:=h3 i hi;exact⟨se,sk,e1,e2,e3,RdT.more hB _ e4⟩
theorem entriesC_any (ca cb:List S3) (es es2:List E) (Ae Ak Be Bk Ca Cb:Option Addr) (ne nk ce ck me mk de dk na ca9 nb cb9:Nat) (w:World) (hla:ca.length=na) (hlb:cb.length=nb) (hna:na≤100000) (hnb:nb≤100000) (hra:Rd w w.heap.size 3 Ca na ca9 (spsC ca)) (hrb:Rd w w.heap.size 3 Cb nb cb9 (spsC cb)) (hRa:RightC ca) (hRb:RightC cb) (hn:ne≤100000) (hm:me≤100000) (hl1:es.length=ne) (hl2:es2.length=me) (hr1:Rd w w.heap.size 4 Ae ne ce (entsC es)) (hr2:Rd w w.heap.size 4 Be me de (entsC es2)) (hu1:Up keyE ltD es) (hu2:Up keyE ltD es2) (hg1:∀ e∈es,1≤e.n) (hg2:∀ e∈es2,1≤e.n) :
  Calls Tryz.prog 104 #[.agg #[.slice Ae ne ce,.slice Ak nk ck,.slice Ca na ca9],.agg #[.slice Be me de,.slice Bk mk dk,.slice Cb nb cb9]] w fun e w'=>∃ A q c,e = .returned (.slice A q c)∧(mrg keyE ltD (stE ca cb) es es2).length=q∧Own w' w.heap.size 61 4 A q c (entsC (mrg keyE ltD (stE ca cb) es es2))∧Below w.heap.size w w':=by
 obtain⟨W,p,q,HW,HP,HQ,HK⟩:=boxC2 w Ae Ak Be Bk Ca Cb ne nk ce ck me mk de dk na ca9 nb cb9;have hb:=HK.out.below;obtain⟨c0,c1,c2,c3,c4,c5,-⟩:=HK.out.cj;go_enter Tryz.func104,Tryz.ntmps104;have HM:=Lib.hid (mergedE_any ca cb Ca Cb na ca9 nb cb9 p q es es2 Ae Be ne me ce de W hla hlb hna hnb c2 c5 ((hra.below hb).more hb.size) ((hrb.below hb).more hb.size) hRa hRb hl1 hl2 hn hm ((hr1.below hb).more hb.size) ((hr2.below hb).more hb.size) hu1 hu2 hg1 hg2);have HB:=Lib.hid hb;clear hla hlb hra hrb hRa hRb hr1 hr2 hu1 hu2 hg1 hg2 hl1 hl2 hb;go_wp2_with fail;rw[← HP.out,← HW.out]
 try rw[← HQ.out]
 refine HM.out.mono ?_;rintro e w2 ⟨A,k,c,rfl,hl,ho,hb2⟩;have HR:Hid ((mrg keyE ltD (stE ca cb) es es2).length=k∧Own w2 w.heap.size 61 4 A k c (entsC (mrg keyE ltD (stE ca cb) es es2))∧Below w.heap.size w w2):=⟨hl,ho.mono HB.out.size,HB.out.trans (hb2.mono HB.out.size)⟩;clear hl ho hb2;go_wp2_with fail;go_ret;exact⟨A,k,c,rfl,HR.out⟩
theorem kidsC_any (dd:Nat) (ca cb:List S3) (hih:TreesOk dd ca cb) (ks ks2:List Kd) (Ae Ak Be Bk Ca Cb:Option Addr) (ne nk ce ck me mk de dk na ca9 nb cb9:Nat) (w:World) (hla:ca.length=na) (hlb:cb.length=nb) (hna:na≤100000) (hnb:nb≤100000) (hra:Rd w w.heap.size 3 Ca na ca9 (spsC ca)) (hrb:Rd w w.heap.size 3 Cb nb cb9 (spsC cb)) (hRa:RightC ca) (hRb:RightC cb) (hn:nk≤100000) (hm:mk≤100000) (hl1:ks.length=nk) (hl2:ks2.length=mk) (hr1:RdK w w.heap.size Ak nk ck ks) (hr2:RdK w w.heap.size Bk mk dk ks2) (hu1:Up keyK ltS ks) (hu2:Up keyK ltS ks2) (hg1:∀ k∈ks,RightT dd k.2∧nodes k.2≤100000∧¬k.2=none_∧1≤k.1.size) (hg2:∀ k∈ks2,RightT dd k.2∧nodes k.2≤100000∧¬k.2=none_∧1≤k.1.size) :
  Calls Tryz.prog 105 #[.agg #[.slice Ae ne ce,.slice Ak nk ck,.slice Ca na ca9],.agg #[.slice Be me de,.slice Bk mk dk,.slice Cb nb cb9]] w fun e w'=>∃ base A q c kr,e = .returned (.slice A q c)∧w.heap.size≤base∧KidRow w' base 73 A q c (mrg keyK ltS (stK (joinT dd ca cb)) ks ks2) kr∧Below w.heap.size w w':=by
 obtain⟨W,p,q,HW,HP,HQ,HK⟩:=boxC2 w Ae Ak Be Bk Ca Cb ne nk ce ck me mk de dk na ca9 nb cb9;have hb:=HK.out.below;obtain⟨c0,c1,c2,c3,c4,c5,-⟩:=HK.out.cj;go_enter Tryz.func105,Tryz.ntmps105;have HM:=Lib.hid (mergedK_any dd ca cb hih Ca Cb na ca9 nb cb9 p q ks ks2 Ak Bk nk mk ck dk W hla hlb hna hnb c2 c5 ((hra.below hb).more hb.size) ((hrb.below hb).more hb.size) hRa hRb hl1 hl2 hn hm ((hr1.below hb).more hb.size) ((hr2.below hb).more hb.size) hu1 hu2 hg1 hg2);have HB:=Lib.hid hb;clear hih hla hlb hra hrb hRa hRb hr1 hr2 hu1 hu2 hg1 hg2 hl1 hl2 hb;go_wp2_with fail;rw[← HP.out,← HW.out]
 try rw[← HQ.out]
 refine HM.out.mono ?_;rintro e w2 ⟨A,k,c,kr,rfl,ho,hb2⟩;have HR:Hid (w.heap.size≤W.heap.size∧KidRow w2 W.heap.size 73 A k c (mrg keyK ltS (stK (joinT dd ca cb)) ks ks2) kr∧Below w.heap.size w w2):=⟨HB.out.size,ho,HB.out.trans (hb2.mono HB.out.size)⟩;clear ho hb2;go_wp2_with fail;go_ret;exact⟨_,A,k,c,kr,rfl,HR.out⟩
theorem rd_parts {w:World} {B:Nat} {es:List E} {ks:List Kd} {Ae Ak:Option Addr} {ne nk ce ck:Nat} (h:RdT w B (.mk es ks) ⟨Ae,ne,ce⟩ ⟨Ak,nk,ck⟩):Rd w B 4 Ae ne ce (entsC es)∧RdK w B Ak nk ck ks:=by
 rw[rdT_mk]at h;obtain⟨h1,h2,h3,xs,h4,h5⟩:=h;exact⟨h2,xs,h4,h3,h5⟩
theorem good_ents {d:Nat} {es:List E} {ks:List Kd} (h:RightT (d+1) (.mk es ks)):∀ e∈es,1≤e.n:=fun e he=>by
 have h1:=(h.1 e he).1;unfold Dt.rightB at h1;have:=of_decide_eq_true h1;omega
theorem good_kids {d:Nat} {es:List E} {ks:List Kd} (h:RightT (d+1) (.mk es ks)) (hn:nodes (.mk es ks)≤100000):∀ k∈ks,RightT d k.2∧nodes k.2≤100000∧¬k.2=none_∧1≤k.1.size:=fun k hk=>by
 obtain⟨h1,h2,h3⟩:=h.2.2.2 k hk;exact⟨h3,Nat.le_trans (nodes_kid hk) hn,fun e=>h2 (by rw[e];exact⟨rfl,rfl⟩),h1.1⟩
theorem trees_step (d:Nat) (hih:∀ ca cb,TreesOk d ca cb) (ca cb:List S3):∀ (ta tb:T) (Ae Ak Be Bk Ca Cb:Option Addr) (ne nk ce ck me mk de dk na ca9 nb cb9:Nat) (w:World),RT (d+1) ta→RT (d+1) tb→nodes ta≤100000→nodes tb≤100000→ca.length=na→cb.length=nb→na≤100000→nb≤100000→Rd w w.heap.size 3 Ca na ca9 (spsC ca)→Rd w w.heap.size 3 Cb nb cb9 (spsC cb)→RightC ca→RightC cb→RdT w w.heap.size ta ⟨Ae,ne,ce⟩ ⟨Ak,nk,ck⟩→RdT w w.heap.size tb ⟨Be,me,de⟩ ⟨Bk,mk,dk⟩ →
  Calls Tryz.prog 84 #[.agg #[.slice Ae ne ce,.slice Ak nk ck,.slice Ca na ca9],.agg #[.slice Be me de,.slice Bk mk dk,.slice Cb nb cb9]] w (TreeIs (joinT (d+1) ca cb ta tb) w):=by
 intro ta tb Ae Ak Be Bk Ca Cb ne nk ce ck me mk de dk na ca9 nb cb9 w hta htb hna5 hnb5 hla hlb hna hnb hra hrb hRa hRb hrt hru;obtain⟨es,ks⟩:=ta;obtain⟨es2,ks2⟩:=tb;have HIH:=Lib.hid hih;have HC:=Lib.hid (And.intro hla (And.intro hlb (And.intro hra (And.intro hrb (And.intro hRa hRb)))));have HTA:=Lib.hid hta.succ;have HTB:=Lib.hid htb.succ;have HLA:=Lib.hid (rd_lens hrt);have HLB:=Lib.hid (rd_lens hru);have HE1:=Lib.hid (rd_parts hrt).1;have HE2:=Lib.hid (rd_parts hru).1;have HK1:=Lib.hid (rd_parts hrt).2;have HK2:=Lib.hid (rd_parts hru).2;have HG:=Lib.hid (And.intro (good_ents hta.succ) (And.intro (good_ents htb.succ) (And.intro (good_kids hta.succ hna5) (good_kids htb.succ hnb5))))
 have hne5:ne≤100000:=by have:=nodes_es es ks;have:=HLA.out.1;omega
 have hnk5:nk≤100000:=by have:=nodes_es es ks;have:=HLA.out.2;omega
 have hme5:me≤100000:=by have:=nodes_es es2 ks2;have:=HLB.out.1;omega
 have hmk5:mk≤100000:=by have:=nodes_es es2 ks2;have:=HLB.out.2;omega
 clear hih hla hlb hra hrb hRa hRb hrt hru hta htb hna5 hnb5;obtain⟨W0,p,q,HW0,HP,HQ,HK⟩:=boxC2 w Ae Ak Be Bk Ca Cb ne nk ce ck me mk de dk na ca9 nb cb9;obtain⟨r,hr⟩:∃ z,z=p+1+1:=⟨_,rfl⟩;obtain⟨W,hW⟩:∃ v,v=((w.alloc (.cells #[.slice Ae ne ce,.slice Ak nk ck,.slice Ca na ca9] 29)).alloc (.cells #[.slice Be me de,.slice Bk mk dk,.slice Cb nb cb9] 29)).alloc (.cells #[.slice none 0 0,.slice none 0 0] 25):=⟨_,rfl⟩
 have hbW:Below W0.heap.size W0 W:=by rw[hW,← HW0.out];exact Dt.box_below _ _ _
 have hsz:W0.heap.size=r:=by rw[HW0.out,hr,HP.out];simp
 have z0:W.cell? ⟨r,0,none⟩=some (.slice none 0 0):=by rw[hW,hr,HP.out];go_simp
 have z1:W.cell? ⟨r,1,none⟩=some (.slice none 0 0):=by rw[hW,hr,HP.out];go_simp
 have HKc:=Lib.hid ((HK.out.later hbW).drew);have HKR:=Lib.hid ((((Kept.nil_of (HK.out.below.trans (hbW.mono HK.out.below.size))).cons_of z1).cons_of z0).drew);have HFR:Hid (Free r W.drew):=(show Free r W from⟨World.block_lt_of_cell? W _ z0,fun j=>by rw[hW,hr,HP.out];go_simp⟩).drew
 have hwr:w.heap.size≤r:=by have:=HK.out.below.size;omega
 have hpr:p<r:=by omega
 have hqr:q<r:=by have:=HQ.out;omega
 have HR:=Lib.hid hr;have HW:=Lib.hid hW;clear HK hbW hsz hr hW z0 z1;go_enter Tryz.func84,Tryz.ntmps84;go_wp2_with fail;rw[← HW.out,← HP.out,← HR.out]
 try rw[← HQ.out]
 refine wp_region_held_drew (S:=Conj _) (by kernel_rfl) HKc.out.cj (fun hHeld=>?_);obtain⟨w1,hw1⟩:∃ v,v=W.drew:=⟨_,rfl⟩;rw[← hw1]at hHeld HKc HKR HFR ⊢;clear hw1;refine Tk 0 5 ?_;refine Tk 1 6 ?_;refine Tk 3 8 ?_;refine Tk 4 9 ?_;refine Tc 2 (fun K hK=>?_);go_simp;(go_at_call 104;refine (entriesC_any ca cb es es2 Ae Ak Be Bk Ca Cb ne nk ce ck me mk de dk na ca9 nb cb9 w1 HC.out.1 HC.out.2.1 hna hnb ((HC.out.2.2.1.below HKc.out.below).more HKc.out.below.size) ((HC.out.2.2.2.1.below HKc.out.below).more HKc.out.below.size) HC.out.2.2.2.2.1 HC.out.2.2.2.2.2 hne5 hme5 HLA.out.1 HLB.out.1 ((HE1.out.below HKc.out.below).more HKc.out.below.size) ((HE2.out.below HKc.out.below).more HKc.out.below.size) (upE HTA.out.2.1) (upE HTB.out.2.1) HG.out.1 HG.out.2.1).mono ?_);rintro e v1 ⟨A1,k1,d1,rfl,hl1,ho1,hb1⟩;have hr1:r<w1.heap.size:=HFR.out.1
 have HO1:Hid ((mrg keyE ltD (stE ca cb) es es2).length=k1∧RO v1 (fun b=>w1.heap.size≤b) 4 A1 k1 d1 (entsC (mrg keyE ltD (stE ca cb) es es2))):=⟨hl1,(RO.of_own ho1).mono fun b hb _=>hb.1⟩;have HKc:=Lib.hid (HKc.out.later hb1);have HKR:=Lib.hid (HKR.out.later hb1);have HFR:=Lib.hid (HFR.out.later hb1);have HW1:Hid (w1.heap.size≤v1.heap.size):=hb1.size;clear hl1 ho1 hb1;clear hHeld;refine Th hK ?_ (fun hHeld=>?_)
 ·exact HKc.out.cj
 clear hK K;refine Tc 5 (fun K hK=>?_);go_simp;(go_at_call 105;refine (kidsC_any d ca cb (HIH.out ca cb) ks ks2 Ae Ak Be Bk Ca Cb ne nk ce ck me mk de dk na ca9 nb cb9 v1 HC.out.1 HC.out.2.1 hna hnb ((HC.out.2.2.1.below HKc.out.below).more HKc.out.below.size) ((HC.out.2.2.2.1.below HKc.out.below).more HKc.out.below.size) HC.out.2.2.2.2.1 HC.out.2.2.2.2.2 hnk5 hmk5 HLA.out.2 HLB.out.2 (HK1.out.below HKc.out.below |>.more HKc.out.below.size) (HK2.out.below HKc.out.below |>.more HKc.out.below.size) HTA.out.2.2.1 HTB.out.2.2.1 HG.out.2.2.1 HG.out.2.2.2).mono ?_);rintro e v2 ⟨bs,A2,k2,d2,kr,rfl,hbs,ho2,hb2⟩;have HT9:Hid (RdO v2 (fun b=>w1.heap.size≤b) (joinT (d+1) ca cb (.mk es ks) (.mk es2 ks2)) ⟨A1,k1,d1⟩ ⟨A2,k2,d2⟩):=ho2.tree (fun b hb _=>by have:=HW1.out;omega) HO1.out.1 (HO1.out.2.keep hb2.size fun b _ hlt=>hb2.block b hlt);have HKc:=Lib.hid (HKc.out.later hb2)
 have HKR:=Lib.hid (HKR.out.later hb2);have HFR:=Lib.hid (HFR.out.later hb2);have z0:=HKR.out.c0;have z1:=HKR.out.c1;have m0:=HFR.out.2 0;have m1:=HFR.out.2 1;clear ho2 hb2 hbs;clear hHeld;refine Th hK ?_ (fun hHeld=>?_)
 ·exact HKc.out.cj
 clear hK K;refine Tk 6 11 ?_;refine Tc 7 (fun K hK=>?_);go_simp;refine Th hK ?_ (fun hHeld2=>?_)
 ·(try dsimp only)
  have h9:=(HKc.out.set (a:=⟨r,0,none⟩) hwr (fun x hx=>by simp at hx;rcases hx with rfl | rfl | rfl | rfl | rfl | rfl <;> (dsimp only;omega)) (.slice A1 k1 d1)).set (a:=⟨r,1,none⟩) hwr (fun x hx=>by simp at hx;rcases hx with rfl | rfl | rfl | rfl | rfl | rfl <;> (dsimp only;omega)) (.slice A2 k2 d2)
  exact h9.cj
 clear hK K hHeld;have hHeld:=hHeld2;clear hHeld2;refine wpAnyH_done (by kernel_rfl) ?_ _;clear hHeld;obtain⟨W9,hW9⟩:∃ W,W=(v2.setCell ⟨r,0,none⟩ (.slice A1 k1 d1)).setCell ⟨r,1,none⟩ (.slice A2 k2 d2):=⟨_,rfl⟩
 have HB9:Hid (Below w.heap.size w W9):=by
  unfold Hid;rw[hW9];exact (HKc.out.below.setCell (p:=⟨r,0,none⟩) hwr _).setCell (p:=⟨r,1,none⟩) hwr _
 have HT10:Hid (RdO W9 (fun b=>w.heap.size≤b) (joinT (d+1) ca cb (.mk es ks) (.mk es2 ks2)) ⟨A1,k1,d1⟩ ⟨A2,k2,d2⟩):=by
  unfold Hid;rw[hW9];exact RdO.mono (fun b hb _=>by have:=hr1;omega) _ (RdO.keep (by simp[World.setCell]) (fun b hb _=>(Below.heap_setCell _ ⟨r,1,none⟩ _ b (fun e=>by have h:b=r:=e;omega)).trans (Below.heap_setCell _ ⟨r,0,none⟩ _ b (fun e=>by have h:b=r:=e;omega))) _ HT9.out)
 have l0:W9.cell? ⟨r,0,none⟩=some (.slice A1 k1 d1):=by rw[hW9];go_simp
 have l1:W9.cell? ⟨r,1,none⟩=some (.slice A2 k2 d2):=by rw[hW9];go_simp
 clear z0 z1 m0 m1;rw[← hW9];clear hW9;go_wp2_with fail;refine bodyPost_ret (v:=.agg #[.slice A1 k1 d1,.slice A2 k2 d2]) (by simp[results,Tryz.results84,go_sem,l0,l1]) rfl ⟨A1,k1,d1,A2,k2,d2,rfl,HT10.out,HB9.out⟩
theorem trees_ok:∀ (d:Nat) (ca cb:List S3),TreesOk d ca cb
 | 0,ca,cb=>by
  intro ta tb Ae Ak Be Bk Ca Cb ne nk ce ck me mk de dk na ca9 nb cb9 w hta htb hne
  have e:∀ t:T,RT 0 t→t=none_:=fun t h=>by
   rcases h with h | h
   ·exact h.elim
   ·exact h
  exact absurd ⟨e ta hta,e tb htb⟩ hne
 | d+1,ca,cb=>by
  intro ta tb Ae Ak Be Bk Ca Cb ne nk ce ck me mk de dk na ca9 nb cb9 w hta htb _ hna5 hnb5 hla hlb hna hnb hra hrb hRa hRb hrt hru;exact trees_step d (fun ca cb=>trees_ok d ca cb) ca cb ta tb Ae Ak Be Bk Ca Cb ne nk ce ck me mk de dk na ca9 nb cb9 w hta htb hna5 hnb5 hla hlb hna hnb hra hrb hRa hRb hrt hru
end Cs
end Go.Proofs.YtjpcechcefhcfaaGreat
