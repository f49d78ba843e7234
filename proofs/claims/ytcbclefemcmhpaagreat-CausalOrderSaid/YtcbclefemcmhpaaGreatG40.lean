/- Texts of the lower layers, and of layer 9, put together. -/
import Derived.Test.YtcbclefemcmhpaaGreatG00
import Derived.Test.YtcbclefemcmhpaaGreatCauMrgK
import Derived.Test.YtcbclefemcmhpaaGreatG20
import Derived.Test.YtcbclefemcmhpaaGreatTreeRefRight
import Derived.Test.YtcbclefemcmhpaaGreatG10
import Derived.Test.YtcbclefemcmhpaaGreatG01
import Derived.Test.YtcbclefemcmhpaaGreatTreeRefSame
import Derived.Test.YtcbclefemcmhpaaGreatG02
namespace Go.Proofs.YtcbclefemcmhpaaGreat
open Go.ChangeShapes Go.WideShapes Go.ChangeAt Go.RowKit
namespace Cs
open Tr Cx Sp Rw
/-- two boxes of what is known -/
theorem boxC2 (w : World) (Ae Ak Be Bk Ca Cb : Option Addr) (ne nk ce ck me mk de dk na ca9 nb cb9 : Nat) : ∃ (W : World) (p q : Nat), Hid (W = (w.alloc (.cells #[.slice Ae ne ce, .slice Ak nk ck, .slice Ca na ca9] 29)).alloc (.cells #[.slice Be me de, .slice Bk mk dk, .slice Cb nb cb9] 29)) ∧ Hid (p = w.heap.size) ∧ Hid (q = p + 1) ∧ Hid (Kept [(⟨p, 0, none⟩, .slice Ae ne ce), (⟨p, 1, none⟩, .slice Ak nk ck), (⟨p, 2, none⟩, .slice Ca na ca9), (⟨q, 0, none⟩, .slice Be me de), (⟨q, 1, none⟩, .slice Bk mk dk), (⟨q, 2, none⟩, .slice Cb nb cb9)] w W) := by
  refine ⟨_, _, _, rfl, rfl, rfl, ?_⟩
  have h0 := Kept.nil_of (Dt.box2_below w #[.slice Ae ne ce, .slice Ak nk ck, .slice Ca na ca9] #[.slice Be me de, .slice Bk mk dk, .slice Cb nb cb9] 29 29)
  refine (((((h0.cons_of ?_).cons_of ?_).cons_of ?_).cons_of ?_).cons_of ?_).cons_of ?_ <;> go_simp
theorem RdK.more {w : World} {B B' n c : Nat} {A : Option Addr} {ks : List Kd} (h : RdK w B A n c ks) (hB : B ≤ B') : RdK w B' A n c ks := by
  obtain ⟨xs, h1, h2, h3⟩ := h
  refine ⟨xs, h1.more hB, h2, fun i hi => ?_⟩
  obtain ⟨se, sk, e1, e2, e3, e4⟩ := h3 i hi
  exact ⟨se, sk, e1, e2, e3, RdT.more hB _ e4⟩
set_option maxRecDepth 100000 in
set_option maxHeartbeats 4000000 in
theorem entriesC_any (ca cb : List S3) (es es2 : List E) (Ae Ak Be Bk Ca Cb : Option Addr) (ne nk ce ck me mk de dk na ca9 nb cb9 : Nat) (w : World) (hla : ca.length = na) (hlb : cb.length = nb) (hna : na ≤ 100000) (hnb : nb ≤ 100000) (hra : Rd w w.heap.size 3 Ca na ca9 (spsC ca)) (hrb : Rd w w.heap.size 3 Cb nb cb9 (spsC cb)) (hRa : RightC ca) (hRb : RightC cb) (hn : ne ≤ 100000) (hm : me ≤ 100000) (hl1 : es.length = ne) (hl2 : es2.length = me) (hr1 : Rd w w.heap.size 4 Ae ne ce (entsC es)) (hr2 : Rd w w.heap.size 4 Be me de (entsC es2)) (hu1 : Up keyE ltD es) (hu2 : Up keyE ltD es2) (hg1 : ∀ e ∈ es, 1 ≤ e.n) (hg2 : ∀ e ∈ es2, 1 ≤ e.n) :
    Calls Tryz.prog 95 #[.agg #[.slice Ae ne ce, .slice Ak nk ck, .slice Ca na ca9], .agg #[.slice Be me de, .slice Bk mk dk, .slice Cb nb cb9]] w fun e w' => ∃ A q c, e = .returned (.slice A q c) ∧ (mrg keyE ltD (stE ca cb) es es2).length = q ∧ Own w' w.heap.size 58 4 A q c (entsC (mrg keyE ltD (stE ca cb) es es2)) ∧ Below w.heap.size w w' := by
  obtain ⟨W, p, q, HW, HP, HQ, HK⟩ := boxC2 w Ae Ak Be Bk Ca Cb ne nk ce ck me mk de dk na ca9 nb cb9
  have hb := HK.out.below
  have c0 := HK.out.c0
  have c1 := HK.out.c1
  have c2 := HK.out.c2
  have c3 := HK.out.c3
  have c4 := HK.out.c4
  have c5 := HK.out.c5
  go_enter Tryz.func95, Tryz.ntmps95
  have HM := Lib.hid (mergedE_any ca cb Ca Cb na ca9 nb cb9 p q es es2 Ae Be ne me ce de W hla hlb hna hnb c2 c5 ((hra.below hb).more hb.size) ((hrb.below hb).more hb.size) hRa hRb hl1 hl2 hn hm ((hr1.below hb).more hb.size) ((hr2.below hb).more hb.size) hu1 hu2 hg1 hg2)
  have HB := Lib.hid hb
  clear hla hlb hra hrb hRa hRb hr1 hr2 hu1 hu2 hg1 hg2 hl1 hl2 hb
  go_wp2_with fail
  rw [← HP.out, ← HW.out]
  try rw [← HQ.out]
  refine HM.out.mono ?_
  rintro e w2 ⟨A, k, c, rfl, hl, ho, hb2⟩
  have HR : Hid ((mrg keyE ltD (stE ca cb) es es2).length = k ∧ Own w2 w.heap.size 58 4 A k c (entsC (mrg keyE ltD (stE ca cb) es es2)) ∧ Below w.heap.size w w2) := ⟨hl, ho.mono HB.out.size, HB.out.trans (hb2.mono HB.out.size)⟩
  clear hl ho hb2
  go_wp2_with fail
  go_ret
  exact ⟨A, k, c, rfl, HR.out⟩
set_option maxRecDepth 100000 in
set_option maxHeartbeats 4000000 in
theorem kidsC_any (dd : Nat) (ca cb : List S3) (hih : TreesOk dd ca cb) (ks ks2 : List Kd) (Ae Ak Be Bk Ca Cb : Option Addr) (ne nk ce ck me mk de dk na ca9 nb cb9 : Nat) (w : World) (hla : ca.length = na) (hlb : cb.length = nb) (hna : na ≤ 100000) (hnb : nb ≤ 100000) (hra : Rd w w.heap.size 3 Ca na ca9 (spsC ca)) (hrb : Rd w w.heap.size 3 Cb nb cb9 (spsC cb)) (hRa : RightC ca) (hRb : RightC cb) (hn : nk ≤ 100000) (hm : mk ≤ 100000) (hl1 : ks.length = nk) (hl2 : ks2.length = mk) (hr1 : RdK w w.heap.size Ak nk ck ks) (hr2 : RdK w w.heap.size Bk mk dk ks2) (hu1 : Up keyK ltS ks) (hu2 : Up keyK ltS ks2) (hg1 : ∀ k ∈ ks, RightT dd k.2 ∧ nodes k.2 ≤ 100000 ∧ ¬ k.2 = none_ ∧ 1 ≤ k.1.size) (hg2 : ∀ k ∈ ks2, RightT dd k.2 ∧ nodes k.2 ≤ 100000 ∧ ¬ k.2 = none_ ∧ 1 ≤ k.1.size) :
    Calls Tryz.prog 96 #[.agg #[.slice Ae ne ce, .slice Ak nk ck, .slice Ca na ca9], .agg #[.slice Be me de, .slice Bk mk dk, .slice Cb nb cb9]] w fun e w' => ∃ base A q c kr, e = .returned (.slice A q c) ∧ w.heap.size ≤ base ∧ KidRow w' base 85 A q c (mrg keyK ltS (stK (joinT dd ca cb)) ks ks2) kr ∧ Below w.heap.size w w' := by
  obtain ⟨W, p, q, HW, HP, HQ, HK⟩ := boxC2 w Ae Ak Be Bk Ca Cb ne nk ce ck me mk de dk na ca9 nb cb9
  have hb := HK.out.below
  have c0 := HK.out.c0
  have c1 := HK.out.c1
  have c2 := HK.out.c2
  have c3 := HK.out.c3
  have c4 := HK.out.c4
  have c5 := HK.out.c5
  go_enter Tryz.func96, Tryz.ntmps96
  have HM := Lib.hid (mergedK_any dd ca cb hih Ca Cb na ca9 nb cb9 p q ks ks2 Ak Bk nk mk ck dk W hla hlb hna hnb c2 c5 ((hra.below hb).more hb.size) ((hrb.below hb).more hb.size) hRa hRb hl1 hl2 hn hm ((hr1.below hb).more hb.size) ((hr2.below hb).more hb.size) hu1 hu2 hg1 hg2)
  have HB := Lib.hid hb
  clear hih hla hlb hra hrb hRa hRb hr1 hr2 hu1 hu2 hg1 hg2 hl1 hl2 hb
  go_wp2_with fail
  rw [← HP.out, ← HW.out]
  try rw [← HQ.out]
  refine HM.out.mono ?_
  rintro e w2 ⟨A, k, c, kr, rfl, ho, hb2⟩
  have HR : Hid (w.heap.size ≤ W.heap.size ∧ KidRow w2 W.heap.size 85 A k c (mrg keyK ltS (stK (joinT dd ca cb)) ks ks2) kr ∧ Below w.heap.size w w2) := ⟨HB.out.size, ho, HB.out.trans (hb2.mono HB.out.size)⟩
  clear ho hb2
  go_wp2_with fail
  go_ret
  exact ⟨_, A, k, c, kr, rfl, HR.out⟩
theorem rd_parts {w : World} {B : Nat} {es : List E} {ks : List Kd} {Ae Ak : Option Addr} {ne nk ce ck : Nat} (h : RdT w B (.mk es ks) ⟨Ae, ne, ce⟩ ⟨Ak, nk, ck⟩) : Rd w B 4 Ae ne ce (entsC es) ∧ RdK w B Ak nk ck ks := by
  rw [rdT_mk] at h
  obtain ⟨h1, h2, h3, xs, h4, h5⟩ := h
  exact ⟨h2, xs, h4, h3, h5⟩
theorem good_ents {d : Nat} {es : List E} {ks : List Kd} (h : RightT (d + 1) (.mk es ks)) : ∀ e ∈ es, 1 ≤ e.n := fun e he => by
  have h1 := (h.1 e he).1
  unfold Dt.rightB at h1
  have := of_decide_eq_true h1
  omega
theorem good_kids {d : Nat} {es : List E} {ks : List Kd} (h : RightT (d + 1) (.mk es ks)) (hn : nodes (.mk es ks) ≤ 100000) : ∀ k ∈ ks, RightT d k.2 ∧ nodes k.2 ≤ 100000 ∧ ¬ k.2 = none_ ∧ 1 ≤ k.1.size := fun k hk => by
  obtain ⟨h1, h2, h3⟩ := h.2.2.2 k hk
  exact ⟨h3, Nat.le_trans (nodes_kid hk) hn, fun e => h2 (by rw [e]; exact ⟨rfl, rfl⟩), h1.1⟩
set_option maxRecDepth 100000 in
set_option maxHeartbeats 4000000 in
theorem trees_step (d : Nat) (hih : ∀ ca cb, TreesOk d ca cb) (ca cb : List S3) : ∀ (ta tb : T) (Ae Ak Be Bk Ca Cb : Option Addr) (ne nk ce ck me mk de dk na ca9 nb cb9 : Nat) (w : World), RT (d + 1) ta → RT (d + 1) tb → nodes ta ≤ 100000 → nodes tb ≤ 100000 → ca.length = na → cb.length = nb → na ≤ 100000 → nb ≤ 100000 → Rd w w.heap.size 3 Ca na ca9 (spsC ca) → Rd w w.heap.size 3 Cb nb cb9 (spsC cb) → RightC ca → RightC cb → RdT w w.heap.size ta ⟨Ae, ne, ce⟩ ⟨Ak, nk, ck⟩ → RdT w w.heap.size tb ⟨Be, me, de⟩ ⟨Bk, mk, dk⟩ →
    Calls Tryz.prog 69 #[.agg #[.slice Ae ne ce, .slice Ak nk ck, .slice Ca na ca9], .agg #[.slice Be me de, .slice Bk mk dk, .slice Cb nb cb9]] w (TreeIs (joinT (d + 1) ca cb ta tb) w) := by
  intro ta tb Ae Ak Be Bk Ca Cb ne nk ce ck me mk de dk na ca9 nb cb9 w hta htb hna5 hnb5 hla hlb hna hnb hra hrb hRa hRb hrt hru
  obtain ⟨es, ks⟩ := ta
  obtain ⟨es2, ks2⟩ := tb
  have HIH := Lib.hid hih
  have HC := Lib.hid (And.intro hla (And.intro hlb (And.intro hra (And.intro hrb (And.intro hRa hRb)))))
  have HTA := Lib.hid hta.succ
  have HTB := Lib.hid htb.succ
  have HLA := Lib.hid (rd_lens hrt)
  have HLB := Lib.hid (rd_lens hru)
  have HE1 := Lib.hid (rd_parts hrt).1
  have HE2 := Lib.hid (rd_parts hru).1
  have HK1 := Lib.hid (rd_parts hrt).2
  have HK2 := Lib.hid (rd_parts hru).2
  have HG := Lib.hid (And.intro (good_ents hta.succ) (And.intro (good_ents htb.succ) (And.intro (good_kids hta.succ hna5) (good_kids htb.succ hnb5))))
  have hne5 : ne ≤ 100000 := by have := nodes_es es ks; have := HLA.out.1; omega
  have hnk5 : nk ≤ 100000 := by have := nodes_es es ks; have := HLA.out.2; omega
  have hme5 : me ≤ 100000 := by have := nodes_es es2 ks2; have := HLB.out.1; omega
  have hmk5 : mk ≤ 100000 := by have := nodes_es es2 ks2; have := HLB.out.2; omega
  clear hih hla hlb hra hrb hRa hRb hrt hru hta htb hna5 hnb5
  obtain ⟨W0, p, q, HW0, HP, HQ, HK⟩ := boxC2 w Ae Ak Be Bk Ca Cb ne nk ce ck me mk de dk na ca9 nb cb9
  obtain ⟨r, hr⟩ : ∃ z, z = p + 1 + 1 := ⟨_, rfl⟩
  obtain ⟨W, hW⟩ : ∃ v, v = ((w.alloc (.cells #[.slice Ae ne ce, .slice Ak nk ck, .slice Ca na ca9] 29)).alloc (.cells #[.slice Be me de, .slice Bk mk dk, .slice Cb nb cb9] 29)).alloc (.cells #[.slice none 0 0, .slice none 0 0] 25) := ⟨_, rfl⟩
  have hbW : Below W0.heap.size W0 W := by rw [hW, ← HW0.out]; exact Dt.box_below _ _ _
  have hsz : W0.heap.size = r := by rw [HW0.out, hr, HP.out]; simp
  have z0 : W.cell? ⟨r, 0, none⟩ = some (.slice none 0 0) := by rw [hW, hr, HP.out]; go_simp
  have z1 : W.cell? ⟨r, 1, none⟩ = some (.slice none 0 0) := by rw [hW, hr, HP.out]; go_simp
  have HKc := Lib.hid ((HK.out.later hbW).drew)
  have HKR := Lib.hid ((((Kept.nil_of (HK.out.below.trans (hbW.mono HK.out.below.size))).cons_of z1).cons_of z0).drew)
  have HFR : Hid (Free r W.drew) := (show Free r W from ⟨World.block_lt_of_cell? W _ z0, fun j => by rw [hW, hr, HP.out]; go_simp⟩).drew
  have hwr : w.heap.size ≤ r := by have := HK.out.below.size; omega
  have hpr : p < r := by omega
  have hqr : q < r := by have := HQ.out; omega
  have HR := Lib.hid hr
  have HW := Lib.hid hW
  clear HK hbW hsz hr hW z0 z1
  go_enter Tryz.func69, Tryz.ntmps69
  go_wp2_with fail
  rw [← HW.out, ← HP.out, ← HR.out]
  try rw [← HQ.out]
  refine wp_region_held_drew (S := fun W => W.cell? ⟨p, 0, none⟩ = some (.slice Ae ne ce) ∧ W.cell? ⟨p, 1, none⟩ = some (.slice Ak nk ck) ∧ W.cell? ⟨p, 2, none⟩ = some (.slice Ca na ca9) ∧ W.cell? ⟨q, 0, none⟩ = some (.slice Be me de) ∧ W.cell? ⟨q, 1, none⟩ = some (.slice Bk mk dk) ∧ W.cell? ⟨q, 2, none⟩ = some (.slice Cb nb cb9)) (by kernel_rfl) (by exact ⟨HKc.out.c0, HKc.out.c1, HKc.out.c2, HKc.out.c3, HKc.out.c4, HKc.out.c5⟩) (fun hHeld => ?_)
  obtain ⟨w1, hw1⟩ : ∃ v, v = W.drew := ⟨_, rfl⟩
  rw [← hw1] at hHeld HKc HKR HFR ⊢
  clear hw1
  refine Tk 0 5 ?_
  refine Tk 1 6 ?_
  refine Tk 3 8 ?_
  refine Tk 4 9 ?_
  refine wpAnyH_ready (rs := [2]) (by kernel_rfl) (by simp) ?_
  refine AllReadyH.cons (o := ⟨some 7, _, _, _, _, _⟩) rfl (fun K hK => ?_) AllReadyH.nil
  go_simp
  (go_at_call 95; refine (entriesC_any ca cb es es2 Ae Ak Be Bk Ca Cb ne nk ce ck me mk de dk na ca9 nb cb9 w1 HC.out.1 HC.out.2.1 hna hnb ((HC.out.2.2.1.below HKc.out.below).more HKc.out.below.size) ((HC.out.2.2.2.1.below HKc.out.below).more HKc.out.below.size) HC.out.2.2.2.2.1 HC.out.2.2.2.2.2 hne5 hme5 HLA.out.1 HLB.out.1 ((HE1.out.below HKc.out.below).more HKc.out.below.size) ((HE2.out.below HKc.out.below).more HKc.out.below.size) (upE HTA.out.2.1) (upE HTB.out.2.1) HG.out.1 HG.out.2.1).mono ?_)
  rintro e v1 ⟨A1, k1, d1, rfl, hl1, ho1, hb1⟩
  have hr1 : r < w1.heap.size := HFR.out.1
  have HO1 : Hid ((mrg keyE ltD (stE ca cb) es es2).length = k1 ∧ RO v1 (fun b => w1.heap.size ≤ b) 4 A1 k1 d1 (entsC (mrg keyE ltD (stE ca cb) es es2))) := ⟨hl1, (RO.of_own ho1).mono fun b hb _ => hb.1⟩
  have HKc := Lib.hid (HKc.out.later hb1)
  have HKR := Lib.hid (HKR.out.later hb1)
  have HFR := Lib.hid (HFR.out.later hb1)
  have HW1 : Hid (w1.heap.size ≤ v1.heap.size) := hb1.size
  clear hl1 ho1 hb1
  refine hK.out _ _ ?_ (fun hHeld2 => ?_)
  · exact ⟨HKc.out.c0, HKc.out.c1, HKc.out.c2, HKc.out.c3, HKc.out.c4, HKc.out.c5⟩
  clear hK K hHeld
  have hHeld := hHeld2
  clear hHeld2
  try simp only [Act.put, List.setIfInBounds_toArray, List.set_cons_zero, List.set_cons_succ]
  refine wpAnyH_ready (rs := [5]) (by kernel_rfl) (by simp) ?_
  refine AllReadyH.cons (o := ⟨some 10, _, _, _, _, _⟩) rfl (fun K hK => ?_) AllReadyH.nil
  go_simp
  (go_at_call 96; refine (kidsC_any d ca cb (HIH.out ca cb) ks ks2 Ae Ak Be Bk Ca Cb ne nk ce ck me mk de dk na ca9 nb cb9 v1 HC.out.1 HC.out.2.1 hna hnb ((HC.out.2.2.1.below HKc.out.below).more HKc.out.below.size) ((HC.out.2.2.2.1.below HKc.out.below).more HKc.out.below.size) HC.out.2.2.2.2.1 HC.out.2.2.2.2.2 hnk5 hmk5 HLA.out.2 HLB.out.2 (HK1.out.below HKc.out.below |>.more HKc.out.below.size) (HK2.out.below HKc.out.below |>.more HKc.out.below.size) HTA.out.2.2.1 HTB.out.2.2.1 HG.out.2.2.1 HG.out.2.2.2).mono ?_)
  rintro e v2 ⟨bs, A2, k2, d2, kr, rfl, hbs, ho2, hb2⟩
  have HT9 : Hid (RdO v2 (fun b => w1.heap.size ≤ b) (joinT (d + 1) ca cb (.mk es ks) (.mk es2 ks2)) ⟨A1, k1, d1⟩ ⟨A2, k2, d2⟩) := ho2.tree (fun b hb _ => by have := HW1.out; omega) HO1.out.1 (HO1.out.2.keep hb2.size fun b _ hlt => hb2.block b hlt)
  have HKc := Lib.hid (HKc.out.later hb2)
  have HKR := Lib.hid (HKR.out.later hb2)
  have HFR := Lib.hid (HFR.out.later hb2)
  have z0 := HKR.out.c0
  have z1 := HKR.out.c1
  have m0 := HFR.out.2 0
  have m1 := HFR.out.2 1
  clear ho2 hb2 hbs
  refine hK.out _ _ ?_ (fun hHeld2 => ?_)
  · exact ⟨HKc.out.c0, HKc.out.c1, HKc.out.c2, HKc.out.c3, HKc.out.c4, HKc.out.c5⟩
  clear hK K hHeld
  have hHeld := hHeld2
  clear hHeld2
  try simp only [Act.put, List.setIfInBounds_toArray, List.set_cons_zero, List.set_cons_succ]
  refine Tk 6 11 ?_
  refine wpAnyH_ready (rs := [7]) (by kernel_rfl) (by simp) ?_
  refine AllReadyH.cons (o := ⟨none, _, _, _, _, _⟩) rfl (fun K hK => ?_) AllReadyH.nil
  go_simp
  refine hK.out _ _ ?_ (fun hHeld2 => ?_)
  · (try dsimp only)
    have h9 := (HKc.out.set (a := ⟨r, 0, none⟩) hwr (fun x hx => by simp at hx; rcases hx with rfl | rfl | rfl | rfl | rfl | rfl <;> (dsimp only; omega)) (.slice A1 k1 d1)).set (a := ⟨r, 1, none⟩) hwr (fun x hx => by simp at hx; rcases hx with rfl | rfl | rfl | rfl | rfl | rfl <;> (dsimp only; omega)) (.slice A2 k2 d2)
    exact ⟨h9.c0, h9.c1, h9.c2, h9.c3, h9.c4, h9.c5⟩
  clear hK K hHeld
  have hHeld := hHeld2
  clear hHeld2
  try simp only [Act.put, List.setIfInBounds_toArray, List.set_cons_zero, List.set_cons_succ]
  refine wpAnyH_done (by kernel_rfl) ?_ _
  clear hHeld
  obtain ⟨W9, hW9⟩ : ∃ W, W = (v2.setCell ⟨r, 0, none⟩ (.slice A1 k1 d1)).setCell ⟨r, 1, none⟩ (.slice A2 k2 d2) := ⟨_, rfl⟩
  have HB9 : Hid (Below w.heap.size w W9) := by
    unfold Hid
    rw [hW9]
    exact (HKc.out.below.setCell (p := ⟨r, 0, none⟩) hwr _).setCell (p := ⟨r, 1, none⟩) hwr _
  have HT10 : Hid (RdO W9 (fun b => w.heap.size ≤ b) (joinT (d + 1) ca cb (.mk es ks) (.mk es2 ks2)) ⟨A1, k1, d1⟩ ⟨A2, k2, d2⟩) := by
    unfold Hid
    rw [hW9]
    exact RdO.mono (fun b hb _ => by have := hr1; omega) _ (RdO.keep (by simp [World.setCell]) (fun b hb _ => (Below.heap_setCell _ ⟨r, 1, none⟩ _ b (fun e => by have h : b = r := e; omega)).trans (Below.heap_setCell _ ⟨r, 0, none⟩ _ b (fun e => by have h : b = r := e; omega))) _ HT9.out)
  have l0 : W9.cell? ⟨r, 0, none⟩ = some (.slice A1 k1 d1) := by rw [hW9]; go_simp
  have l1 : W9.cell? ⟨r, 1, none⟩ = some (.slice A2 k2 d2) := by rw [hW9]; go_simp
  clear z0 z1 m0 m1
  rw [← hW9]
  clear hW9
  go_wp2_with fail
  refine bodyPost_ret (v := .agg #[.slice A1 k1 d1, .slice A2 k2 d2]) (by simp [results, Tryz.results69, go_sem, l0, l1]) rfl ⟨A1, k1, d1, A2, k2, d2, rfl, HT10.out, HB9.out⟩
/-- two trees of at most so many levels, joined -/
theorem trees_ok : ∀ (d : Nat) (ca cb : List S3), TreesOk d ca cb
  | 0, ca, cb => by
    intro ta tb Ae Ak Be Bk Ca Cb ne nk ce ck me mk de dk na ca9 nb cb9 w hta htb hne
    have e : ∀ t : T, RT 0 t → t = none_ := fun t h => by
      rcases h with h | h
      · exact h.elim
      · exact h
    exact absurd ⟨e ta hta, e tb htb⟩ hne
  | d + 1, ca, cb => by
    intro ta tb Ae Ak Be Bk Ca Cb ne nk ce ck me mk de dk na ca9 nb cb9 w hta htb _ hna5 hnb5 hla hlb hna hnb hra hrb hRa hRb hrt hru
    exact trees_step d (fun ca cb => trees_ok d ca cb) ca cb ta tb Ae Ak Be Bk Ca Cb ne nk ce ck me mk de dk na ca9 nb cb9 w hta htb hna5 hnb5 hla hlb hna hnb hra hrb hRa hRb hrt hru
end Cs
end Go.Proofs.YtcbclefemcmhpaaGreat
namespace Go.Proofs.YtcbclefemcmhpaaGreat
open Go.ChangeShapes Go.WideShapes Go.ChangeAt Go.RowKit
namespace Cs
open Tr Cx Sp Rw Classical
theorem Calls.some {P : Program} {f : FuncId} {args : Array Value} {w : World} {R : Ending → World → Prop} (h : Calls P f args w R) : ∃ e w', R e w' := by
  obtain ⟨e, w', _, hr, _⟩ := h []
  exact ⟨e, w', hr⟩
theorem empty_of {l : List S3} (hl : RightC l) (h : ∀ d n, Cen d → hasC l d n = false) : l = [] := extC hl right_noneC fun d n hd => by rw [h d n hd]; rfl
theorem rightKB_of {t : T} {cs u l : List S3} (ht : rightB 5 t = true) (hc : RightC cs) (hu : OfC (dl t) u) (hl : PutC minF u cs l) : rightKB (t, cs) = decide (l = []) := by
  have hiff : RK (t, cs) ↔ l = [] := by
    constructor
    · intro h
      refine empty_of hl.right fun d n hd => ?_
      rw [hl.has d n hd]
      unfold minF
      cases h1 : hasC u d n with
      | false => rfl
      | true =>
        have h2 := (hu.has d n hd).1 h1
        unfold dl at h2
        obtain ⟨x, hx, he⟩ := List.mem_map.1 h2
        have h3 := h.has x hx
        have e1 : x.2.a = d := congrArg Prod.fst he
        have e2 : x.2.n = n := congrArg Prod.snd he
        rw [e1, e2] at h3
        rw [show hasC cs d n = true from h3]
        rfl
    · rintro rfl
      refine ⟨rightB_iff.1 ht, hc, fun x hx => ?_⟩
      have hm : (x.2.a, x.2.n) ∈ dl t := List.mem_map.2 ⟨x, hx, rfl⟩
      have hd := (good_num (good_dl (rightB_iff.1 ht) _ hm)).1
      have h1 := (hu.has x.2.a x.2.n hd).2 hm
      have h2 := hl.has x.2.a x.2.n hd
      rw [h1] at h2
      have h3 : hasC [] x.2.a x.2.n = false := rfl
      rw [h3] at h2
      show hasC cs x.2.a x.2.n = true
      cases h4 : hasC cs x.2.a x.2.n with
      | true => rfl
      | false => rw [h4] at h2; cases h2
  unfold rightKB
  by_cases h : l = []
  · rw [decide_eq_true h]
    exact decide_eq_true (hiff.2 h)
  · rw [decide_eq_false h]
    exact decide_eq_false fun h2 => h (hiff.1 h2)
theorem rightKB_noT {t : T} {cs : List S3} (h : rightB 5 t = false) : rightKB (t, cs) = false := decide_eq_false fun h2 => by
  have h3 := rightB_iff.2 h2.tree
  rw [h] at h3
  cases h3
theorem rightKB_noC {t : T} {cs : List S3} (h : ¬ RightC cs) : rightKB (t, cs) = false := decide_eq_false fun h2 => h h2.ctx
/-- a box of what is known -/
theorem boxC1 (w : World) (Ae Ak Ca : Option Addr) (ne nk ce ck na ca9 : Nat) : ∃ (W : World) (p : Nat), Hid (W = w.alloc (.cells #[.slice Ae ne ce, .slice Ak nk ck, .slice Ca na ca9] 29)) ∧ Hid (p = w.heap.size) ∧ Hid (Kept [(⟨p, 0, none⟩, .slice Ae ne ce), (⟨p, 1, none⟩, .slice Ak nk ck), (⟨p, 2, none⟩, .slice Ca na ca9)] w W) := by
  refine ⟨_, _, rfl, rfl, ?_⟩
  have h0 := Kept.nil_of (Dt.box_below w #[.slice Ae ne ce, .slice Ak nk ck, .slice Ca na ca9] 29)
  refine ((h0.cons_of ?_).cons_of ?_).cons_of ?_ <;> go_simp
set_option maxRecDepth 100000 in
set_option maxHeartbeats 4000000 in
theorem rightK_any (t : T) (cs : List S3) (Ae Ak Ca : Option Addr) (ne nk ce ck na ca9 : Nat) (w : World) (hn : nodes t ≤ 1000) (hl : cs.length = na) (hna : na ≤ 1000) (hr : RdT w w.heap.size t ⟨Ae, ne, ce⟩ ⟨Ak, nk, ck⟩) (hc : Rd w w.heap.size 3 Ca na ca9 (spsC cs)) :
    Calls Tryz.prog 15 #[.agg #[.slice Ae ne ce, .slice Ak nk ck, .slice Ca na ca9]] w fun e w' => e = .returned (.bool (rightKB (t, cs))) ∧ Below w.heap.size w w' := by
  obtain ⟨z, hz⟩ : ∃ z, rightKB (t, cs) = z := ⟨_, rfl⟩
  rw [hz]
  have HZ := Lib.hid hz
  have HR := Lib.hid (And.intro hr (And.intro hl hc))
  have HN := Lib.hid hn
  clear hz hr hl hc hn
  obtain ⟨W, p, HW, HP, HK⟩ := boxC1 w Ae Ak Ca ne nk ce ck na ca9
  have hb := HK.out.below
  have c0 := HK.out.c0
  have c1 := HK.out.c1
  have c2 := HK.out.c2
  have HRT := Lib.hid (RdT.more hb.size _ (RdT.below HR.out.1 hb))
  clear hb
  go_enter Tryz.func15, Tryz.ntmps15
  go_wp2_with fail
  rw [← HP.out, ← HW.out]
  cases hb : rightB 5 t with
  | false =>
    obtain rfl : z = false := by rw [← HZ.out]; exact rightKB_noT hb
    refine (dotsT_bad t Ae Ak ne nk ce ck W hb (LenT.few (by have := HN.out; omega)) HRT.out).mono ?_
    rintro e w1 ⟨rfl, hb1⟩
    have HB1 := Lib.hid (HK.out.below.trans (hb1.mono HK.out.below.size))
    clear hb1 c0 c1 c2 hb
    go_wp2_with fail
    go_ret
    exact ⟨rfl, HB1.out⟩
  | true =>
    refine (dotsT_any t Ae Ak ne nk ce ck W hb (LenT.few (by have := HN.out; omega)) HN.out HRT.out).mono ?_
    rintro e w1 ⟨u, q, A, c, rfl, HUL, HOF, hq, HRU, hb1⟩
    have HK1 := Lib.hid (HK.out.later hb1)
    have hcr := (HR.out.2.2.below HK1.out.below).more HK1.out.below.size
    have HT := Lib.hid hb
    clear hb1 c0 c1 c2 hb
    have c2 := HK1.out.c2
    by_cases hc : RightC cs
    · have HLQ := Lib.hid (leqC_any u cs q na A Ca c ca9 w1 HUL.out HR.out.2.1 (by have := HN.out; omega) (by omega) HRU.out hcr HOF.out.right hc)
      have HC := Lib.hid hc
      clear hcr hc
      go_wp2_with fail
      refine HLQ.out.mono ?_
      rintro e w2 ⟨l, hpl, rfl, hb2⟩
      have HB2 := Lib.hid (HK1.out.below.trans (hb2.mono HK1.out.below.size))
      obtain ⟨y, hy⟩ : ∃ y, decide (l = []) = y := ⟨_, rfl⟩
      rw [hy]
      have hzy : z = y := by rw [← HZ.out, ← hy]; exact rightKB_of HT.out HC.out HOF.out hpl
      have HZY := Lib.hid hzy
      clear hpl hb2 hy hzy
      go_wp2_with fail
      go_ret
      exact ⟨by rw [HZY.out]; try rfl, HB2.out⟩
    · obtain rfl : z = false := by rw [← HZ.out]; exact rightKB_noC hc
      have HLQ := Lib.hid (leqC_bad u cs q na A Ca c ca9 w1 HUL.out HR.out.2.1 (by have := HN.out; omega) (by omega) HRU.out hcr (by rw [rightCB_false hc, Bool.and_false]))
      clear hcr hc
      go_wp2_with fail
      refine HLQ.out.mono ?_
      rintro e w2 ⟨rfl, hb2⟩
      have HB2 := Lib.hid (HK1.out.below.trans (hb2.mono HK1.out.below.size))
      clear hb2
      go_wp2_with fail
      go_ret
      exact ⟨rfl, HB2.out⟩
set_option maxRecDepth 100000 in
set_option maxHeartbeats 4000000 in
theorem refleqC_any (a b u : List S3) (n m q : Nat) (A B : Option Addr) (c d : Nat) (w : World) (hla : a.length = n) (hlb : b.length = m) (hlu : u.length = q) (hn : n ≤ 1000) (hm : m ≤ 1000) (hra : Rd w w.heap.size 3 A n c (spsC a)) (hrb : Rd w w.heap.size 3 B m d (spsC b)) (ha : RightC a) (hb : RightC b) (hu : PutC minF a b u) (huq : q ≤ 800000) :
    Calls Tryz.prog 38 #[.slice A n c, .slice B m d] w fun e w' => e = .returned (.bool (decide (u = []))) ∧ Below w.heap.size w w' := by
  have HC := Lib.hid (refbyC_any minF 2 (.inr (.inr ⟨rfl, rfl⟩)) a b u n m q A B c d w hla hlb hlu hn hm hra hrb ha hb hu huq)
  have HE : Hid (decide (u = []) = ((q : Int) == 0)) := by
    unfold Hid
    rw [← hlu]
    cases u with
    | nil => rfl
    | cons x u =>
      rw [decide_eq_false (by simp)]
      symm
      rw [beq_eq_false_iff_ne]
      simp
      omega
  clear hla hlb hra hrb ha hb hu hlu
  go_enter Tryz.func38, Tryz.ntmps38
  go_wp2_with (go_at_call 67; refine HC.out.mono ?_; rintro e w1 ⟨A1, c1, rfl, h1, h2⟩)
  go_ret
  exact ⟨by rw [HE.out]; try rfl, h2⟩
set_option maxRecDepth 100000 in
set_option maxHeartbeats 4000000 in
theorem refrightK_any (t : T) (cs : List S3) (Ae Ak Ca : Option Addr) (ne nk ce ck na ca9 : Nat) (w : World) (hn : nodes t ≤ 1000) (hl : cs.length = na) (hna : na ≤ 1000) (hr : RdT w w.heap.size t ⟨Ae, ne, ce⟩ ⟨Ak, nk, ck⟩) (hc : Rd w w.heap.size 3 Ca na ca9 (spsC cs)) (hn2 : nodes t ≤ 200) :
    Calls Tryz.prog 16 #[.agg #[.slice Ae ne ce, .slice Ak nk ck, .slice Ca na ca9]] w fun e w' => e = .returned (.bool (rightKB (t, cs))) ∧ Below w.heap.size w w' := by
  obtain ⟨z, hz⟩ : ∃ z, rightKB (t, cs) = z := ⟨_, rfl⟩
  rw [hz]
  have HEX : Hid (rightB 5 t = true → ∃ u, OfC (dl t) u ∧ u.length ≤ 4 * nodes t) := fun hb => by
    obtain ⟨e, w', u, q, A, c, _, h1, h2, h3, _⟩ := Cs.Calls.some (dotsT_any t Ae Ak ne nk ce ck w hb (LenT.few (by omega)) hn hr)
    exact ⟨u, h2.out, by rw [h1.out]; exact h3⟩
  have HR := Lib.hid (And.intro hr (And.intro hl hc))
  have HN := Lib.hid hn
  have HN2 := Lib.hid hn2
  have HZ := Lib.hid hz
  have HMX : Hid (∀ (W : World) (u : List S3) (q : Nat) (A : Option Addr) (c : Nat), Rd W W.heap.size 3 A q c (spsC u) → u.length = q → q ≤ 1000 → Below w.heap.size w W → RightC u → RightC cs → ∃ l, PutC minF u cs l ∧ l.length ≤ 800000) := fun W u q A c h1 h2 h3 h4 h5 h6 => by
    obtain ⟨e, w', l, k, _, _, _, g1, g2, g3, _⟩ := Cs.Calls.some (minusC_any u cs q na A Ca c ca9 W h2 hl (by omega) (by omega) h1 ((hc.below h4).more h4.size) h5 h6)
    exact ⟨l, g2.out, by rw [g1.out]; omega⟩
  clear hz hr hl hc hn hn2
  obtain ⟨W, p, HW, HP, HK⟩ := boxC1 w Ae Ak Ca ne nk ce ck na ca9
  have c0 := HK.out.c0
  have c1 := HK.out.c1
  have c2 := HK.out.c2
  have HKc := Lib.hid (HK.out.drew)
  go_enter Tryz.func16, Tryz.ntmps16
  go_wp2_with fail
  rw [← HP.out, ← HW.out]
  cases hb : rightB 5 t with
  | false =>
    obtain rfl : z = false := by rw [← HZ.out]; exact rightKB_noT hb
    have HT := Lib.hid hb
    clear hb HEX HMX
    refine wp_region_held_drew (S := fun W => W.cell? ⟨p, 0, none⟩ = some (.slice Ae ne ce) ∧ W.cell? ⟨p, 1, none⟩ = some (.slice Ak nk ck) ∧ W.cell? ⟨p, 2, none⟩ = some (.slice Ca na ca9)) (by kernel_rfl) (by exact ⟨HKc.out.c0, HKc.out.c1, HKc.out.c2⟩) (fun hHeld => ?_)
    obtain ⟨w1, hw1⟩ : ∃ v, v = W.drew := ⟨_, rfl⟩
    rw [← hw1] at hHeld HKc ⊢
    clear hw1
    refine Tk 0 3 ?_
    refine Tk 1 4 ?_
    refine wpAnyH_ready (rs := [2]) (by kernel_rfl) (by simp) ?_
    refine AllReadyH.cons (o := ⟨some 5, _, _, _, _, _⟩) rfl (fun K hK => ?_) AllReadyH.nil
    go_simp
    (go_at_call 36; refine (refrightT_any t Ae Ak ne nk ce ck w1 (LenT.few (by have := HN.out; omega)) (RdT.more HKc.out.below.size _ (RdT.below HR.out.1 HKc.out.below))).mono ?_)
    rw [HT.out]
    rintro e v2 ⟨rfl, hb9⟩
    have HKc := Lib.hid (HKc.out.later hb9)
    clear hb9
    refine hK.out _ _ ?_ (fun hHeld2 => ?_)
    · exact ⟨HKc.out.c0, HKc.out.c1, HKc.out.c2⟩
    clear hK K hHeld
    have hHeld := hHeld2
    clear hHeld2
    try simp only [Act.put, List.setIfInBounds_toArray, List.set_cons_zero, List.set_cons_succ]
    refine Tk 3 6 ?_
    refine Tn 4 7 ?_
    refine Tn 5 8 ?_
    refine Tn 6 9 ?_
    refine Tk 7 10 ?_
    refine Tk 8 11 ?_
    refine Tn 9 12 ?_
    refine Tn 10 13 ?_
    refine Tn 11 14 ?_
    refine Tn 12 15 ?_
    refine Tn 13 16 ?_
    refine Tn 14 17 ?_
    refine Tk 15 18 ?_
    refine Tk 16 2 ?_
    refine wpAnyH_done (by kernel_rfl) ?_ _
    clear hHeld
    go_wp2_with fail
    go_ret
    exact ⟨by first | rfl | (rw [HZ.out]; rfl), HKc.out.below⟩
  | true =>
    have HT := Lib.hid hb
    obtain ⟨u, hu1, hu2⟩ := HEX.out hb
    obtain ⟨q, hq⟩ : ∃ q, u.length = q := ⟨_, rfl⟩
    have hq1 : q ≤ 1000 := by have := HN2.out; omega
    have HU := Lib.hid (And.intro hu1 (And.intro hq hq1))
    clear hb HEX hu1 hu2 hq
    cases hcs : rightCB cs with
    | false =>
      obtain rfl : z = false := by rw [← HZ.out]; exact rightKB_noC (not_rightCB hcs)
      have HC := Lib.hid hcs
      clear hcs HMX
      refine wp_region_held_drew (S := fun W => W.cell? ⟨p, 0, none⟩ = some (.slice Ae ne ce) ∧ W.cell? ⟨p, 1, none⟩ = some (.slice Ak nk ck) ∧ W.cell? ⟨p, 2, none⟩ = some (.slice Ca na ca9)) (by kernel_rfl) (by exact ⟨HKc.out.c0, HKc.out.c1, HKc.out.c2⟩) (fun hHeld => ?_)
      obtain ⟨w1, hw1⟩ : ∃ v, v = W.drew := ⟨_, rfl⟩
      rw [← hw1] at hHeld HKc ⊢
      clear hw1
      refine Tk 0 3 ?_
      refine Tk 1 4 ?_
      refine wpAnyH_ready (rs := [2]) (by kernel_rfl) (by simp) ?_
      refine AllReadyH.cons (o := ⟨some 5, _, _, _, _, _⟩) rfl (fun K hK => ?_) AllReadyH.nil
      go_simp
      (go_at_call 36; refine (refrightT_any t Ae Ak ne nk ce ck w1 (LenT.few (by have := HN.out; omega)) (RdT.more HKc.out.below.size _ (RdT.below HR.out.1 HKc.out.below))).mono ?_)
      rw [HT.out]
      rintro e v2 ⟨rfl, hb9⟩
      have HKc := Lib.hid (HKc.out.later hb9)
      clear hb9
      refine hK.out _ _ ?_ (fun hHeld2 => ?_)
      · exact ⟨HKc.out.c0, HKc.out.c1, HKc.out.c2⟩
      clear hK K hHeld
      have hHeld := hHeld2
      clear hHeld2
      try simp only [Act.put, List.setIfInBounds_toArray, List.set_cons_zero, List.set_cons_succ]
      refine Tk 3 6 ?_
      refine Tk 4 7 ?_
      refine Tk 5 8 ?_
      refine wpAnyH_ready (rs := [6]) (by kernel_rfl) (by simp) ?_
      refine AllReadyH.cons (o := ⟨some 9, _, _, _, _, _⟩) rfl (fun K hK => ?_) AllReadyH.nil
      go_simp
      (go_at_call 37; refine (refrightC_any cs na Ca ca9 v2 HR.out.2.1 (by omega) ((HR.out.2.2.below HKc.out.below).more HKc.out.below.size) false HC.out).mono ?_)
      rintro e v6 ⟨rfl, hb9⟩
      have HKc := Lib.hid (HKc.out.later hb9)
      clear hb9
      refine hK.out _ _ ?_ (fun hHeld2 => ?_)
      · exact ⟨HKc.out.c0, HKc.out.c1, HKc.out.c2⟩
      clear hK K hHeld
      have hHeld := hHeld2
      clear hHeld2
      try simp only [Act.put, List.setIfInBounds_toArray, List.set_cons_zero, List.set_cons_succ]
      refine Tk 7 10 ?_
      refine Tk 8 11 ?_
      refine Tn 9 12 ?_
      refine Tn 10 13 ?_
      refine Tn 11 14 ?_
      refine Tn 12 15 ?_
      refine Tn 13 16 ?_
      refine Tn 14 17 ?_
      refine Tk 15 18 ?_
      refine Tk 16 2 ?_
      refine wpAnyH_done (by kernel_rfl) ?_ _
      clear hHeld
      go_wp2_with fail
      go_ret
      exact ⟨by first | rfl | (rw [HZ.out]; rfl), HKc.out.below⟩
    | true =>
      have HC := Lib.hid hcs
      have HCC := Lib.hid (of_rightCB hcs)
      clear hcs
      refine wp_region_held_drew (S := fun W => W.cell? ⟨p, 0, none⟩ = some (.slice Ae ne ce) ∧ W.cell? ⟨p, 1, none⟩ = some (.slice Ak nk ck) ∧ W.cell? ⟨p, 2, none⟩ = some (.slice Ca na ca9)) (by kernel_rfl) (by exact ⟨HKc.out.c0, HKc.out.c1, HKc.out.c2⟩) (fun hHeld => ?_)
      obtain ⟨w1, hw1⟩ : ∃ v, v = W.drew := ⟨_, rfl⟩
      rw [← hw1] at hHeld HKc ⊢
      clear hw1
      refine Tk 0 3 ?_
      refine Tk 1 4 ?_
      refine wpAnyH_ready (rs := [2]) (by kernel_rfl) (by simp) ?_
      refine AllReadyH.cons (o := ⟨some 5, _, _, _, _, _⟩) rfl (fun K hK => ?_) AllReadyH.nil
      go_simp
      (go_at_call 36; refine (refrightT_any t Ae Ak ne nk ce ck w1 (LenT.few (by have := HN.out; omega)) (RdT.more HKc.out.below.size _ (RdT.below HR.out.1 HKc.out.below))).mono ?_)
      rw [HT.out]
      rintro e v2 ⟨rfl, hb9⟩
      have HKc := Lib.hid (HKc.out.later hb9)
      clear hb9
      refine hK.out _ _ ?_ (fun hHeld2 => ?_)
      · exact ⟨HKc.out.c0, HKc.out.c1, HKc.out.c2⟩
      clear hK K hHeld
      have hHeld := hHeld2
      clear hHeld2
      try simp only [Act.put, List.setIfInBounds_toArray, List.set_cons_zero, List.set_cons_succ]
      refine Tk 3 6 ?_
      refine Tk 4 7 ?_
      refine Tk 5 8 ?_
      refine wpAnyH_ready (rs := [6]) (by kernel_rfl) (by simp) ?_
      refine AllReadyH.cons (o := ⟨some 9, _, _, _, _, _⟩) rfl (fun K hK => ?_) AllReadyH.nil
      go_simp
      (go_at_call 37; refine (refrightC_any cs na Ca ca9 v2 HR.out.2.1 (by omega) ((HR.out.2.2.below HKc.out.below).more HKc.out.below.size) true HC.out).mono ?_)
      rintro e v6 ⟨rfl, hb9⟩
      have HKc := Lib.hid (HKc.out.later hb9)
      clear hb9
      refine hK.out _ _ ?_ (fun hHeld2 => ?_)
      · exact ⟨HKc.out.c0, HKc.out.c1, HKc.out.c2⟩
      clear hK K hHeld
      have hHeld := hHeld2
      clear hHeld2
      try simp only [Act.put, List.setIfInBounds_toArray, List.set_cons_zero, List.set_cons_succ]
      refine Tk 7 10 ?_
      refine Tk 8 11 ?_
      refine Tk 9 12 ?_
      refine Tk 10 13 ?_
      refine Tk 12 15 ?_
      refine Tk 13 16 ?_
      refine wpAnyH_ready (rs := [11]) (by kernel_rfl) (by simp) ?_
      refine AllReadyH.cons (o := ⟨some 14, _, _, _, _, _⟩) rfl (fun K hK => ?_) AllReadyH.nil
      go_simp
      (go_at_call 39; refine (refdots_any t Ae Ak ne nk ce ck v6 HN.out (RdT.more HKc.out.below.size _ (RdT.below HR.out.1 HKc.out.below)) (good_dl (rightB_iff.1 HT.out)) u HU.out.1 q HU.out.2.1 (by omega)).mono ?_)
      rintro e v11 ⟨A7, c7, rfl, hru, hb9⟩
      obtain ⟨l, hl1, hl2⟩ := HMX.out v11 u q A7 c7 hru HU.out.2.1 HU.out.2.2 (HKc.out.below.trans (hb9.mono HKc.out.below.size)) HU.out.1.right HCC.out
      obtain ⟨m, hm⟩ : ∃ m, l.length = m := ⟨_, rfl⟩
      have HL := Lib.hid (And.intro hl1 (And.intro hm (And.intro (show m ≤ 800000 by omega) HU.out.2.2)))
      obtain ⟨y, hy⟩ : ∃ y, decide (l = []) = y := ⟨_, rfl⟩
      have hzy : z = y := by rw [← HZ.out, ← hy]; exact rightKB_of HT.out HCC.out HU.out.1 hl1
      have HZY := Lib.hid hzy
      have HY := Lib.hid hy
      clear hl1 hl2 hm hy hzy
      have HRU := Lib.hid hru
      clear hru
      have HKc := Lib.hid (HKc.out.later hb9)
      clear hb9
      refine hK.out _ _ ?_ (fun hHeld2 => ?_)
      · exact ⟨HKc.out.c0, HKc.out.c1, HKc.out.c2⟩
      clear hK K hHeld
      have hHeld := hHeld2
      clear hHeld2
      try simp only [Act.put, List.setIfInBounds_toArray, List.set_cons_zero, List.set_cons_succ]
      refine wpAnyH_ready (rs := [14]) (by kernel_rfl) (by simp) ?_
      refine AllReadyH.cons (o := ⟨some 17, _, _, _, _, _⟩) rfl (fun K hK => ?_) AllReadyH.nil
      go_simp
      (go_at_call 38; refine (refleqC_any u cs l q na m A7 Ca c7 ca9 v11 HU.out.2.1 HR.out.2.1 HL.out.2.1 HL.out.2.2.2 (by omega) HRU.out ((HR.out.2.2.below HKc.out.below).more HKc.out.below.size) HU.out.1.right HCC.out HL.out.1 HL.out.2.2.1).mono ?_)
      rw [HY.out, ← HZY.out]
      rintro e v14 ⟨rfl, hb9⟩
      have HKc := Lib.hid (HKc.out.later hb9)
      clear hb9
      refine hK.out _ _ ?_ (fun hHeld2 => ?_)
      · exact ⟨HKc.out.c0, HKc.out.c1, HKc.out.c2⟩
      clear hK K hHeld
      have hHeld := hHeld2
      clear hHeld2
      try simp only [Act.put, List.setIfInBounds_toArray, List.set_cons_zero, List.set_cons_succ]
      refine Tk 15 18 ?_
      refine Tk 16 2 ?_
      refine wpAnyH_done (by kernel_rfl) ?_ _
      clear hHeld
      go_wp2_with fail
      go_ret
      exact ⟨by first | rfl | (rw [HZ.out]; rfl), HKc.out.below⟩
end Cs
end Go.Proofs.YtcbclefemcmhpaaGreat
namespace Go.Proofs.YtcbclefemcmhpaaGreat
open Go.ChangeShapes Go.WideShapes Go.ChangeAt Go.RowKit
namespace Cs
open Tr Cx Sp Rw Classical
/-- what is known, of memory laid since -/
structure OwC (w' : World) (lo : Nat) (k : K) (Ae : Option Addr) (ne ce : Nat) (Ak : Option Addr) (nk ck : Nat) (Ca : Option Addr) (na ca9 : Nat) : Prop where
  tree : RdO w' (fun b => lo ≤ b) k.1 ⟨Ae, ne, ce⟩ ⟨Ak, nk, ck⟩
  len : k.2.length = na
  ctx : RO w' (fun b => lo ≤ b) 3 Ca na ca9 (spsC k.2)
theorem OwC.later {w w' : World} {lo : Nat} {k : K} {Ae Ak Ca : Option Addr} {ne ce nk ck na ca9 : Nat} (h : OwC w lo k Ae ne ce Ak nk ck Ca na ca9) (hb : Below w.heap.size w w') : OwC w' lo k Ae ne ce Ak nk ck Ca na ca9 := ⟨RdO.later h.tree hb, h.len, h.ctx.keep hb.size fun b _ hlt => hb.block b hlt⟩
theorem OwC.mono {w : World} {lo lo' : Nat} {k : K} {Ae Ak Ca : Option Addr} {ne ce nk ck na ca9 : Nat} (h : OwC w lo k Ae ne ce Ak nk ck Ca na ca9) (hl : lo' ≤ lo) : OwC w lo' k Ae ne ce Ak nk ck Ca na ca9 := ⟨RdO.mono (fun _ hb _ => Nat.le_trans hl hb) _ h.tree, h.len, h.ctx.mono fun _ hb _ => Nat.le_trans hl hb⟩
theorem OwC.rdT {w : World} {lo : Nat} {k : K} {Ae Ak Ca : Option Addr} {ne ce nk ck na ca9 : Nat} (h : OwC w lo k Ae ne ce Ak nk ck Ca na ca9) : RdT w w.heap.size k.1 ⟨Ae, ne, ce⟩ ⟨Ak, nk, ck⟩ := RdO.rd _ h.tree
theorem OwC.no (w : World) (lo : Nat) : OwC w lo noneK none 0 0 none 0 0 none 0 0 := ⟨RdO.none _ _ _ _ _ _, rfl, RO.nil _ _ _ _ _⟩
/-- three cells of a block below are written: what lies elsewhere stays -/
theorem OwC.set3 {w : World} {lo r : Nat} {k : K} {Ae Ak Ca : Option Addr} {ne ce nk ck na ca9 : Nat} (h : OwC w lo k Ae ne ce Ak nk ck Ca na ca9) (hr : r < lo) (v0 v1 v2 : Value) : OwC (((w.setCell ⟨r, 0, none⟩ v0).setCell ⟨r, 1, none⟩ v1).setCell ⟨r, 2, none⟩ v2) lo k Ae ne ce Ak nk ck Ca na ca9 := by
  have hk : ∀ b, lo ≤ b → (((w.setCell ⟨r, 0, none⟩ v0).setCell ⟨r, 1, none⟩ v1).setCell ⟨r, 2, none⟩ v2).heap[b]? = w.heap[b]? := fun b hb =>
    ((Below.heap_setCell _ ⟨r, 2, none⟩ _ b (fun e => by have h : b = r := e; omega)).trans (Below.heap_setCell _ ⟨r, 1, none⟩ _ b (fun e => by have h : b = r := e; omega))).trans (Below.heap_setCell _ ⟨r, 0, none⟩ _ b (fun e => by have h : b = r := e; omega))
  exact ⟨RdO.keep (by simp [World.setCell]) (fun b hb _ => hk b hb) _ h.tree, h.len, h.ctx.keep (by simp [World.setCell]) fun b hb _ => hk b hb⟩
def CausIs (k : K) (w : World) (e : Ending) (w' : World) : Prop := ∃ Ae ne ce Ak nk ck Ca na ca9, e = .returned (.agg #[.slice Ae ne ce, .slice Ak nk ck, .slice Ca na ca9]) ∧ OwC w' w.heap.size k Ae ne ce Ak nk ck Ca na ca9 ∧ Below w.heap.size w w'
def CausErr (k : K) (x : Int) (w : World) (e : Ending) (w' : World) : Prop := ∃ Ae ne ce Ak nk ck Ca na ca9, e = .returned (.tuple #[.agg #[.slice Ae ne ce, .slice Ak nk ck, .slice Ca na ca9], .int .i64 x]) ∧ OwC w' w.heap.size k Ae ne ce Ak nk ck Ca na ca9 ∧ Below w.heap.size w w'
set_option maxRecDepth 100000 in
set_option maxHeartbeats 4000000 in
theorem copiedC_any (cs : List S3) (Ca : Option Addr) (na ca9 : Nat) (w : World) (hl : cs.length = na) (hna : na ≤ 1000) (hc : Rd w w.heap.size 3 Ca na ca9 (spsC cs)) :
    Calls Tryz.prog 51 #[.slice Ca na ca9] w fun e w' => ∃ A c, e = .returned (.slice A na c) ∧ RO w' (fun b => w.heap.size ≤ b) 3 A na c (spsC cs) ∧ Below w.heap.size w w' := by
  obtain ⟨A2, c2, w2, h1, h2, h3⟩ := appsC (w := w) (base := w.heap.size) (n := 0) (m := na) (c := 0) (c' := ca9) (A := none) (A' := Ca) (xs := []) (ys := cs) ⟨World.ownsRow_nil _ _ _ _, by simp [spsC]⟩ hc (by omega) (Nat.le_refl _)
  rw [Nat.zero_add] at h1 h2
  rw [List.nil_append] at h2
  have Hrun := Lib.hid h1
  have HR : Hid (RO w2 (fun b => w.heap.size ≤ b) 3 A2 na c2 (spsC cs) ∧ Below w.heap.size w w2) := ⟨(RO.of_own h2).mono fun _ hb _ => hb.1, h3⟩
  clear h1 h2 h3 hc hl
  go_enter Tryz.func51, Tryz.ntmps51
  go_wp2_with (at_builtin; refine Lib.wpList_append_run _ rfl _ _ _ _ rfl _ _ rfl rfl _ _ Hrun.out ?_)
  go_ret
  exact ⟨A2, c2, rfl, HR.out⟩
/-- three boxes of what is known -/
theorem boxC3 (w : World) (Ae Ak Ca Be Bk Cb : Option Addr) (ne nk ce ck na ca9 me mk de dk nb cb9 : Nat) : ∃ (W : World) (p q r : Nat), Hid (W = ((w.alloc (.cells #[.slice Ae ne ce, .slice Ak nk ck, .slice Ca na ca9] 29)).alloc (.cells #[.slice Be me de, .slice Bk mk dk, .slice Cb nb cb9] 29)).alloc (.cells #[.slice none 0 0, .slice none 0 0, .slice none 0 0] 29)) ∧ Hid (p = w.heap.size) ∧ Hid (q = p + 1) ∧ Hid (r = p + 1 + 1) ∧ Hid (Kept [(⟨p, 0, none⟩, .slice Ae ne ce), (⟨p, 1, none⟩, .slice Ak nk ck), (⟨p, 2, none⟩, .slice Ca na ca9), (⟨q, 0, none⟩, .slice Be me de), (⟨q, 1, none⟩, .slice Bk mk dk), (⟨q, 2, none⟩, .slice Cb nb cb9)] w W) ∧ Hid (Kept [(⟨r, 0, none⟩, .slice none 0 0), (⟨r, 1, none⟩, .slice none 0 0), (⟨r, 2, none⟩, .slice none 0 0)] w W) ∧ Hid (Free r W) := by
  refine ⟨_, _, _, _, rfl, rfl, rfl, rfl, ?_, ?_, ⟨by simp, fun j => by go_simp⟩⟩
  · have h0 := Kept.nil_of (box3_below w #[.slice Ae ne ce, .slice Ak nk ck, .slice Ca na ca9] #[.slice Be me de, .slice Bk mk dk, .slice Cb nb cb9] #[.slice none 0 0, .slice none 0 0, .slice none 0 0] 29 29 29)
    refine (((((h0.cons_of ?_).cons_of ?_).cons_of ?_).cons_of ?_).cons_of ?_).cons_of ?_ <;> go_simp
  · have h0 := Kept.nil_of (box3_below w #[.slice Ae ne ce, .slice Ak nk ck, .slice Ca na ca9] #[.slice Be me de, .slice Bk mk dk, .slice Cb nb cb9] #[.slice none 0 0, .slice none 0 0, .slice none 0 0] 29 29 29)
    refine ((h0.cons_of ?_).cons_of ?_).cons_of ?_ <;> go_simp
set_option maxRecDepth 100000 in
set_option maxHeartbeats 4000000 in
theorem join0_any (t u : T) (cs ds : List S3) (Ae Ak Ca Be Bk Cb : Option Addr) (ne nk ce ck na ca9 me mk de dk nb cb9 : Nat) (w : World) (hn : nodes t ≤ 1000) (hl : cs.length = na) (hna : na ≤ 1000) (hr : RdT w w.heap.size t ⟨Ae, ne, ce⟩ ⟨Ak, nk, ck⟩) (hc : Rd w w.heap.size 3 Ca na ca9 (spsC cs)) (hn2 : nodes u ≤ 1000) (hl2 : ds.length = nb) (hnb : nb ≤ 1000) (hr2 : RdT w w.heap.size u ⟨Be, me, de⟩ ⟨Bk, mk, dk⟩) (hc2 : Rd w w.heap.size 3 Cb nb cb9 (spsC ds)) (ht : RightT 5 t) (hu : RightT 5 u) (hcs : RightC cs) (hds : RightC ds) :
    Calls Tryz.prog 40 #[.agg #[.slice Ae ne ce, .slice Ak nk ck, .slice Ca na ca9], .agg #[.slice Be me de, .slice Bk mk dk, .slice Cb nb cb9]] w fun e w' => ∃ x, IsJ (t, cs) (u, ds) x ∧ x.2.length ≤ na + nb ∧ CausIs x w e w' := by
  have HT := Lib.hid (And.intro ht (And.intro hu (And.intro hcs hds)))
  clear ht hu hcs hds
  have HA := Lib.hid (And.intro hn (And.intro hl (And.intro hr hc)))
  clear hn hl hr hc
  have HB := Lib.hid (And.intro hn2 (And.intro hl2 (And.intro hr2 hc2)))
  clear hn2 hl2 hr2 hc2
  obtain ⟨W, p, q, r, HW, HP, HQ, HR, HKc, HKR, HFR⟩ := boxC3 w Ae Ak Ca Be Bk Cb ne nk ce ck na ca9 me mk de dk nb cb9
  have hwr : w.heap.size ≤ r := by have := HP.out; have := HR.out; omega
  have hpr : p < r := by have := HR.out; omega
  have hqr : q < r := by have := HQ.out; have := HR.out; omega
  have HKc := Lib.hid HKc.out.drew
  have HKR := Lib.hid HKR.out.drew
  have HFR := Lib.hid HFR.out.drew
  go_enter Tryz.func40, Tryz.ntmps40
  go_wp2_with fail
  rw [← HW.out, ← HP.out, ← HR.out]
  try rw [← HQ.out]
  refine wp_region_held_drew (S := fun W => W.cell? ⟨p, 0, none⟩ = some (.slice Ae ne ce) ∧ W.cell? ⟨p, 1, none⟩ = some (.slice Ak nk ck) ∧ W.cell? ⟨p, 2, none⟩ = some (.slice Ca na ca9) ∧ W.cell? ⟨q, 0, none⟩ = some (.slice Be me de) ∧ W.cell? ⟨q, 1, none⟩ = some (.slice Bk mk dk) ∧ W.cell? ⟨q, 2, none⟩ = some (.slice Cb nb cb9)) (by kernel_rfl) (by exact ⟨HKc.out.c0, HKc.out.c1, HKc.out.c2, HKc.out.c3, HKc.out.c4, HKc.out.c5⟩) (fun hHeld => ?_)
  obtain ⟨w1, hw1⟩ : ∃ v, v = W.drew := ⟨_, rfl⟩
  rw [← hw1] at hHeld HKc HKR HFR ⊢
  clear hw1
  refine Tk 0 5 ?_
  refine Tk 1 6 ?_
  refine Tk 3 8 ?_
  refine Tk 4 9 ?_
  refine Tk 5 10 ?_
  refine Tk 6 11 ?_
  refine wpAnyH_ready (rs := [2]) (by kernel_rfl) (by simp) ?_
  refine AllReadyH.cons (o := ⟨some 7, _, _, _, _, _⟩) rfl (fun K hK => ?_) AllReadyH.nil
  go_simp
  (go_at_call 69; refine (trees_step 4 (fun ca cb => trees_ok 4 ca cb) cs ds t u Ae Ak Be Bk Ca Cb ne nk ce ck me mk de dk na ca9 nb cb9 w1 (.inl HT.out.1) (.inl HT.out.2.1) (by have := HA.out.1; omega) (by have := HB.out.1; omega) HA.out.2.1 HB.out.2.1 (by omega) (by omega) ((HA.out.2.2.2.below HKc.out.below).more HKc.out.below.size) ((HB.out.2.2.2.below HKc.out.below).more HKc.out.below.size) HT.out.2.2.1 HT.out.2.2.2 (RdT.more HKc.out.below.size _ (RdT.below HA.out.2.2.1 HKc.out.below)) (RdT.more HKc.out.below.size _ (RdT.below HB.out.2.2.1 HKc.out.below))).mono ?_)
  rintro e v2 ⟨Re, rn, rc, Rk, rm, rd, rfl, hro, hb9⟩
  obtain ⟨B1, hB1⟩ : ∃ z, z = w1.heap.size := ⟨_, rfl⟩
  have hrB : r < B1 := by rw [hB1]; exact HFR.out.1
  have HWB : Hid (w.heap.size ≤ B1) := by unfold Hid; rw [hB1]; exact HKc.out.below.size
  have HRO : Hid (RdO v2 (fun b => B1 ≤ b) (joinT 5 cs ds t u) ⟨Re, rn, rc⟩ ⟨Rk, rm, rd⟩) := by unfold Hid; rw [hB1]; exact hro
  have hB2 : B1 ≤ v2.heap.size := by rw [hB1]; exact hb9.size
  have HKc := Lib.hid (HKc.out.later hb9)
  have HKR := Lib.hid (HKR.out.later hb9)
  have HFR := Lib.hid (HFR.out.later hb9)
  clear hro hb9 hB1
  refine hK.out _ _ ?_ (fun hHeld2 => ?_)
  · exact ⟨HKc.out.c0, HKc.out.c1, HKc.out.c2, HKc.out.c3, HKc.out.c4, HKc.out.c5⟩
  clear hK K hHeld
  have hHeld := hHeld2
  clear hHeld2
  try simp only [Act.put, List.setIfInBounds_toArray, List.set_cons_zero, List.set_cons_succ]
  refine wpAnyH_ready (rs := [7]) (by kernel_rfl) (by simp) ?_
  refine AllReadyH.cons (o := ⟨some 12, _, _, _, _, _⟩) rfl (fun K hK => ?_) AllReadyH.nil
  go_simp
  (go_at_call 70; refine (unionC_any cs ds na nb Ca Cb ca9 cb9 v2 HA.out.2.1 HB.out.2.1 (by omega) (by omega) ((HA.out.2.2.2.below HKc.out.below).more HKc.out.below.size) ((HB.out.2.2.2.below HKc.out.below).more HKc.out.below.size) HT.out.2.2.1 HT.out.2.2.2).mono ?_)
  rintro e v7 ⟨xs, rq, Rc, re, rfl, hxl, hxp, hxq, hxo, hb9⟩
  have HXP : Hid (IsJ (t, cs) (u, ds) (joinT 5 cs ds t u, xs)) := ⟨rfl, hxp.out⟩
  have HOW : Hid (OwC v7 B1 (joinT 5 cs ds t u, xs) Re rn rc Rk rm rd Rc rq re) := ⟨RdO.later HRO.out hb9, hxl.out, (RO.of_own hxo.out).mono fun b hb _ => by have := hb.1; omega⟩
  have HXQ : Hid (rq ≤ na + nb) := hxq
  have HKc := Lib.hid (HKc.out.later hb9)
  have HKR := Lib.hid (HKR.out.later hb9)
  have HFR := Lib.hid (HFR.out.later hb9)
  clear hb9 hxl hxp hxq hxo HRO
  have z0 := HKR.out.c0
  have z1 := HKR.out.c1
  have z2 := HKR.out.c2
  have m0 := HFR.out.2 0
  have m1 := HFR.out.2 1
  have m2 := HFR.out.2 2
  refine hK.out _ _ ?_ (fun hHeld2 => ?_)
  · exact ⟨HKc.out.c0, HKc.out.c1, HKc.out.c2, HKc.out.c3, HKc.out.c4, HKc.out.c5⟩
  clear hK K hHeld
  have hHeld := hHeld2
  clear hHeld2
  try simp only [Act.put, List.setIfInBounds_toArray, List.set_cons_zero, List.set_cons_succ]
  refine Tk 8 13 ?_
  refine wpAnyH_ready (rs := [9]) (by kernel_rfl) (by simp) ?_
  refine AllReadyH.cons (o := ⟨none, _, _, _, _, _⟩) rfl (fun K hK => ?_) AllReadyH.nil
  go_simp
  refine hK.out _ _ ?_ (fun hHeld2 => ?_)
  · (try dsimp only)
    have h9 := HKc.out.past3 (p := r) hwr (fun x hx => by simp at hx; rcases hx with rfl | rfl | rfl | rfl | rfl | rfl <;> (dsimp only; omega)) (.slice Re rn rc) (.slice Rk rm rd) (.slice Rc rq re)
    exact ⟨h9.c0, h9.c1, h9.c2, h9.c3, h9.c4, h9.c5⟩
  clear hK K hHeld
  have hHeld := hHeld2
  clear hHeld2
  try simp only [Act.put, List.setIfInBounds_toArray, List.set_cons_zero, List.set_cons_succ]
  refine wpAnyH_done (by kernel_rfl) ?_ _
  clear hHeld
  obtain ⟨W9, hW9⟩ : ∃ W, W = ((v7.setCell ⟨r, 0, none⟩ (.slice Re rn rc)).setCell ⟨r, 1, none⟩ (.slice Rk rm rd)).setCell ⟨r, 2, none⟩ (.slice Rc rq re) := ⟨_, rfl⟩
  have HB9 : Hid (Below w.heap.size w W9) := by
    unfold Hid
    rw [hW9]
    exact ((HKc.out.below.setCell (p := ⟨r, 0, none⟩) hwr _).setCell (p := ⟨r, 1, none⟩) hwr _).setCell (p := ⟨r, 2, none⟩) hwr _
  have HOW9 : Hid (OwC W9 w.heap.size (joinT 5 cs ds t u, xs) Re rn rc Rk rm rd Rc rq re) := by
    unfold Hid
    rw [hW9]
    exact (HOW.out.set3 hrB _ _ _).mono HWB.out
  have l0 : W9.cell? ⟨r, 0, none⟩ = some (.slice Re rn rc) := by rw [hW9]; go_simp
  have l1 : W9.cell? ⟨r, 1, none⟩ = some (.slice Rk rm rd) := by rw [hW9]; go_simp
  have l2 : W9.cell? ⟨r, 2, none⟩ = some (.slice Rc rq re) := by rw [hW9]; go_simp
  clear z0 z1 z2 m0 m1 m2
  rw [← hW9]
  clear hW9
  go_wp2_with fail
  refine bodyPost_ret (v := .agg #[.slice Re rn rc, .slice Rk rm rd, .slice Rc rq re]) (by simp [results, Tryz.results40, go_sem, l0, l1, l2]) rfl ⟨_, HXP.out, by have := HXQ.out; have := HOW9.out.len; omega, Re, rn, rc, Rk, rm, rd, Rc, rq, re, rfl, HOW9.out, HB9.out⟩
/-- what Join answers -/
def JoinIs (a b : K) (na nb : Nat) (w : World) (e : Ending) (w' : World) : Prop := ∃ (x : K) (z : Int), ((RK a ∧ RK b → z = 0 ∧ IsJ a b x ∧ x.2.length ≤ na + nb) ∧ (¬ (RK a ∧ RK b) → z = 1 ∧ x = noneK)) ∧ CausErr x z w e w'
set_option maxRecDepth 100000 in
set_option maxHeartbeats 4000000 in
theorem joinE_any (t u : T) (cs ds : List S3) (Ae Ak Ca Be Bk Cb : Option Addr) (ne nk ce ck na ca9 me mk de dk nb cb9 : Nat) (w : World) (hn : nodes t ≤ 1000) (hl : cs.length = na) (hna : na ≤ 1000) (hr : RdT w w.heap.size t ⟨Ae, ne, ce⟩ ⟨Ak, nk, ck⟩) (hc : Rd w w.heap.size 3 Ca na ca9 (spsC cs)) (hn2 : nodes u ≤ 1000) (hl2 : ds.length = nb) (hnb : nb ≤ 1000) (hr2 : RdT w w.heap.size u ⟨Be, me, de⟩ ⟨Bk, mk, dk⟩) (hc2 : Rd w w.heap.size 3 Cb nb cb9 (spsC ds)) :
    Calls Tryz.prog 17 #[.agg #[.slice Ae ne ce, .slice Ak nk ck, .slice Ca na ca9], .agg #[.slice Be me de, .slice Bk mk dk, .slice Cb nb cb9]] w (JoinIs (t, cs) (u, ds) na nb w) := by
  have HA := Lib.hid (And.intro hn (And.intro hl (And.intro hr hc)))
  clear hn hl hr hc
  have HB := Lib.hid (And.intro hn2 (And.intro hl2 (And.intro hr2 hc2)))
  clear hn2 hl2 hr2 hc2
  obtain ⟨W, p, q, r, HW, HP, HQ, HR, HKc, HKR, HFR⟩ := boxC3 w Ae Ak Ca Be Bk Cb ne nk ce ck na ca9 me mk de dk nb cb9
  have hwr : w.heap.size ≤ r := by have := HP.out; have := HR.out; omega
  have hpr : p < r := by have := HR.out; omega
  have hqr : q < r := by have := HQ.out; have := HR.out; omega
  have c0 := HKc.out.c0
  have c1 := HKc.out.c1
  have c2 := HKc.out.c2
  have c3 := HKc.out.c3
  have c4 := HKc.out.c4
  have c5 := HKc.out.c5
  have HRA := Lib.hid (rightK_any t cs Ae Ak Ca ne nk ce ck na ca9 W HA.out.1 HA.out.2.1 hna (RdT.more HKc.out.below.size _ (RdT.below HA.out.2.2.1 HKc.out.below)) ((HA.out.2.2.2.below HKc.out.below).more HKc.out.below.size))
  go_enter Tryz.func17, Tryz.ntmps17
  go_wp2_with fail
  rw [← HW.out, ← HP.out, ← HR.out]
  try rw [← HQ.out]
  cases ha : rightKB (t, cs) with
  | false =>
    rw [ha] at HRA
    have HNO : Hid (¬ RK (t, cs)) := fun h => by rw [rightKB_iff.2 h] at ha; cases ha
    clear ha
    refine HRA.out.mono ?_
    rintro e v1 ⟨rfl, hb9⟩
    have HKc := Lib.hid (HKc.out.later hb9)
    have HKR := Lib.hid (HKR.out.later hb9)
    have HFR := Lib.hid (HFR.out.later hb9)
    clear hb9 c0 c1 c2 c3 c4 c5
    have z0 := HKR.out.c0
    have z1 := HKR.out.c1
    have z2 := HKR.out.c2
    have m0 := HFR.out.2 0
    have m1 := HFR.out.2 1
    have m2 := HFR.out.2 2
    obtain ⟨W9, hW9⟩ : ∃ W, W = ((v1.setCell ⟨r, 0, none⟩ (.slice none 0 0)).setCell ⟨r, 1, none⟩ (.slice none 0 0)).setCell ⟨r, 2, none⟩ (.slice none 0 0) := ⟨_, rfl⟩
    have HB9 : Hid (Below w.heap.size w W9) := by
      unfold Hid
      rw [hW9]
      exact ((HKc.out.below.setCell (p := ⟨r, 0, none⟩) hwr _).setCell (p := ⟨r, 1, none⟩) hwr _).setCell (p := ⟨r, 2, none⟩) hwr _
    have HOW9 : Hid (OwC W9 w.heap.size noneK none 0 0 none 0 0 none 0 0) := by
      unfold Hid
      rw [hW9]
      exact OwC.no _ _
    have l0 : W9.cell? ⟨r, 0, none⟩ = some (.slice none 0 0) := by rw [hW9]; go_simp
    have l1 : W9.cell? ⟨r, 1, none⟩ = some (.slice none 0 0) := by rw [hW9]; go_simp
    have l2 : W9.cell? ⟨r, 2, none⟩ = some (.slice none 0 0) := by rw [hW9]; go_simp
    have HW9 := Lib.hid hW9
    clear hW9
    go_wp2_with fail
    rw [← HW9.out]
    refine bodyPost_ret (v := .tuple #[.agg #[.slice none 0 0, .slice none 0 0, .slice none 0 0], .int .i64 1]) (by simp [results, Tryz.results17, go_sem, l0, l1, l2]) rfl ⟨noneK, 1, ⟨fun h => absurd h.1 HNO.out, fun _ => ⟨rfl, rfl⟩⟩, none, 0, 0, none, 0, 0, none, 0, 0, rfl, HOW9.out, HB9.out⟩
  | true =>
    rw [ha] at HRA
    have HYA : Hid (RK (t, cs)) := rightKB_iff.1 ha
    clear ha
    refine HRA.out.mono ?_
    rintro e v1 ⟨rfl, hb9⟩
    have HKc := Lib.hid (HKc.out.later hb9)
    have HKR := Lib.hid (HKR.out.later hb9)
    have HFR := Lib.hid (HFR.out.later hb9)
    clear hb9 c0 c1 c2 c3 c4 c5
    have c0 := HKc.out.c0
    have c1 := HKc.out.c1
    have c2 := HKc.out.c2
    have c3 := HKc.out.c3
    have c4 := HKc.out.c4
    have c5 := HKc.out.c5
    have HRB := Lib.hid (rightK_any u ds Be Bk Cb me mk de dk nb cb9 v1 HB.out.1 HB.out.2.1 hnb (RdT.more HKc.out.below.size _ (RdT.below HB.out.2.2.1 HKc.out.below)) ((HB.out.2.2.2.below HKc.out.below).more HKc.out.below.size))
    go_wp2_with fail
    cases hb : rightKB (u, ds) with
    | false =>
      rw [hb] at HRB
      have HNO : Hid (¬ RK (u, ds)) := fun h => by rw [rightKB_iff.2 h] at hb; cases hb
      clear hb
      refine HRB.out.mono ?_
      rintro e v2 ⟨rfl, hb9⟩
      have HKc := Lib.hid (HKc.out.later hb9)
      have HKR := Lib.hid (HKR.out.later hb9)
      have HFR := Lib.hid (HFR.out.later hb9)
      clear hb9 c0 c1 c2 c3 c4 c5
      have z0 := HKR.out.c0
      have z1 := HKR.out.c1
      have z2 := HKR.out.c2
      have m0 := HFR.out.2 0
      have m1 := HFR.out.2 1
      have m2 := HFR.out.2 2
      obtain ⟨W9, hW9⟩ : ∃ W, W = ((v2.setCell ⟨r, 0, none⟩ (.slice none 0 0)).setCell ⟨r, 1, none⟩ (.slice none 0 0)).setCell ⟨r, 2, none⟩ (.slice none 0 0) := ⟨_, rfl⟩
      have HB9 : Hid (Below w.heap.size w W9) := by
        unfold Hid
        rw [hW9]
        exact ((HKc.out.below.setCell (p := ⟨r, 0, none⟩) hwr _).setCell (p := ⟨r, 1, none⟩) hwr _).setCell (p := ⟨r, 2, none⟩) hwr _
      have HOW9 : Hid (OwC W9 w.heap.size noneK none 0 0 none 0 0 none 0 0) := by
        unfold Hid
        rw [hW9]
        exact OwC.no _ _
      have l0 : W9.cell? ⟨r, 0, none⟩ = some (.slice none 0 0) := by rw [hW9]; go_simp
      have l1 : W9.cell? ⟨r, 1, none⟩ = some (.slice none 0 0) := by rw [hW9]; go_simp
      have l2 : W9.cell? ⟨r, 2, none⟩ = some (.slice none 0 0) := by rw [hW9]; go_simp
      have HW9 := Lib.hid hW9
      clear hW9
      go_wp2_with fail
      rw [← HW9.out]
      refine bodyPost_ret (v := .tuple #[.agg #[.slice none 0 0, .slice none 0 0, .slice none 0 0], .int .i64 1]) (by simp [results, Tryz.results17, go_sem, l0, l1, l2]) rfl ⟨noneK, 1, ⟨fun h => absurd h.2 HNO.out, fun _ => ⟨rfl, rfl⟩⟩, none, 0, 0, none, 0, 0, none, 0, 0, rfl, HOW9.out, HB9.out⟩
    | true =>
      rw [hb] at HRB
      have HYB : Hid (RK (u, ds)) := rightKB_iff.1 hb
      clear hb
      refine HRB.out.mono ?_
      rintro e v2 ⟨rfl, hb9⟩
      have HKc := Lib.hid (HKc.out.later hb9)
      have HKR := Lib.hid (HKR.out.later hb9)
      have HFR := Lib.hid (HFR.out.later hb9)
      clear hb9 c0 c1 c2 c3 c4 c5
      have c0 := HKc.out.c0
      have c1 := HKc.out.c1
      have c2 := HKc.out.c2
      have c3 := HKc.out.c3
      have c4 := HKc.out.c4
      have c5 := HKc.out.c5
      have HJ := Lib.hid (join0_any t u cs ds Ae Ak Ca Be Bk Cb ne nk ce ck na ca9 me mk de dk nb cb9 v2 HA.out.1 HA.out.2.1 hna (RdT.more HKc.out.below.size _ (RdT.below HA.out.2.2.1 HKc.out.below)) ((HA.out.2.2.2.below HKc.out.below).more HKc.out.below.size) HB.out.1 HB.out.2.1 hnb (RdT.more HKc.out.below.size _ (RdT.below HB.out.2.2.1 HKc.out.below)) ((HB.out.2.2.2.below HKc.out.below).more HKc.out.below.size) HYA.out.tree HYB.out.tree HYA.out.ctx HYB.out.ctx)
      go_wp2_with fail
      refine HJ.out.mono ?_
      rintro e v3 ⟨x, hx, hxl, Re, rn, rc, Rk, rm, rd, Rc, rq, re, rfl, how, hb9⟩
      obtain ⟨B1, hB1⟩ : ∃ z, z = v2.heap.size := ⟨_, rfl⟩
      have hrB : r < B1 := by rw [hB1]; exact HFR.out.1
      have HWB : Hid (w.heap.size ≤ B1) := by unfold Hid; rw [hB1]; exact HKc.out.below.size
      rw [← hB1] at how
      have HOW := Lib.hid how
      have HX := Lib.hid (And.intro hx hxl)
      have HKc := Lib.hid (HKc.out.later hb9)
      have HKR := Lib.hid (HKR.out.later hb9)
      have HFR := Lib.hid (HFR.out.later hb9)
      clear hb9 how hx hxl hB1 c0 c1 c2 c3 c4 c5
      have z0 := HKR.out.c0
      have z1 := HKR.out.c1
      have z2 := HKR.out.c2
      have m0 := HFR.out.2 0
      have m1 := HFR.out.2 1
      have m2 := HFR.out.2 2
      obtain ⟨W9, hW9⟩ : ∃ W, W = ((v3.setCell ⟨r, 0, none⟩ (.slice Re rn rc)).setCell ⟨r, 1, none⟩ (.slice Rk rm rd)).setCell ⟨r, 2, none⟩ (.slice Rc rq re) := ⟨_, rfl⟩
      have HB9 : Hid (Below w.heap.size w W9) := by
        unfold Hid
        rw [hW9]
        exact ((HKc.out.below.setCell (p := ⟨r, 0, none⟩) hwr _).setCell (p := ⟨r, 1, none⟩) hwr _).setCell (p := ⟨r, 2, none⟩) hwr _
      have HOW9 : Hid (OwC W9 w.heap.size x Re rn rc Rk rm rd Rc rq re) := by
        unfold Hid
        rw [hW9]
        exact (HOW.out.set3 hrB _ _ _).mono HWB.out
      have l0 : W9.cell? ⟨r, 0, none⟩ = some (.slice Re rn rc) := by rw [hW9]; go_simp
      have l1 : W9.cell? ⟨r, 1, none⟩ = some (.slice Rk rm rd) := by rw [hW9]; go_simp
      have l2 : W9.cell? ⟨r, 2, none⟩ = some (.slice Rc rq re) := by rw [hW9]; go_simp
      have HW9 := Lib.hid hW9
      clear hW9
      go_wp2_with fail
      rw [← HW9.out]
      refine bodyPost_ret (v := .tuple #[.agg #[.slice Re rn rc, .slice Rk rm rd, .slice Rc rq re], .int .i64 0]) (by simp [results, Tryz.results17, go_sem, l0, l1, l2]) rfl ⟨x, 0, ⟨fun _ => ⟨rfl, HX.out⟩, fun h => absurd ⟨HYA.out, HYB.out⟩ h⟩, Re, rn, rc, Rk, rm, rd, Rc, rq, re, rfl, HOW9.out, HB9.out⟩
/-- what Same answers -/
noncomputable def sameKB (a b : K) : Bool := rightKB a && decide (a = b)
theorem sameKB_of {t u : T} {cs ds : List S3} (h : rightKB (t, cs) = true) : sameKB (t, cs) (u, ds) = (eqB t u && decide (cs = ds)) := by
  unfold sameKB
  rw [h, Bool.true_and]
  by_cases h1 : t = u
  · rw [eqB_yes h1, Bool.true_and]
    by_cases h2 : cs = ds
    · rw [decide_eq_true h2, decide_eq_true (by rw [h1, h2])]
    · rw [decide_eq_false h2, decide_eq_false fun h => h2 (congrArg Prod.snd h)]
  · rw [eqB_no h1, Bool.false_and, decide_eq_false fun h => h1 (congrArg Prod.fst h)]
set_option maxRecDepth 100000 in
set_option maxHeartbeats 4000000 in
theorem sameK_any (t u : T) (cs ds : List S3) (Ae Ak Ca Be Bk Cb : Option Addr) (ne nk ce ck na ca9 me mk de dk nb cb9 : Nat) (w : World) (hn : nodes t ≤ 1000) (hl : cs.length = na) (hna : na ≤ 1000) (hr : RdT w w.heap.size t ⟨Ae, ne, ce⟩ ⟨Ak, nk, ck⟩) (hc : Rd w w.heap.size 3 Ca na ca9 (spsC cs)) (hn2 : nodes u ≤ 1000) (hl2 : ds.length = nb) (_hnb : nb ≤ 1000) (hr2 : RdT w w.heap.size u ⟨Be, me, de⟩ ⟨Bk, mk, dk⟩) (hc2 : Rd w w.heap.size 3 Cb nb cb9 (spsC ds)) :
    Calls Tryz.prog 21 #[.agg #[.slice Ae ne ce, .slice Ak nk ck, .slice Ca na ca9], .agg #[.slice Be me de, .slice Bk mk dk, .slice Cb nb cb9]] w fun e w' => e = .returned (.bool (sameKB (t, cs) (u, ds))) ∧ Below w.heap.size w w' := by
  obtain ⟨z, hz⟩ : ∃ z, sameKB (t, cs) (u, ds) = z := ⟨_, rfl⟩
  rw [hz]
  have HZ := Lib.hid hz
  clear hz
  have HA := Lib.hid (And.intro hn (And.intro hl (And.intro hr hc)))
  clear hn hl hr hc
  have HB := Lib.hid (And.intro hn2 (And.intro hl2 (And.intro hr2 hc2)))
  clear hn2 hl2 hr2 hc2
  obtain ⟨W, p, q, HW, HP, HQ, HKc⟩ := boxC2 w Ae Ak Be Bk Ca Cb ne nk ce ck me mk de dk na ca9 nb cb9
  have c0 := HKc.out.c0
  have c1 := HKc.out.c1
  have c2 := HKc.out.c2
  have c3 := HKc.out.c3
  have c4 := HKc.out.c4
  have c5 := HKc.out.c5
  have HRA := Lib.hid (rightK_any t cs Ae Ak Ca ne nk ce ck na ca9 W HA.out.1 HA.out.2.1 hna (RdT.more HKc.out.below.size _ (RdT.below HA.out.2.2.1 HKc.out.below)) ((HA.out.2.2.2.below HKc.out.below).more HKc.out.below.size))
  go_enter Tryz.func21, Tryz.ntmps21
  go_wp2_with fail
  rw [← HW.out, ← HP.out]
  try rw [← HQ.out]
  cases ha : rightKB (t, cs) with
  | false =>
    rw [ha] at HRA
    obtain rfl : z = false := by rw [← HZ.out]; unfold sameKB; rw [ha]; rfl
    refine HRA.out.mono ?_
    rintro e v1 ⟨rfl, hb9⟩
    have HKc := Lib.hid (HKc.out.later hb9)
    clear hb9 c0 c1 c2 c3 c4 c5 ha
    go_wp2_with fail
    go_ret
    exact ⟨by first | rfl | (rw [HZ.out]; rfl) | rw [HZ.out], HKc.out.below⟩
  | true =>
    rw [ha] at HRA
    have hz2 := HZ.out
    rw [sameKB_of ha] at hz2
    have HZ := Lib.hid hz2
    have HYA : Hid (RK (t, cs)) := rightKB_iff.1 ha
    clear ha hz2
    refine HRA.out.mono ?_
    rintro e v1 ⟨rfl, hb9⟩
    have HKc := Lib.hid (HKc.out.later hb9)
    clear hb9 c0 c1 c2 c3 c4 c5
    have c0 := HKc.out.c0
    have c1 := HKc.out.c1
    have c2 := HKc.out.c2
    have c3 := HKc.out.c3
    have c4 := HKc.out.c4
    have c5 := HKc.out.c5
    obtain ⟨x, hx⟩ : ∃ x, eqB t u = x := ⟨_, rfl⟩
    have HST := Lib.hid (sameT_any t u Ae Ak ne nk ce ck Be Bk me mk de dk v1 (LenT.few (by have := HA.out.1; omega)) (by have := HA.out.1; omega) (RdT.more HKc.out.below.size _ (RdT.below HA.out.2.2.1 HKc.out.below)) (RdT.more HKc.out.below.size _ (RdT.below HB.out.2.2.1 HKc.out.below)))
    have hz3 := HZ.out
    rw [rightB_iff.2 HYA.out.tree, Bool.true_and, hx] at HST
    rw [hx] at hz3
    have HZ := Lib.hid hz3
    clear hx hz3
    go_wp2_with fail
    refine HST.out.mono ?_
    rintro e v2 ⟨rfl, hb9⟩
    have HKc := Lib.hid (HKc.out.later hb9)
    clear hb9 c0 c1 c2 c3 c4 c5
    cases x with
    | false =>
      obtain rfl : z = false := by rw [← HZ.out]; rfl
      go_wp2_with fail
      go_ret
      exact ⟨by first | rfl | (rw [HZ.out]; rfl) | rw [HZ.out], HKc.out.below⟩
    | true =>
      have hz3 := HZ.out
      rw [Bool.true_and] at hz3
      have c0 := HKc.out.c0
      have c1 := HKc.out.c1
      have c2 := HKc.out.c2
      have c3 := HKc.out.c3
      have c4 := HKc.out.c4
      have c5 := HKc.out.c5
      have HSC := Lib.hid (sameC_any cs ds na nb Ca Cb ca9 cb9 v2 HA.out.2.1 HB.out.2.1 (by omega) ((HA.out.2.2.2.below HKc.out.below).more HKc.out.below.size) ((HB.out.2.2.2.below HKc.out.below).more HKc.out.below.size) z (by rw [rightCB_true HYA.out.ctx, Bool.true_and, ← hz3]; try congr))
      clear hz3
      go_wp2_with fail
      refine HSC.out.mono ?_
      rintro e v3 ⟨rfl, hb9⟩
      have HKc := Lib.hid (HKc.out.later hb9)
      clear hb9 c0 c1 c2 c3 c4 c5
      go_wp2_with fail
      go_ret
      exact ⟨by first | rfl | (rw [HZ.out]; rfl) | rw [HZ.out], HKc.out.below⟩
end Cs
end Go.Proofs.YtcbclefemcmhpaaGreat
namespace Go.Proofs.YtcbclefemcmhpaaGreat
open Go.ChangeShapes Go.WideShapes Go.ChangeAt Go.RowKit
namespace Cs
open Tr Cx Sp Rw Classical
set_option maxRecDepth 100000 in
set_option maxHeartbeats 4000000 in
theorem leqK_any (t u : T) (cs ds : List S3) (Ae Ak Ca Be Bk Cb : Option Addr) (ne nk ce ck na ca9 me mk de dk nb cb9 : Nat) (w : World) (hn : nodes t ≤ 1000) (hl : cs.length = na) (hna : na ≤ 1000) (hr : RdT w w.heap.size t ⟨Ae, ne, ce⟩ ⟨Ak, nk, ck⟩) (hc : Rd w w.heap.size 3 Ca na ca9 (spsC cs)) (hn2 : nodes u ≤ 1000) (hl2 : ds.length = nb) (hnb : nb ≤ 1000) (hr2 : RdT w w.heap.size u ⟨Be, me, de⟩ ⟨Bk, mk, dk⟩) (hc2 : Rd w w.heap.size 3 Cb nb cb9 (spsC ds)) (hs : nodes t + nodes u ≤ 1000) (hs2 : na + nb ≤ 1000) (z : Bool) (hz : (rightKB (t, cs) && rightKB (u, ds) && leqB (t, cs) (u, ds)) = z) :
    Calls Tryz.prog 23 #[.agg #[.slice Ae ne ce, .slice Ak nk ck, .slice Ca na ca9], .agg #[.slice Be me de, .slice Bk mk dk, .slice Cb nb cb9]] w fun e w' => e = .returned (.bool z) ∧ Below w.heap.size w w' := by
  have HZ := Lib.hid hz
  have HS := Lib.hid hs
  clear hz hs
  have HA := Lib.hid (And.intro hn (And.intro hl (And.intro hr hc)))
  clear hn hl hr hc
  have HB := Lib.hid (And.intro hn2 (And.intro hl2 (And.intro hr2 hc2)))
  clear hn2 hl2 hr2 hc2
  obtain ⟨W, p, q, HW, HP, HQ, HKc⟩ := boxC2 w Ae Ak Be Bk Ca Cb ne nk ce ck me mk de dk na ca9 nb cb9
  have c0 := HKc.out.c0
  have c1 := HKc.out.c1
  have c2 := HKc.out.c2
  have c3 := HKc.out.c3
  have c4 := HKc.out.c4
  have c5 := HKc.out.c5
  have HJ := Lib.hid (joinE_any t u cs ds Ae Ak Ca Be Bk Cb ne nk ce ck na ca9 me mk de dk nb cb9 W HA.out.1 HA.out.2.1 hna (RdT.more HKc.out.below.size _ (RdT.below HA.out.2.2.1 HKc.out.below)) ((HA.out.2.2.2.below HKc.out.below).more HKc.out.below.size) HB.out.1 HB.out.2.1 hnb (RdT.more HKc.out.below.size _ (RdT.below HB.out.2.2.1 HKc.out.below)) ((HB.out.2.2.2.below HKc.out.below).more HKc.out.below.size))
  go_enter Tryz.func23, Tryz.ntmps23
  go_wp2_with fail
  rw [← HW.out, ← HP.out]
  try rw [← HQ.out]
  refine HJ.out.mono ?_
  rintro e v1 ⟨x, y, hxy, Re, rn, rc, Rk, rm, rd, Rc, rq, re, rfl, how, hb9⟩
  have HKc := Lib.hid (HKc.out.later hb9)
  have HOW := Lib.hid how
  obtain ⟨g, hg⟩ : ∃ g, g = v1.heap.size := ⟨_, rfl⟩
  obtain ⟨v2, hv2⟩ : ∃ v, v = v1.alloc (.cells #[.slice Re rn rc, .slice Rk rm rd, .slice Rc rq re] 29) := ⟨_, rfl⟩
  have hb2 : Below v1.heap.size v1 v2 := by rw [hv2]; exact Dt.box_below _ _ _
  have HKX : Hid (Kept [(⟨g, 0, none⟩, .slice Re rn rc), (⟨g, 1, none⟩, .slice Rk rm rd), (⟨g, 2, none⟩, .slice Rc rq re)] w v2) := by
    have h0 := Kept.nil_of (HKc.out.below.trans (hb2.mono HKc.out.below.size))
    refine ((h0.cons_of ?_).cons_of ?_).cons_of ?_ <;> (rw [hv2, hg]; go_simp)
  have HOW := Lib.hid (HOW.out.later hb2)
  have HKc := Lib.hid (HKc.out.later hb2)
  have HG := Lib.hid hg
  have HV2 := Lib.hid hv2
  clear hb9 how hg hv2 hb2 c0 c1 c2 c3 c4 c5
  by_cases hab : RK (t, cs) ∧ RK (u, ds)
  · obtain ⟨rfl, hj, hxl⟩ := hxy.1 hab
    have HRX := Lib.hid (hj.right hab.1 hab.2)
    have HNX : Hid (nodes x.1 ≤ 1000) := by
      unfold Hid
      rw [hj.tree]
      have := joinT_nodes 5 cs ds t u
      have := HS.out
      show nodes (joinT 5 cs ds t u) ≤ 1000
      omega
    have hzz : z = sameKB x (u, ds) := by
      rw [← HZ.out, rightKB_iff.2 hab.1, rightKB_iff.2 hab.2]
      unfold sameKB
      rw [rightKB_iff.2 HRX.out, leqB_of hj]
      rfl
    have hSM := fun W (hb : Below v2.heap.size v2 W) => sameK_any x.1 u x.2 ds Re Rk Rc Be Bk Cb rn rm rc rd rq re me mk de dk nb cb9 W HNX.out HOW.out.len (by have := HOW.out.len; omega) (OwC.later HOW.out hb).rdT (OwC.later HOW.out hb).ctx.rd HB.out.1 HB.out.2.1 hnb (RdT.more (HKc.out.later hb).below.size _ (RdT.below HB.out.2.2.1 (HKc.out.later hb).below)) ((HB.out.2.2.2.below (HKc.out.later hb).below).more (HKc.out.later hb).below.size)
    have HSM := Lib.hid (hSM v2 (Below.refl _ _))
    rw [show (x.1, x.2) = x from rfl, ← hzz] at HSM
    clear hxy hab hj hxl hSM hzz
    have q0 := HKX.out.c0
    have q1 := HKX.out.c1
    have q2 := HKX.out.c2
    rw [HV2.out, HG.out] at q0 q1 q2
    have d0 := HKc.out.c3
    have d1 := HKc.out.c4
    have d2 := HKc.out.c5
    rw [HV2.out] at d0 d1 d2
    go_wp2_with fail
    rw [← HV2.out]
    refine HSM.out.mono ?_
    rintro e v3 ⟨rfl, hb9⟩
    have HKc := Lib.hid (HKc.out.later hb9)
    clear hb9 q0 q1 q2 d0 d1 d2
    go_wp2_with fail
    go_ret
    exact ⟨by first | rfl | (rw [HZ.out]; rfl) | rw [HZ.out], HKc.out.below⟩
  · obtain ⟨rfl, _⟩ := hxy.2 hab
    obtain rfl : z = false := by
      rw [← HZ.out]
      cases h1 : rightKB (t, cs) with
      | false => rfl
      | true =>
        cases h2 : rightKB (u, ds) with
        | false => rfl
        | true => exact absurd ⟨rightKB_iff.1 h1, rightKB_iff.1 h2⟩ hab
    clear hxy hab
    go_wp2_with fail
    rw [← HV2.out]
    go_ret
    exact ⟨rfl, HKc.out.below⟩
/-- a box of what is known, and one of the answer -/
theorem boxC2r (w : World) (Ae Ak Ca : Option Addr) (ne nk ce ck na ca9 : Nat) : ∃ (W : World) (p r : Nat), Hid (W = (w.alloc (.cells #[.slice Ae ne ce, .slice Ak nk ck, .slice Ca na ca9] 29)).alloc (.cells #[.slice none 0 0, .slice none 0 0, .slice none 0 0] 29)) ∧ Hid (p = w.heap.size) ∧ Hid (r = p + 1) ∧ Hid (Kept [(⟨p, 0, none⟩, .slice Ae ne ce), (⟨p, 1, none⟩, .slice Ak nk ck), (⟨p, 2, none⟩, .slice Ca na ca9)] w W) ∧ Hid (Kept [(⟨r, 0, none⟩, .slice none 0 0), (⟨r, 1, none⟩, .slice none 0 0), (⟨r, 2, none⟩, .slice none 0 0)] w W) ∧ Hid (Free r W) := by
  refine ⟨_, _, _, rfl, rfl, rfl, ?_, ?_, ⟨by simp, fun j => by go_simp⟩⟩
  · have h0 := Kept.nil_of (Dt.box2_below w #[.slice Ae ne ce, .slice Ak nk ck, .slice Ca na ca9] #[.slice none 0 0, .slice none 0 0, .slice none 0 0] 29 29)
    refine ((h0.cons_of ?_).cons_of ?_).cons_of ?_ <;> go_simp
  · have h0 := Kept.nil_of (Dt.box2_below w #[.slice Ae ne ce, .slice Ak nk ck, .slice Ca na ca9] #[.slice none 0 0, .slice none 0 0, .slice none 0 0] 29 29)
    refine ((h0.cons_of ?_).cons_of ?_).cons_of ?_ <;> go_simp
set_option maxRecDepth 100000 in
set_option maxHeartbeats 4000000 in
theorem cloneK_any (t : T) (cs : List S3) (Ae Ak Ca : Option Addr) (ne nk ce ck na ca9 : Nat) (w : World) (hn : nodes t ≤ 1000) (hl : cs.length = na) (hna : na ≤ 1000) (hr : RdT w w.heap.size t ⟨Ae, ne, ce⟩ ⟨Ak, nk, ck⟩) (hc : Rd w w.heap.size 3 Ca na ca9 (spsC cs)) :
    Calls Tryz.prog 31 #[.agg #[.slice Ae ne ce, .slice Ak nk ck, .slice Ca na ca9]] w (CausIs (if rightKB (t, cs) = true then (t, cs) else noneK) w) := by
  obtain ⟨k9, hk9⟩ : ∃ k, (if rightKB (t, cs) = true then (t, cs) else noneK) = k := ⟨_, rfl⟩
  rw [hk9]
  have HK9 := Lib.hid hk9
  clear hk9
  have HA := Lib.hid (And.intro hn (And.intro hl (And.intro hr hc)))
  clear hn hl hr hc
  obtain ⟨W, p, r, HW, HP, HR, HKc, HKR, HFR⟩ := boxC2r w Ae Ak Ca ne nk ce ck na ca9
  have hwr : w.heap.size ≤ r := by have := HP.out; have := HR.out; omega
  have hpr : p < r := by have := HR.out; omega
  have c0 := HKc.out.c0
  have c1 := HKc.out.c1
  have c2 := HKc.out.c2
  have HRA := Lib.hid (rightK_any t cs Ae Ak Ca ne nk ce ck na ca9 W HA.out.1 HA.out.2.1 hna (RdT.more HKc.out.below.size _ (RdT.below HA.out.2.2.1 HKc.out.below)) ((HA.out.2.2.2.below HKc.out.below).more HKc.out.below.size))
  go_enter Tryz.func31, Tryz.ntmps31
  go_wp2_with fail
  rw [← HW.out, ← HP.out]
  try rw [← HR.out]
  cases ha : rightKB (t, cs) with
  | false =>
    rw [ha] at HRA
    obtain rfl : k9 = noneK := by rw [← HK9.out, ha]; rfl
    clear ha
    refine HRA.out.mono ?_
    rintro e v1 ⟨rfl, hb9⟩
    have HKc := Lib.hid (HKc.out.later hb9)
    have HKR := Lib.hid (HKR.out.later hb9)
    have HFR := Lib.hid (HFR.out.later hb9)
    clear hb9 c0 c1 c2
    have z0 := HKR.out.c0
    have z1 := HKR.out.c1
    have z2 := HKR.out.c2
    have m0 := HFR.out.2 0
    have m1 := HFR.out.2 1
    have m2 := HFR.out.2 2
    obtain ⟨W9, hW9⟩ : ∃ W, W = ((v1.setCell ⟨r, 0, none⟩ (.slice none 0 0)).setCell ⟨r, 1, none⟩ (.slice none 0 0)).setCell ⟨r, 2, none⟩ (.slice none 0 0) := ⟨_, rfl⟩
    have HB9 : Hid (Below w.heap.size w W9) := by
      unfold Hid
      rw [hW9]
      exact ((HKc.out.below.setCell (p := ⟨r, 0, none⟩) hwr _).setCell (p := ⟨r, 1, none⟩) hwr _).setCell (p := ⟨r, 2, none⟩) hwr _
    have HOW9 : Hid (OwC W9 w.heap.size noneK none 0 0 none 0 0 none 0 0) := by
      unfold Hid
      rw [hW9]
      exact OwC.no _ _
    have l0 : W9.cell? ⟨r, 0, none⟩ = some (.slice none 0 0) := by rw [hW9]; go_simp
    have l1 : W9.cell? ⟨r, 1, none⟩ = some (.slice none 0 0) := by rw [hW9]; go_simp
    have l2 : W9.cell? ⟨r, 2, none⟩ = some (.slice none 0 0) := by rw [hW9]; go_simp
    have HW9 := Lib.hid hW9
    clear hW9
    go_wp2_with fail
    rw [← HW9.out]
    refine bodyPost_ret (v := .agg #[.slice none 0 0, .slice none 0 0, .slice none 0 0]) (by simp [results, Tryz.results31, go_sem, l0, l1, l2]) rfl ⟨none, 0, 0, none, 0, 0, none, 0, 0, rfl, HOW9.out, HB9.out⟩
  | true =>
    rw [ha] at HRA
    obtain rfl : (t, cs) = k9 := by rw [← HK9.out, ha]; rfl
    have HYA : Hid (RK (t, cs)) := rightKB_iff.1 ha
    clear ha
    refine HRA.out.mono ?_
    rintro e v1 ⟨rfl, hb9⟩
    have HKc := Lib.hid (HKc.out.later hb9)
    have HKR := Lib.hid (HKR.out.later hb9)
    have HFR := Lib.hid (HFR.out.later hb9)
    clear hb9 c0 c1 c2
    go_wp2_with fail
    refine wp_region_held_drew (S := fun W => W.cell? ⟨p, 0, none⟩ = some (.slice Ae ne ce) ∧ W.cell? ⟨p, 1, none⟩ = some (.slice Ak nk ck) ∧ W.cell? ⟨p, 2, none⟩ = some (.slice Ca na ca9)) (by kernel_rfl) (by have h9 := HKc.out.drew; exact ⟨h9.c0, h9.c1, h9.c2⟩) (fun hHeld => ?_)
    obtain ⟨w1, hw1⟩ : ∃ v, v = v1.drew := ⟨_, rfl⟩
    have HKc : Hid (Kept [(⟨p, 0, none⟩, .slice Ae ne ce), (⟨p, 1, none⟩, .slice Ak nk ck), (⟨p, 2, none⟩, .slice Ca na ca9)] w w1) := by unfold Hid; rw [hw1]; exact HKc.out.drew
    have HKR : Hid (Kept [(⟨r, 0, none⟩, .slice none 0 0), (⟨r, 1, none⟩, .slice none 0 0), (⟨r, 2, none⟩, .slice none 0 0)] w w1) := by unfold Hid; rw [hw1]; exact HKR.out.drew
    have HFR : Hid (Free r w1) := by unfold Hid; rw [hw1]; exact HFR.out.drew
    rw [← hw1] at hHeld ⊢
    clear hw1
    refine Tk 0 7 ?_
    refine Tk 1 8 ?_
    refine Tk 3 10 ?_
    refine Tk 4 11 ?_
    refine wpAnyH_ready (rs := [2]) (by kernel_rfl) (by simp) ?_
    refine AllReadyH.cons (o := ⟨some 9, _, _, _, _, _⟩) rfl (fun K hK => ?_) AllReadyH.nil
    go_simp
    (go_at_call 58; refine (clone_any t Ae Ak ne nk ce ck w1 (LenT.few (by have := HA.out.1; omega)) (by have := HA.out.1; omega) (RdT.more HKc.out.below.size _ (RdT.below HA.out.2.2.1 HKc.out.below))).mono ?_)
    rw [rightB_iff.2 HYA.out.tree, if_pos rfl]
    rintro e v2 ⟨Re, rn, rc, Rk, rm, rd, rfl, hro, hb9⟩
    obtain ⟨B1, hB1⟩ : ∃ z, z = w1.heap.size := ⟨_, rfl⟩
    have hrB : r < B1 := by rw [hB1]; exact HFR.out.1
    have HWB : Hid (w.heap.size ≤ B1) := by unfold Hid; rw [hB1]; exact HKc.out.below.size
    have HRO : Hid (RdO v2 (fun b => B1 ≤ b) t ⟨Re, rn, rc⟩ ⟨Rk, rm, rd⟩) := by unfold Hid; rw [hB1]; exact hro
    have hB2 : B1 ≤ v2.heap.size := by rw [hB1]; exact hb9.size
    have HKc := Lib.hid (HKc.out.later hb9)
    have HKR := Lib.hid (HKR.out.later hb9)
    have HFR := Lib.hid (HFR.out.later hb9)
    clear hro hb9 hB1
    refine hK.out _ _ ?_ (fun hHeld2 => ?_)
    · exact ⟨HKc.out.c0, HKc.out.c1, HKc.out.c2⟩
    clear hK K hHeld
    have hHeld := hHeld2
    clear hHeld2
    try simp only [Act.put, List.setIfInBounds_toArray, List.set_cons_zero, List.set_cons_succ]
    refine wpAnyH_ready (rs := [5]) (by kernel_rfl) (by simp) ?_
    refine AllReadyH.cons (o := ⟨some 12, _, _, _, _, _⟩) rfl (fun K hK => ?_) AllReadyH.nil
    go_simp
    (go_at_call 51; refine (copiedC_any cs Ca na ca9 v2 HA.out.2.1 hna ((HA.out.2.2.2.below HKc.out.below).more HKc.out.below.size)).mono ?_)
    rintro e v7 ⟨Rc, re, rfl, hxo, hb9⟩
    have HOW : Hid (OwC v7 B1 (t, cs) Re rn rc Rk rm rd Rc na re) := ⟨RdO.later HRO.out hb9, HA.out.2.1, hxo.mono fun b hb _ => by have h : v2.heap.size ≤ b := hb; omega⟩
    have HKc := Lib.hid (HKc.out.later hb9)
    have HKR := Lib.hid (HKR.out.later hb9)
    have HFR := Lib.hid (HFR.out.later hb9)
    clear hb9 hxo HRO
    have z0 := HKR.out.c0
    have z1 := HKR.out.c1
    have z2 := HKR.out.c2
    have m0 := HFR.out.2 0
    have m1 := HFR.out.2 1
    have m2 := HFR.out.2 2
    refine hK.out _ _ ?_ (fun hHeld2 => ?_)
    · exact ⟨HKc.out.c0, HKc.out.c1, HKc.out.c2⟩
    clear hK K hHeld
    have hHeld := hHeld2
    clear hHeld2
    try simp only [Act.put, List.setIfInBounds_toArray, List.set_cons_zero, List.set_cons_succ]
    refine Tk 6 13 ?_
    refine wpAnyH_ready (rs := [7]) (by kernel_rfl) (by simp) ?_
    refine AllReadyH.cons (o := ⟨none, _, _, _, _, _⟩) rfl (fun K hK => ?_) AllReadyH.nil
    go_simp
    refine hK.out _ _ ?_ (fun hHeld2 => ?_)
    · (try dsimp only)
      have h9 := HKc.out.past3 (p := r) hwr (fun x hx => by simp at hx; rcases hx with rfl | rfl | rfl <;> (dsimp only; omega)) (.slice Re rn rc) (.slice Rk rm rd) (.slice Rc na re)
      exact ⟨h9.c0, h9.c1, h9.c2⟩
    clear hK K hHeld
    have hHeld := hHeld2
    clear hHeld2
    try simp only [Act.put, List.setIfInBounds_toArray, List.set_cons_zero, List.set_cons_succ]
    refine wpAnyH_done (by kernel_rfl) ?_ _
    clear hHeld
    obtain ⟨W9, hW9⟩ : ∃ W, W = ((v7.setCell ⟨r, 0, none⟩ (.slice Re rn rc)).setCell ⟨r, 1, none⟩ (.slice Rk rm rd)).setCell ⟨r, 2, none⟩ (.slice Rc na re) := ⟨_, rfl⟩
    have HB9 : Hid (Below w.heap.size w W9) := by
      unfold Hid
      rw [hW9]
      exact ((HKc.out.below.setCell (p := ⟨r, 0, none⟩) hwr _).setCell (p := ⟨r, 1, none⟩) hwr _).setCell (p := ⟨r, 2, none⟩) hwr _
    have HOW9 : Hid (OwC W9 w.heap.size (t, cs) Re rn rc Rk rm rd Rc na re) := by
      unfold Hid
      rw [hW9]
      exact (HOW.out.set3 hrB _ _ _).mono HWB.out
    have l0 : W9.cell? ⟨r, 0, none⟩ = some (.slice Re rn rc) := by rw [hW9]; go_simp
    have l1 : W9.cell? ⟨r, 1, none⟩ = some (.slice Rk rm rd) := by rw [hW9]; go_simp
    have l2 : W9.cell? ⟨r, 2, none⟩ = some (.slice Rc na re) := by rw [hW9]; go_simp
    clear z0 z1 z2 m0 m1 m2
    rw [← hW9]
    clear hW9
    go_wp2_with fail
    refine bodyPost_ret (v := .agg #[.slice Re rn rc, .slice Rk rm rd, .slice Rc na re]) (by simp [results, Tryz.results31, go_sem, l0, l1, l2]) rfl ⟨Re, rn, rc, Rk, rm, rd, Rc, na, re, rfl, HOW9.out, HB9.out⟩
/-- the kids of these keys alone -/
noncomputable def onlyT (l : List ByteArray) (t : T) : T := .mk [] (keepK (fun k => inB l k == true) t.ks)
set_option maxRecDepth 100000 in
set_option maxHeartbeats 4000000 in
theorem onlyK_any (t : T) (cs : List S3) (Ae Ak Ca : Option Addr) (ne nk ce ck na ca9 : Nat) (w : World) (l : List ByteArray) (A : Option Addr) (n c : Nat) (hl9 : l.length = n) (hn9 : n ≤ 1000) (hrl : Rd w w.heap.size 1 A n c (strs l)) (hn : nodes t ≤ 1000) (hl : cs.length = na) (hna : na ≤ 1000) (hr : RdT w w.heap.size t ⟨Ae, ne, ce⟩ ⟨Ak, nk, ck⟩) (hc : Rd w w.heap.size 3 Ca na ca9 (spsC cs)) :
    Calls Tryz.prog 26 #[.agg #[.slice Ae ne ce, .slice Ak nk ck, .slice Ca na ca9], .slice A n c] w (CausErr (if rightKB (t, cs) = true then (onlyT l t, cs) else noneK) (if rightKB (t, cs) = true then 0 else 1) w) := by
  have HLS := Lib.hid (And.intro hl9 hrl)
  clear hl9 hrl
  obtain ⟨k9, hk9⟩ : ∃ k, (if rightKB (t, cs) = true then ((onlyT l t), cs) else noneK) = k := ⟨_, rfl⟩
  rw [hk9]
  have HK9 := Lib.hid hk9
  clear hk9
  obtain ⟨x9, hx9⟩ : ∃ x : Int, (if rightKB (t, cs) = true then 0 else 1) = x := ⟨_, rfl⟩
  rw [hx9]
  have HX9 := Lib.hid hx9
  clear hx9
  have HA := Lib.hid (And.intro hn (And.intro hl (And.intro hr hc)))
  clear hn hl hr hc
  obtain ⟨W, p, r, HW, HP, HR, HKc, HKR, HFR⟩ := boxC2r w Ae Ak Ca ne nk ce ck na ca9
  have hwr : w.heap.size ≤ r := by have := HP.out; have := HR.out; omega
  have hpr : p < r := by have := HR.out; omega
  have c0 := HKc.out.c0
  have c1 := HKc.out.c1
  have c2 := HKc.out.c2
  have HRA := Lib.hid (rightK_any t cs Ae Ak Ca ne nk ce ck na ca9 W HA.out.1 HA.out.2.1 hna (RdT.more HKc.out.below.size _ (RdT.below HA.out.2.2.1 HKc.out.below)) ((HA.out.2.2.2.below HKc.out.below).more HKc.out.below.size))
  go_enter Tryz.func26, Tryz.ntmps26
  go_wp2_with fail
  rw [← HW.out, ← HP.out]
  try rw [← HR.out]
  cases ha : rightKB (t, cs) with
  | false =>
    rw [ha] at HRA
    obtain rfl : k9 = noneK := by rw [← HK9.out, ha]; rfl
    obtain rfl : x9 = 1 := by rw [← HX9.out, ha]; rfl
    clear ha
    refine HRA.out.mono ?_
    rintro e v1 ⟨rfl, hb9⟩
    have HKc := Lib.hid (HKc.out.later hb9)
    have HKR := Lib.hid (HKR.out.later hb9)
    have HFR := Lib.hid (HFR.out.later hb9)
    clear hb9 c0 c1 c2
    have z0 := HKR.out.c0
    have z1 := HKR.out.c1
    have z2 := HKR.out.c2
    have m0 := HFR.out.2 0
    have m1 := HFR.out.2 1
    have m2 := HFR.out.2 2
    obtain ⟨W9, hW9⟩ : ∃ W, W = ((v1.setCell ⟨r, 0, none⟩ (.slice none 0 0)).setCell ⟨r, 1, none⟩ (.slice none 0 0)).setCell ⟨r, 2, none⟩ (.slice none 0 0) := ⟨_, rfl⟩
    have HB9 : Hid (Below w.heap.size w W9) := by
      unfold Hid
      rw [hW9]
      exact ((HKc.out.below.setCell (p := ⟨r, 0, none⟩) hwr _).setCell (p := ⟨r, 1, none⟩) hwr _).setCell (p := ⟨r, 2, none⟩) hwr _
    have HOW9 : Hid (OwC W9 w.heap.size noneK none 0 0 none 0 0 none 0 0) := by
      unfold Hid
      rw [hW9]
      exact OwC.no _ _
    have l0 : W9.cell? ⟨r, 0, none⟩ = some (.slice none 0 0) := by rw [hW9]; go_simp
    have l1 : W9.cell? ⟨r, 1, none⟩ = some (.slice none 0 0) := by rw [hW9]; go_simp
    have l2 : W9.cell? ⟨r, 2, none⟩ = some (.slice none 0 0) := by rw [hW9]; go_simp
    have HW9 := Lib.hid hW9
    clear hW9
    go_wp2_with fail
    rw [← HW9.out]
    refine bodyPost_ret (v := .tuple #[.agg #[.slice none 0 0, .slice none 0 0, .slice none 0 0], .int .i64 1]) (by simp [results, Tryz.results26, go_sem, l0, l1, l2]) rfl ⟨none, 0, 0, none, 0, 0, none, 0, 0, rfl, HOW9.out, HB9.out⟩
  | true =>
    rw [ha] at HRA
    obtain rfl : ((onlyT l t), cs) = k9 := by rw [← HK9.out, ha]; rfl
    obtain rfl : x9 = 0 := by rw [← HX9.out, ha]; rfl
    have HYA : Hid (RK (t, cs)) := rightKB_iff.1 ha
    clear ha
    refine HRA.out.mono ?_
    rintro e v1 ⟨rfl, hb9⟩
    have HKc := Lib.hid (HKc.out.later hb9)
    have HKR := Lib.hid (HKR.out.later hb9)
    have HFR := Lib.hid (HFR.out.later hb9)
    clear hb9 c0 c1 c2
    go_wp2_with fail
    refine wp_region_held_drew (S := fun W => W.cell? ⟨p, 0, none⟩ = some (.slice Ae ne ce) ∧ W.cell? ⟨p, 1, none⟩ = some (.slice Ak nk ck) ∧ W.cell? ⟨p, 2, none⟩ = some (.slice Ca na ca9)) (by kernel_rfl) (by have h9 := HKc.out.drew; exact ⟨h9.c0, h9.c1, h9.c2⟩) (fun hHeld => ?_)
    obtain ⟨w1, hw1⟩ : ∃ v, v = v1.drew := ⟨_, rfl⟩
    have HKc : Hid (Kept [(⟨p, 0, none⟩, .slice Ae ne ce), (⟨p, 1, none⟩, .slice Ak nk ck), (⟨p, 2, none⟩, .slice Ca na ca9)] w w1) := by unfold Hid; rw [hw1]; exact HKc.out.drew
    have HKR : Hid (Kept [(⟨r, 0, none⟩, .slice none 0 0), (⟨r, 1, none⟩, .slice none 0 0), (⟨r, 2, none⟩, .slice none 0 0)] w w1) := by unfold Hid; rw [hw1]; exact HKR.out.drew
    have HFR : Hid (Free r w1) := by unfold Hid; rw [hw1]; exact HFR.out.drew
    rw [← hw1] at hHeld ⊢
    clear hw1
    refine Tk 0 10 ?_
    refine Tk 1 11 ?_
    refine Tk 2 12 ?_
    refine Tk 4 14 ?_
    refine Tk 5 15 ?_
    refine wpAnyH_ready (rs := [3]) (by kernel_rfl) (by simp) ?_
    refine AllReadyH.cons (o := ⟨some 13, _, _, _, _, _⟩) rfl (fun K hK => ?_) AllReadyH.nil
    go_simp
    (go_at_call 50; refine (only_any t Ae Ak ne nk ce ck w1 l A n c HLS.out.1 (by omega) ((HLS.out.2.below HKc.out.below).more HKc.out.below.size) (LenT.few (by have := HA.out.1; omega)) (by have := HA.out.1; omega) (RdT.more HKc.out.below.size _ (RdT.below HA.out.2.2.1 HKc.out.below))).mono ?_)
    rw [rightB_iff.2 HYA.out.tree, if_pos rfl]
    rintro e v2 ⟨Re, rn, rc, Rk, rm, rd, rfl, hro, hb9⟩
    obtain ⟨B1, hB1⟩ : ∃ z, z = w1.heap.size := ⟨_, rfl⟩
    have hrB : r < B1 := by rw [hB1]; exact HFR.out.1
    have HWB : Hid (w.heap.size ≤ B1) := by unfold Hid; rw [hB1]; exact HKc.out.below.size
    have HRO : Hid (RdO v2 (fun b => B1 ≤ b) (onlyT l t) ⟨Re, rn, rc⟩ ⟨Rk, rm, rd⟩) := by unfold Hid; rw [hB1]; exact hro
    have hB2 : B1 ≤ v2.heap.size := by rw [hB1]; exact hb9.size
    have HKc := Lib.hid (HKc.out.later hb9)
    have HKR := Lib.hid (HKR.out.later hb9)
    have HFR := Lib.hid (HFR.out.later hb9)
    clear hro hb9 hB1
    refine hK.out _ _ ?_ (fun hHeld2 => ?_)
    · exact ⟨HKc.out.c0, HKc.out.c1, HKc.out.c2⟩
    clear hK K hHeld
    have hHeld := hHeld2
    clear hHeld2
    try simp only [Act.put, List.setIfInBounds_toArray, List.set_cons_zero, List.set_cons_succ]
    refine wpAnyH_ready (rs := [6]) (by kernel_rfl) (by simp) ?_
    refine AllReadyH.cons (o := ⟨some 16, _, _, _, _, _⟩) rfl (fun K hK => ?_) AllReadyH.nil
    go_simp
    (go_at_call 51; refine (copiedC_any cs Ca na ca9 v2 HA.out.2.1 hna ((HA.out.2.2.2.below HKc.out.below).more HKc.out.below.size)).mono ?_)
    rintro e v7 ⟨Rc, re, rfl, hxo, hb9⟩
    have HOW : Hid (OwC v7 B1 ((onlyT l t), cs) Re rn rc Rk rm rd Rc na re) := ⟨RdO.later HRO.out hb9, HA.out.2.1, hxo.mono fun b hb _ => by have h : v2.heap.size ≤ b := hb; omega⟩
    have HKc := Lib.hid (HKc.out.later hb9)
    have HKR := Lib.hid (HKR.out.later hb9)
    have HFR := Lib.hid (HFR.out.later hb9)
    clear hb9 hxo HRO
    have z0 := HKR.out.c0
    have z1 := HKR.out.c1
    have z2 := HKR.out.c2
    have m0 := HFR.out.2 0
    have m1 := HFR.out.2 1
    have m2 := HFR.out.2 2
    refine hK.out _ _ ?_ (fun hHeld2 => ?_)
    · exact ⟨HKc.out.c0, HKc.out.c1, HKc.out.c2⟩
    clear hK K hHeld
    have hHeld := hHeld2
    clear hHeld2
    try simp only [Act.put, List.setIfInBounds_toArray, List.set_cons_zero, List.set_cons_succ]
    refine Tk 7 17 ?_
    refine wpAnyH_ready (rs := [8]) (by kernel_rfl) (by simp) ?_
    refine AllReadyH.cons (o := ⟨none, _, _, _, _, _⟩) rfl (fun K hK => ?_) AllReadyH.nil
    go_simp
    refine hK.out _ _ ?_ (fun hHeld2 => ?_)
    · (try dsimp only)
      have h9 := HKc.out.past3 (p := r) hwr (fun x hx => by simp at hx; rcases hx with rfl | rfl | rfl <;> (dsimp only; omega)) (.slice Re rn rc) (.slice Rk rm rd) (.slice Rc na re)
      exact ⟨h9.c0, h9.c1, h9.c2⟩
    clear hK K hHeld
    have hHeld := hHeld2
    clear hHeld2
    try simp only [Act.put, List.setIfInBounds_toArray, List.set_cons_zero, List.set_cons_succ]
    refine Tk 9 5 ?_
    refine wpAnyH_done (by kernel_rfl) ?_ _
    clear hHeld
    obtain ⟨W9, hW9⟩ : ∃ W, W = ((v7.setCell ⟨r, 0, none⟩ (.slice Re rn rc)).setCell ⟨r, 1, none⟩ (.slice Rk rm rd)).setCell ⟨r, 2, none⟩ (.slice Rc na re) := ⟨_, rfl⟩
    have HB9 : Hid (Below w.heap.size w W9) := by
      unfold Hid
      rw [hW9]
      exact ((HKc.out.below.setCell (p := ⟨r, 0, none⟩) hwr _).setCell (p := ⟨r, 1, none⟩) hwr _).setCell (p := ⟨r, 2, none⟩) hwr _
    have HOW9 : Hid (OwC W9 w.heap.size ((onlyT l t), cs) Re rn rc Rk rm rd Rc na re) := by
      unfold Hid
      rw [hW9]
      exact (HOW.out.set3 hrB _ _ _).mono HWB.out
    have l0 : W9.cell? ⟨r, 0, none⟩ = some (.slice Re rn rc) := by rw [hW9]; go_simp
    have l1 : W9.cell? ⟨r, 1, none⟩ = some (.slice Rk rm rd) := by rw [hW9]; go_simp
    have l2 : W9.cell? ⟨r, 2, none⟩ = some (.slice Rc na re) := by rw [hW9]; go_simp
    clear z0 z1 z2 m0 m1 m2
    rw [← hW9]
    clear hW9
    go_wp2_with fail
    refine bodyPost_ret (v := .tuple #[.agg #[.slice Re rn rc, .slice Rk rm rd, .slice Rc na re], .int .i64 0]) (by simp [results, Tryz.results26, go_sem, l0, l1, l2]) rfl ⟨Re, rn, rc, Rk, rm, rd, Rc, na, re, rfl, HOW9.out, HB9.out⟩
end Cs
end Go.Proofs.YtcbclefemcmhpaaGreat
namespace Go.Proofs.YtcbclefemcmhpaaGreat
open Go.ChangeShapes Go.WideShapes Go.ChangeAt Go.RowKit
namespace Cs
open Tr Cx Sp Rw Classical
set_option maxRecDepth 100000 in
set_option maxHeartbeats 4000000 in
theorem smallK_any (t : T) (Ae Ak Ca : Option Addr) (ne nk ce ck na ca9 : Nat) (w : World) (hl : LenT reachBytes t) (hr : RdT w w.heap.size t ⟨Ae, ne, ce⟩ ⟨Ak, nk, ck⟩) :
    Calls Tryz.prog 33 #[.agg #[.slice Ae ne ce, .slice Ak nk ck, .slice Ca na ca9], .int .i64 40] w fun e w' => ∃ b : Bool, e = .returned (.bool b) ∧ (b = true → nodes t ≤ 40 ∧ na ≤ 40) ∧ Below w.heap.size w w' := by
  obtain ⟨W, p, HW, HP, HKc⟩ := boxC1 w Ae Ak Ca ne nk ce ck na ca9
  have HSM := Lib.hid (small_to t Ae Ak ne nk ce ck 40 40 rfl W (by omega) hl (RdT.more HKc.out.below.size _ (RdT.below hr HKc.out.below)))
  have c0 := HKc.out.c0
  have c1 := HKc.out.c1
  have c2 := HKc.out.c2
  clear hl hr
  go_enter Tryz.func33, Tryz.ntmps33
  go_wp2_with fail
  rw [← HP.out, ← HW.out]
  refine HSM.out.mono ?_
  rintro e v1 ⟨b, rfl, hb, hb9⟩
  have HKc := Lib.hid (HKc.out.later hb9)
  have HB := Lib.hid hb
  clear hb hb9 c0 c1 c2
  have c0 := HKc.out.c0
  have c1 := HKc.out.c1
  have c2 := HKc.out.c2
  cases b with
  | false =>
    go_wp2_with fail
    go_ret
    exact ⟨false, rfl, fun h => absurd h (by simp), HKc.out.below⟩
  | true =>
    have HB2 := Lib.hid (HB.out rfl)
    clear HB
    by_cases hm : na ≤ 40
    · have f1 : decide ((na : Int) ≤ 40) = true := decide_eq_true (by omega)
      go_wp2_with fail
      go_ret
      exact ⟨true, rfl, fun _ => ⟨HB2.out, hm⟩, HKc.out.below⟩
    · have f1 : decide ((na : Int) ≤ 40) = false := decide_eq_false (by omega)
      go_wp2_with fail
      go_ret
      exact ⟨false, rfl, fun h => absurd h (by simp), HKc.out.below⟩
set_option maxRecDepth 100000 in
set_option maxHeartbeats 4000000 in
theorem refsameK_any (t u : T) (cs ds : List S3) (Ae Ak Ca Be Bk Cb : Option Addr) (ne nk ce ck na ca9 me mk de dk nb cb9 : Nat) (w : World) (z : Bool) (hz : decide ((t, cs) = (u, ds)) = z) (hn : nodes t ≤ 1000000) (hl : cs.length = na) (hna : na ≤ 1000000) (hr : RdT w w.heap.size t ⟨Ae, ne, ce⟩ ⟨Ak, nk, ck⟩) (hc : Rd w w.heap.size 3 Ca na ca9 (spsC cs)) (hl2 : ds.length = nb) (hr2 : RdT w w.heap.size u ⟨Be, me, de⟩ ⟨Bk, mk, dk⟩) (hc2 : Rd w w.heap.size 3 Cb nb cb9 (spsC ds)) :
    Calls Tryz.prog 19 #[.agg #[.slice Ae ne ce, .slice Ak nk ck, .slice Ca na ca9], .agg #[.slice Be me de, .slice Bk mk dk, .slice Cb nb cb9]] w fun e w' => e = .returned (.bool z) ∧ Below w.heap.size w w' := by
  have HZ := Lib.hid hz
  have HA := Lib.hid (And.intro hl (And.intro hc (And.intro hl2 hc2)))
  clear hz hl hc hl2 hc2
  obtain ⟨W, p, q, HW, HP, HQ, HKc⟩ := boxC2 w Ae Ak Be Bk Ca Cb ne nk ce ck me mk de dk na ca9 nb cb9
  have c0 := HKc.out.c0
  have c1 := HKc.out.c1
  have c2 := HKc.out.c2
  have c3 := HKc.out.c3
  have c4 := HKc.out.c4
  have c5 := HKc.out.c5
  obtain ⟨x, hx⟩ : ∃ x, eqB t u = x := ⟨_, rfl⟩
  have HX := Lib.hid hx
  have HST := Lib.hid (refsameT_any t u Ae Ak ne nk ce ck Be Bk me mk de dk W hn (RdT.more HKc.out.below.size _ (RdT.below hr HKc.out.below)) (RdT.more HKc.out.below.size _ (RdT.below hr2 HKc.out.below)))
  rw [hx] at HST
  clear hr hr2 hx
  go_enter Tryz.func19, Tryz.ntmps19
  go_wp2_with fail
  rw [← HW.out, ← HP.out]
  try rw [← HQ.out]
  refine HST.out.mono ?_
  rintro e v2 ⟨rfl, hb9⟩
  have HKc := Lib.hid (HKc.out.later hb9)
  clear hb9 c0 c1 c2 c3 c4 c5
  cases x with
  | false =>
    obtain rfl : z = false := by
      rw [← HZ.out]
      exact decide_eq_false fun h => by rw [eqB_yes (congrArg Prod.fst h)] at HX; cases HX.out
    go_wp2_with fail
    go_ret
    exact ⟨by first | rfl | (rw [HZ.out]; rfl) | rw [HZ.out], HKc.out.below⟩
  | true =>
    have htu : t = u := eqB_iff.1 HX.out
    have c0 := HKc.out.c0
    have c1 := HKc.out.c1
    have c2 := HKc.out.c2
    have c3 := HKc.out.c3
    have c4 := HKc.out.c4
    have c5 := HKc.out.c5
    have HSC := Lib.hid (refsameC_any cs ds na nb Ca Cb ca9 cb9 v2 HA.out.1 HA.out.2.2.1 hna ((HA.out.2.1.below HKc.out.below).more HKc.out.below.size) ((HA.out.2.2.2.below HKc.out.below).more HKc.out.below.size) z (by
      rw [← HZ.out]
      by_cases h : cs = ds
      · rw [decide_eq_true h, decide_eq_true (by rw [htu, h])]
      · rw [decide_eq_false h, decide_eq_false fun h2 => h (congrArg Prod.snd h2)]))
    clear htu
    go_wp2_with fail
    refine HSC.out.mono ?_
    rintro e v3 ⟨rfl, hb9⟩
    have HKc := Lib.hid (HKc.out.later hb9)
    clear hb9 c0 c1 c2 c3 c4 c5
    go_wp2_with fail
    go_ret
    exact ⟨by first | rfl | (rw [HZ.out]; rfl) | rw [HZ.out], HKc.out.below⟩
/-- what is known, and where it lies -/
structure CP where
  k : K
  e : SV
  d : SV
  c : SV
/-- it reads so -/
structure RdP (w : World) (p : CP) : Prop where
  tree : RdT w w.heap.size p.k.1 p.e p.d
  len : p.k.2.length = p.c.n
  ctx : Rd w w.heap.size 3 p.c.A p.c.n p.c.c (spsC p.k.2)
theorem RdP.later {w w' : World} {p : CP} (h : RdP w p) (hb : Below w.heap.size w w') : RdP w' p := ⟨RdT.later h.tree hb, h.len, h.ctx.later hb⟩
def cpV (p : CP) : List Value := [.slice p.e.A p.e.n p.e.c, .slice p.d.A p.d.n p.d.c, .slice p.c.A p.c.n p.c.c]
/-- a row of them lies at block g -/
def CellsP (w : World) (g : Nat) (ps : List CP) : Prop := ∀ (k : Nat) (h : k < ps.length), w.cell? ⟨g, k * 3, none⟩ = some (.slice ps[k].e.A ps[k].e.n ps[k].e.c) ∧ w.cell? ⟨g, k * 3 + 1, none⟩ = some (.slice ps[k].d.A ps[k].d.n ps[k].d.c) ∧ w.cell? ⟨g, k * 3 + 2, none⟩ = some (.slice ps[k].c.A ps[k].c.n ps[k].c.c)
theorem CellsP.later {w w' : World} {g : Nat} {ps : List CP} (h : CellsP w g ps) (hb : Below w.heap.size w w') : CellsP w' g ps := fun k hk => by
  obtain ⟨h1, h2, h3⟩ := h k hk
  have hg := World.block_lt_of_cell? w _ h1
  exact ⟨(hb.cell (p := ⟨g, k * 3, none⟩) hg).trans h1, (hb.cell (p := ⟨g, k * 3 + 1, none⟩) hg).trans h2, (hb.cell (p := ⟨g, k * 3 + 2, none⟩) hg).trans h3⟩
set_option maxRecDepth 100000 in
set_option maxHeartbeats 4000000 in
theorem small_any9 (ps : List CP) (n : Nat) (g cap : Nat) (w : World) (hn : ps.length = n) (hn10 : n ≤ 10) (hc : CellsP w g ps) (hr : ∀ p ∈ ps, RdP w p) (hlt : ∀ p ∈ ps, LenT reachBytes p.k.1) :
    Calls Tryz.prog 14 #[.slice (some ⟨g, 0, none⟩) n cap] w fun e w' => ∃ b : Bool, e = .returned (.bool b) ∧ (b = true → ∀ p ∈ ps, nodes p.k.1 ≤ 40 ∧ p.c.n ≤ 40) ∧ Below w.heap.size w w' := by
  have HN := Lib.hid hn
  have HC := Lib.hid hc
  have HR := Lib.hid hr
  clear hn hc hr
  have HLT := Lib.hid hlt
  clear hlt
  go_enter Tryz.func14, Tryz.ntmps14
  go_wp2_with fail
  go_loopw [6] (fun i wr => ∃ (k : Nat), k ≤ n ∧ i = .int .i64 k ∧ Hid (∀ (j : Nat) (h : j < ps.length), j < k → nodes ps[j].k.1 ≤ 40 ∧ ps[j].c.n ≤ 40) ∧ Hid (Below w.heap.size w wr)) (fun i _ => n - (intOf i).toNat)
  case atStart => exact ⟨0, by omega, by first | rfl | trivial, fun j _ h => absurd h (by omega), Below.refl _ _⟩
  case round =>
    obtain ⟨k, hk, rfl, HI, HB⟩ := hrel
    by_cases hlt : k < n
    · have hkl : k < ps.length := by rw [HN.out]; exact hlt
      obtain ⟨c0, c1, c2⟩ := (HC.out.later HB.out) k hkl
      have hrp := (HR.out _ (List.getElem_mem hkl)).later HB.out
      have hmem : ps[k] ∈ ps := List.getElem_mem hkl
      obtain ⟨p, hp⟩ : ∃ p, p = ps[k] := ⟨_, rfl⟩
      rw [← hp] at c0 c1 c2 hrp hmem
      have HP := Lib.hid hp
      have HM := Lib.hid hmem
      obtain ⟨⟨t, cs⟩, ⟨Ae, ne, ce⟩, ⟨Ak, nk, ck⟩, ⟨Ca, na, ca9⟩⟩ := p
      dsimp only at c0 c1 c2
      have HRP := Lib.hid hrp
      clear hrp hp hmem
      have hone := smallK_any t Ae Ak Ca ne nk ce ck na ca9 wr (HLT.out _ HM.out) HRP.out.tree
      have HONE := Lib.hid hone
      clear hone
      go_wp2_with fail
      refine HONE.out.mono ?_
      rintro e w2 ⟨b, rfl, hb, hb2⟩
      have HB2 := Lib.hid (HB.out.trans (hb2.mono HB.out.size))
      have HBB := Lib.hid hb
      clear hb2 hb
      cases b with
      | false =>
        go_wp2_with fail
        go_ret
        exact ⟨false, rfl, fun h => absurd h (by simp), HB2.out⟩
      | true =>
        have HI2 : Hid (∀ (j : Nat) (h : j < ps.length), j < k + 1 → nodes ps[j].k.1 ≤ 40 ∧ ps[j].c.n ≤ 40) := fun j hj hl => by
          by_cases e : j < k
          · exact HI.out j hj e
          · obtain rfl : j = k := by omega
            rw [← HP.out]
            exact HBB.out rfl
        go_wp2_with fail
        go_roundw
        case rel => exact ⟨k + 1, by omega, by go_num, HI2.out, HB2.out⟩
        case measure => simp [intOf]; omega
    · obtain rfl : k = n := by omega
      go_wp2_with fail
      go_ret
      exact ⟨true, rfl, fun _ p hp => by obtain ⟨j, hj, rfl⟩ := List.getElem_of_mem hp; exact HI.out j hj (by rw [← HN.out]; exact hj), HB.out⟩
set_option maxRecDepth 100000 in
set_option maxHeartbeats 4000000 in
theorem right_any9 (ps : List CP) (n : Nat) (g cap : Nat) (w : World) (hn : ps.length = n) (hn10 : n ≤ 10) (hc : CellsP w g ps) (hr : ∀ p ∈ ps, RdP w p) (hlt : ∀ p ∈ ps, nodes p.k.1 ≤ 200 ∧ p.c.n ≤ 1000) (z : Bool) (hz : ps.all (fun p => rightKB p.k) = z) :
    Calls Tryz.prog 18 #[.slice (some ⟨g, 0, none⟩) n cap] w fun e w' => e = .returned (.bool z) ∧ Below w.heap.size w w' := by
  have HN := Lib.hid hn
  have HC := Lib.hid hc
  have HR := Lib.hid hr
  clear hn hc hr
  have HLT := Lib.hid hlt
  have HZ := Lib.hid hz
  clear hlt hz
  go_enter Tryz.func18, Tryz.ntmps18
  go_wp2_with fail
  go_loopw [6] (fun i wr => ∃ (k : Nat), k ≤ n ∧ i = .int .i64 k ∧ Hid (∀ (j : Nat) (h : j < ps.length), j < k → rightKB ps[j].k = true) ∧ Hid (Below w.heap.size w wr)) (fun i _ => n - (intOf i).toNat)
  case atStart => exact ⟨0, by omega, by first | rfl | trivial, fun j _ h => absurd h (by omega), Below.refl _ _⟩
  case round =>
    obtain ⟨k, hk, rfl, HI, HB⟩ := hrel
    by_cases hlt : k < n
    · have hkl : k < ps.length := by rw [HN.out]; exact hlt
      obtain ⟨c0, c1, c2⟩ := (HC.out.later HB.out) k hkl
      have hrp := (HR.out _ (List.getElem_mem hkl)).later HB.out
      have hmem : ps[k] ∈ ps := List.getElem_mem hkl
      obtain ⟨p, hp⟩ : ∃ p, p = ps[k] := ⟨_, rfl⟩
      rw [← hp] at c0 c1 c2 hrp hmem
      have HP := Lib.hid hp
      have HM := Lib.hid hmem
      obtain ⟨⟨t, cs⟩, ⟨Ae, ne, ce⟩, ⟨Ak, nk, ck⟩, ⟨Ca, na, ca9⟩⟩ := p
      dsimp only at c0 c1 c2
      have HRP := Lib.hid hrp
      clear hrp hp hmem
      obtain ⟨y, hy⟩ : ∃ y, rightKB (t, cs) = y := ⟨_, rfl⟩
      have hbd := HLT.out _ HM.out
      have hone := refrightK_any t cs Ae Ak Ca ne nk ce ck na ca9 wr (by have h : nodes t ≤ 200 := hbd.1; omega) HRP.out.len (by have h : na ≤ 1000 := hbd.2; omega) HRP.out.tree HRP.out.ctx hbd.1
      rw [hy] at hone
      have HY := Lib.hid hy
      have HONE := Lib.hid hone
      clear hone hbd hy
      go_wp2_with fail
      refine HONE.out.mono ?_
      rintro e w2 ⟨rfl, hb2⟩
      have HB2 := Lib.hid (HB.out.trans (hb2.mono HB.out.size))
      clear hb2
      cases y with
      | false =>
        have hzf : z = false := by
          rw [← HZ.out, List.all_eq_false]
          exact ⟨_, HM.out, by rw [HY.out]; simp⟩
        subst hzf
        go_wp2_with fail
        go_ret
        exact ⟨rfl, HB2.out⟩
      | true =>
        have HI2 : Hid (∀ (j : Nat) (h : j < ps.length), j < k + 1 → rightKB ps[j].k = true) := fun j hj hl => by
          by_cases e : j < k
          · exact HI.out j hj e
          · obtain rfl : j = k := by omega
            rw [← HP.out]
            exact HY.out
        go_wp2_with fail
        go_roundw
        case rel => exact ⟨k + 1, by omega, by go_num, HI2.out, HB2.out⟩
        case measure => simp [intOf]; omega
    · obtain rfl : k = n := by omega
      have hzt : z = true := by
        rw [← HZ.out, List.all_eq_true]
        intro p hp
        obtain ⟨j, hj, rfl⟩ := List.getElem_of_mem hp
        exact HI.out j hj (by rw [← HN.out]; exact hj)
      subst hzt
      go_wp2_with fail
      go_ret
      exact ⟨rfl, HB.out⟩
/-- what the laws' join answers -/
def JoinL (a b : K) (na nb : Nat) (w : World) (e : Ending) (w' : World) : Prop := ∃ x : K, (RK a ∧ RK b → IsJ a b x ∧ x.2.length ≤ na + nb) ∧ (¬ (RK a ∧ RK b) → x = noneK) ∧ CausIs x w e w'
set_option maxRecDepth 100000 in
set_option maxHeartbeats 4000000 in
theorem joinL_any (t u : T) (cs ds : List S3) (Ae Ak Ca Be Bk Cb : Option Addr) (ne nk ce ck na ca9 me mk de dk nb cb9 : Nat) (w : World) (hn : nodes t ≤ 1000) (hl : cs.length = na) (hna : na ≤ 1000) (hr : RdT w w.heap.size t ⟨Ae, ne, ce⟩ ⟨Ak, nk, ck⟩) (hc : Rd w w.heap.size 3 Ca na ca9 (spsC cs)) (hn2 : nodes u ≤ 1000) (hl2 : ds.length = nb) (hnb : nb ≤ 1000) (hr2 : RdT w w.heap.size u ⟨Be, me, de⟩ ⟨Bk, mk, dk⟩) (hc2 : Rd w w.heap.size 3 Cb nb cb9 (spsC ds)) :
    Calls Tryz.prog 22 #[.agg #[.slice Ae ne ce, .slice Ak nk ck, .slice Ca na ca9], .agg #[.slice Be me de, .slice Bk mk dk, .slice Cb nb cb9]] w (JoinL (t, cs) (u, ds) na nb w) := by
  have HA := Lib.hid (And.intro hn (And.intro hl (And.intro hr hc)))
  clear hn hl hr hc
  have HB := Lib.hid (And.intro hn2 (And.intro hl2 (And.intro hr2 hc2)))
  clear hn2 hl2 hr2 hc2
  obtain ⟨W, p, q, r, HW, HP, HQ, HR, HKc, HKR, HFR⟩ := boxC3 w Ae Ak Ca Be Bk Cb ne nk ce ck na ca9 me mk de dk nb cb9
  have hwr : w.heap.size ≤ r := by have := HP.out; have := HR.out; omega
  have hpr : p < r := by have := HR.out; omega
  have hqr : q < r := by have := HQ.out; have := HR.out; omega
  have c0 := HKc.out.c0
  have c1 := HKc.out.c1
  have c2 := HKc.out.c2
  have c3 := HKc.out.c3
  have c4 := HKc.out.c4
  have c5 := HKc.out.c5
  have HJ := Lib.hid (joinE_any t u cs ds Ae Ak Ca Be Bk Cb ne nk ce ck na ca9 me mk de dk nb cb9 W HA.out.1 HA.out.2.1 hna (RdT.more HKc.out.below.size _ (RdT.below HA.out.2.2.1 HKc.out.below)) ((HA.out.2.2.2.below HKc.out.below).more HKc.out.below.size) HB.out.1 HB.out.2.1 hnb (RdT.more HKc.out.below.size _ (RdT.below HB.out.2.2.1 HKc.out.below)) ((HB.out.2.2.2.below HKc.out.below).more HKc.out.below.size))
  go_enter Tryz.func22, Tryz.ntmps22
  go_wp2_with fail
  rw [← HW.out, ← HP.out, ← HR.out]
  try rw [← HQ.out]
  refine HJ.out.mono ?_
  rintro e v1 ⟨x, y, hxy, Re, rn, rc, Rk, rm, rd, Rc, rq, re, rfl, how, hb9⟩
  have HXY := Lib.hid hxy
  have hrW : r < W.heap.size := HFR.out.1
  have hWB : w.heap.size ≤ W.heap.size := HKc.out.below.size
  have HKc := Lib.hid (HKc.out.later hb9)
  have HKR := Lib.hid (HKR.out.later hb9)
  have HFR := Lib.hid (HFR.out.later hb9)
  obtain ⟨v2, hv2⟩ : ∃ v, v = v1.alloc (.cells #[.slice Re rn rc, .slice Rk rm rd, .slice Rc rq re] 29) := ⟨_, rfl⟩
  have hb2 : Below v1.heap.size v1 v2 := by rw [hv2]; exact Dt.box_below _ _ _
  have HOW := Lib.hid (OwC.later how hb2)
  have HKc := Lib.hid (HKc.out.later hb2)
  have HKR := Lib.hid (HKR.out.later hb2)
  have HFR := Lib.hid (HFR.out.later hb2)
  have HV2 := Lib.hid hv2
  clear hb9 how hb2 hxy c0 c1 c2 c3 c4 c5 hv2
  have z0 := HKR.out.c0
  have z1 := HKR.out.c1
  have z2 := HKR.out.c2
  have m0 := HFR.out.2 0
  have m1 := HFR.out.2 1
  have m2 := HFR.out.2 2
  obtain ⟨W9, hW9⟩ : ∃ W, W = ((v2.setCell ⟨r, 0, none⟩ (.slice Re rn rc)).setCell ⟨r, 1, none⟩ (.slice Rk rm rd)).setCell ⟨r, 2, none⟩ (.slice Rc rq re) := ⟨_, rfl⟩
  have HB9 : Hid (Below w.heap.size w W9) := by
    unfold Hid
    rw [hW9]
    exact ((HKc.out.below.setCell (p := ⟨r, 0, none⟩) hwr _).setCell (p := ⟨r, 1, none⟩) hwr _).setCell (p := ⟨r, 2, none⟩) hwr _
  have HOW9 : Hid (OwC W9 w.heap.size x Re rn rc Rk rm rd Rc rq re) := by
    unfold Hid
    rw [hW9]
    exact (HOW.out.set3 hrW _ _ _).mono hWB
  have l0 : W9.cell? ⟨r, 0, none⟩ = some (.slice Re rn rc) := by rw [hW9]; go_simp
  have l1 : W9.cell? ⟨r, 1, none⟩ = some (.slice Rk rm rd) := by rw [hW9]; go_simp
  have l2 : W9.cell? ⟨r, 2, none⟩ = some (.slice Rc rq re) := by rw [hW9]; go_simp
  have HW9 := Lib.hid hW9
  rw [HV2.out] at z0 z1 z2 m0 m1 m2
  clear hW9
  go_wp2_with fail
  rw [← HV2.out, ← HW9.out]
  refine bodyPost_ret (v := .agg #[.slice Re rn rc, .slice Rk rm rd, .slice Rc rq re]) (by simp [results, Tryz.results22, go_sem, l0, l1, l2]) rfl ⟨x, fun h => (HXY.out.1 h).2, fun h => (HXY.out.2 h).2, Re, rn, rc, Rk, rm, rd, Rc, rq, re, rfl, HOW9.out, HB9.out⟩
end Cs
end Go.Proofs.YtcbclefemcmhpaaGreat
namespace Go.Proofs.YtcbclefemcmhpaaGreat
open Go.ChangeShapes Go.WideShapes Go.ChangeAt Go.RowKit
namespace Cs
open Tr Cx Sp Rw Classical
theorem join_none2 {a x : K} (ha : RK a) (h : IsJ a noneK x) : x = a := ext_st (h.right ha right_noneK) ha fun p q => by rw [h.st ha right_noneK, st_noneK, none_mx]
def awT : T := .mk [⟨1, 1, ⟨#[]⟩, 0⟩] []
def awC : List S3 := [(1, 1, 1)]
theorem awRight : RK (awT, awC) := by
  refine ⟨?_, ?_, fun x hx => ?_⟩
  · refine ⟨fun e he => ?_, by simp, by simp, by simp⟩
    rw [List.mem_singleton.1 he]
    exact ⟨by decide, by decide, by decide, by decide⟩
  · refine ⟨⟨by decide, by decide, trivial⟩, fun d hd => ?_⟩
    show RightF 1 (Cx.part [(1, 1, 1)] d)
    rw [part_cons, part_nil]
    split
    · exact ⟨by decide, by decide, by decide, trivial⟩
    · trivial
  · have h1 : x ∈ leaves awT := hx
    unfold awT at h1
    rw [leaves_mk] at h1
    have h2 : x = ([], ⟨1, 1, ⟨#[]⟩, 0⟩) := by simpa [below] using h1
    rw [h2]
    rfl
theorem awNodes : nodes awT = 1 := by unfold awT; rw [nodes_mk]; rfl
theorem RdP.of_own {w : World} {lo : Nat} {k : K} {Ae Ak Ca : Option Addr} {ne ce nk ck na ca9 : Nat} (h : OwC w lo k Ae ne ce Ak nk ck Ca na ca9) : RdP w ⟨k, ⟨Ae, ne, ce⟩, ⟨Ak, nk, ck⟩, ⟨Ca, na, ca9⟩⟩ := ⟨h.rdT, h.len, h.ctx.rd⟩
theorem RdP.zero (w : World) : RdP w ⟨noneK, ⟨none, 0, 0⟩, ⟨none, 0, 0⟩, ⟨none, 0, 0⟩⟩ := ⟨RdT.none _ _ _ _, rfl, Rd.nil _⟩
set_option maxRecDepth 100000 in
theorem awRd (w : World) : ∃ (W : World) (g : Nat), Hid (W = (((w.alloc (.cells #[.int .i64 1, .int .i64 1] 48)).alloc (.cells #[.int .i64 1, .int .i64 1, .string ⟨#[]⟩, .int .i64 0] 58)).alloc (.cells #[.int .i64 1, .int .i64 1, .int .i64 1] 55)).alloc (.cells #[.slice (some ⟨w.heap.size + 1, 0, none⟩) 1 1, .slice none 0 0, .slice (some ⟨w.heap.size + 1 + 1, 0, none⟩) 1 1] 29)) ∧ Hid (g = w.heap.size) ∧ Hid (RdP W ⟨(awT, awC), ⟨some ⟨g + 1, 0, none⟩, 1, 1⟩, ⟨none, 0, 0⟩, ⟨some ⟨g + 1 + 1, 0, none⟩, 1, 1⟩⟩) ∧ Hid (Kept [(⟨g + 1 + 1 + 1, 0, none⟩, .slice (some ⟨g + 1, 0, none⟩) 1 1), (⟨g + 1 + 1 + 1, 1, none⟩, .slice none 0 0), (⟨g + 1 + 1 + 1, 2, none⟩, .slice (some ⟨g + 1 + 1, 0, none⟩) 1 1)] w W) := by
  refine ⟨_, _, rfl, rfl, ?_, ?_⟩
  · refine ⟨?_, rfl, ?_⟩
    · show RdT _ _ (T.mk _ _) _ _
      rw [rdT_mk]
      refine ⟨rfl, ⟨rfl, Nat.le_refl _, fun u hu => ?_, fun _ => ⟨_, _, rfl, by simp; try omega, fun j u hu => ?_⟩⟩, rfl, [], Rd.nil _, fun i hi => by simp at hi⟩
      · simp [entsC, entC] at hu
        rcases hu with rfl | rfl | rfl <;> rfl
      · rcases (by have := List.getElem?_eq_some_iff.1 hu; obtain ⟨h, _⟩ := this; simp [entsC, entC] at h; omega : j = 0 ∨ j = 1 ∨ j = 2 ∨ j = 3) with rfl | rfl | rfl | rfl <;> (simp [entsC, entC] at hu; subst hu; go_simp)
    · refine ⟨rfl, Nat.le_refl _, fun u hu => ?_, fun _ => ⟨_, _, rfl, by simp; try omega, fun j u hu => ?_⟩⟩
      · simp [spsC, spC, awC] at hu
        rw [hu]; rfl
      · rcases (by have := List.getElem?_eq_some_iff.1 hu; obtain ⟨h, _⟩ := this; simp [spsC, spC, awC] at h; omega : j = 0 ∨ j = 1 ∨ j = 2) with rfl | rfl | rfl <;> (simp [spsC, spC, awC] at hu; subst hu; go_simp)
  · have hb : Below w.heap.size w ((((w.alloc (.cells #[.int .i64 1, .int .i64 1] 48)).alloc (.cells #[.int .i64 1, .int .i64 1, .string ⟨#[]⟩, .int .i64 0] 58)).alloc (.cells #[.int .i64 1, .int .i64 1, .int .i64 1] 55)).alloc (.cells #[.slice (some ⟨w.heap.size + 1, 0, none⟩) 1 1, .slice none 0 0, .slice (some ⟨w.heap.size + 1 + 1, 0, none⟩) 1 1] 29)) := ((((Below.refl _ _).alloc (Nat.le_refl _) _).alloc (by simp) _).alloc (by simp; omega) _).alloc (by simp; omega) _
    refine (((Kept.nil_of hb).cons_of ?_).cons_of ?_).cons_of ?_ <;> go_simp
set_option maxRecDepth 100000 in
set_option maxHeartbeats 4000000 in
theorem awake_any (w : World) : Calls Tryz.prog 13 #[] w fun e w' => e = .returned (.bool true) ∧ Below w.heap.size w w' := by
  obtain ⟨W, g, HW, HG, HA, HKc⟩ := awRd w
  have c0 := HKc.out.c0
  have c1 := HKc.out.c1
  have c2 := HKc.out.c2
  have HJ := Lib.hid (joinE_any awT none_ awC [] (some ⟨g + 1, 0, none⟩) none (some ⟨g + 1 + 1, 0, none⟩) none none none 1 0 1 0 1 1 0 0 0 0 0 0 W (by rw [awNodes]; omega) rfl (by omega) HA.out.tree HA.out.ctx (by rw [nodes_none]; omega) rfl (by omega) (RdP.zero W).tree (RdP.zero W).ctx)
  go_enter Tryz.func13, Tryz.ntmps13
  go_wp2_with fail
  rw [← HW.out, ← HG.out]
  refine HJ.out.mono ?_
  rintro e v1 ⟨x, y, hxy, Re, rn, rc, Rk, rm, rd, Rc, rq, re, rfl, how, hb9⟩
  obtain ⟨rfl, hj, _⟩ := hxy.1 ⟨awRight, right_noneK⟩
  obtain rfl : x = (awT, awC) := join_none2 awRight hj
  obtain ⟨v2, hv2⟩ : ∃ v, v = v1.alloc (.cells #[.slice Re rn rc, .slice Rk rm rd, .slice Rc rq re] 29) := ⟨_, rfl⟩
  obtain ⟨h, hh⟩ : ∃ h, h = v1.heap.size := ⟨_, rfl⟩
  have hb2 : Below v1.heap.size v1 v2 := by rw [hv2]; exact Dt.box_below _ _ _
  have HA := Lib.hid ((HA.out.later hb9).later hb2)
  have HOW := Lib.hid (RdP.of_own (how.later hb2))
  have HKc := Lib.hid ((HKc.out.later hb9).later hb2)
  have HV2 := Lib.hid hv2
  have HH := Lib.hid hh
  have x0 : v2.cell? ⟨h, 0, none⟩ = some (.slice Re rn rc) := by rw [hv2, hh]; go_simp
  have x1 : v2.cell? ⟨h, 1, none⟩ = some (.slice Rk rm rd) := by rw [hv2, hh]; go_simp
  have x2 : v2.cell? ⟨h, 2, none⟩ = some (.slice Rc rq re) := by rw [hv2, hh]; go_simp
  rw [HV2.out, HH.out] at x0 x1 x2
  clear hxy hj how hb9 hb2 hv2 hh c0 c1 c2
  have c0 := HKc.out.c0
  have c1 := HKc.out.c1
  have c2 := HKc.out.c2
  rw [HV2.out] at c0 c1 c2
  have HS := Lib.hid (refsameK_any awT awT awC awC Re Rk Rc (some ⟨g + 1, 0, none⟩) none (some ⟨g + 1 + 1, 0, none⟩) rn rm rc rd rq re 1 0 1 0 1 1 v2 true (decide_eq_true rfl) (by rw [awNodes]; omega) HOW.out.len (by have := HOW.out.len; have h1 : awC.length = 1 := rfl; have h2 : awC.length = rq := HOW.out.len; omega) HOW.out.tree HOW.out.ctx HA.out.len HA.out.tree HA.out.ctx)
  go_wp2_with fail
  rw [← HV2.out]
  refine HS.out.mono ?_
  rintro e v3 ⟨rfl, hb9⟩
  have HA := Lib.hid (HA.out.later hb9)
  have HKc := Lib.hid (HKc.out.later hb9)
  clear hb9 x0 x1 x2 c0 c1 c2
  have c0 := HKc.out.c0
  have c1 := HKc.out.c1
  have c2 := HKc.out.c2
  have HR := Lib.hid (rightK_any awT awC (some ⟨g + 1, 0, none⟩) none (some ⟨g + 1 + 1, 0, none⟩) 1 0 1 0 1 1 v3 (by rw [awNodes]; omega) rfl (by omega) HA.out.tree HA.out.ctx)
  rw [rightKB_iff.2 awRight] at HR
  go_wp2_with fail
  refine HR.out.mono ?_
  rintro e v4 ⟨rfl, hb9⟩
  have HKc := Lib.hid (HKc.out.later hb9)
  clear hb9 c0 c1 c2
  go_wp2_with fail
  go_ret
  exact ⟨rfl, HKc.out.below⟩
set_option maxRecDepth 100000 in
theorem cau_of_trod {H : Type} {enc : TypeId × Value → H} {W : World} {fuel : Nat} {cs : List Value} {x : DataW H × List MemPlace} (h : DataW.trod enc Tryz.prog W 0 (fun _ => true) true fuel 29 cs = some x) (hw : ∀ m ∈ x.1.weights Tryz.prog 29, m ≤ reachBytes) :
    ∃ p : CP, cs = cpV p ∧ RdP W p ∧ LenT reachBytes p.k.1 := by
  obtain ⟨f0, f1, hT, t0, o0, t1, o1⟩ : ∃ f0 f1 : Field, Tryz.prog.underlying 29 = some (.struct #[f0, f1]) ∧ f0.type = 25 ∧ f0.offset = 0 ∧ f1.type = 27 ∧ f1.offset = 2 := ⟨_, _, Tryz.underlying29, rfl, rfl, rfl, rfl⟩
  obtain ⟨xs, n, rfl, rfl, hlen, hxl, hfs⟩ := DataW.trod_struct hT h
  have hc3 : Tryz.prog.cellsOf 29 = 3 := by kernel_rfl
  have hc2 : Tryz.prog.cellsOf 25 = 2 := by kernel_rfl
  have hc1 : Tryz.prog.cellsOf 27 = 1 := by kernel_rfl
  rw [hc3] at hlen
  obtain ⟨c0, c1, c2, rfl⟩ : ∃ c0 c1 c2, cs = [c0, c1, c2] := by
    match cs, hlen with
    | [c0, c1, c2], _ => exact ⟨_, _, _, rfl⟩
  have h0 := hfs 0 f0 rfl
  have h1 := hfs 1 f1 rfl
  rw [t0, o0, hc2, List.getElem?_eq_getElem (by rw [hxl]; simp)] at h0
  rw [t1, o1, hc1, List.getElem?_eq_getElem (by rw [hxl]; simp)] at h1
  simp at h0 h1
  obtain ⟨x0, x1, rfl⟩ : ∃ x0 x1, xs = [x0, x1] := by
    match xs, hxl with
    | [x0, x1], _ => exact ⟨_, _, rfl⟩
  simp at h0 h1
  have hw0 : ∀ m ∈ x0.1.weights Tryz.prog 25, m ≤ reachBytes := fun m hm => hw m (by simp only [DataW.weights, hT]; simp [DataW.weightsEach, t0, t1, hm])
  obtain ⟨t, se, sk, e1, hr, hl⟩ := tree_of_trod types _ h0 hw0
  simp at e1
  obtain ⟨rfl, rfl⟩ := e1
  obtain ⟨A, nn, cc, rfl⟩ : ∃ A nn cc, c2 = .slice A nn cc := by
    rcases DataW.trod_slice Tryz.underlying27 h1 with ⟨e, _⟩ | ⟨a, len, cap, _, _, _, _, e, _⟩ <;> exact ⟨_, _, _, by simpa using e⟩
  obtain ⟨l, hl1, hl2, _⟩ := ctx_of_trod (A := A) (len := nn) (cap := cc) h1
  exact ⟨⟨(t, l), se, sk, ⟨A, nn, cc⟩⟩, rfl, ⟨hr, hl1, hl2⟩, hl⟩
set_option maxRecDepth 100000 in
theorem cauV_of_trod {H : Type} {enc : TypeId × Value → H} {W : World} {b0 : Nat} {v : Value} {d : DataW H} {p : List MemPlace}
    (hv : Value.okWide Tryz.prog W .any b0 29 v) (h : DataW.Trod enc Tryz.prog W 0 (fun _ => true) true 29 v d p) (hw : ∀ m ∈ d.weights Tryz.prog 29, m ≤ reachBytes) :
    ∃ (t : T) (cs : List S3) (Ae Ak Ca : Option Addr) (ne nk ce ck na ca9 : Nat), v = .agg #[.slice Ae ne ce, .slice Ak nk ck, .slice Ca na ca9] ∧ RdP W ⟨(t, cs), ⟨Ae, ne, ce⟩, ⟨Ak, nk, ck⟩, ⟨Ca, na, ca9⟩⟩ ∧ LenT reachBytes t := by
  obtain ⟨cs, rfl, hsz⟩ : ∃ cs, v = .agg cs ∧ cs.size = Tryz.prog.cellsOf 29 := by
    simp only [Value.okWide, Tryz.underlying29] at hv
    obtain ⟨cs, h1, h2, _⟩ := hv
    exact ⟨cs, h1, h2⟩
  obtain ⟨fuel, hf⟩ := h
  obtain ⟨⟨⟨t, l⟩, ⟨Ae, ne, ce⟩, ⟨Ak, nk, ck⟩, ⟨Ca, na, ca9⟩⟩, he, hr, hl⟩ := cau_of_trod hf hw
  refine ⟨t, l, Ae, Ak, Ca, ne, nk, ce, ck, na, ca9, ?_, hr, hl⟩
  have : cs.toList = [.slice Ae ne ce, .slice Ak nk ck, .slice Ca na ca9] := he
  rw [← Array.toArray_toList (xs := cs), this]
theorem same_true {a b : K} (h : RK a) (e : a = b) : sameKB a b = true := by
  unfold sameKB
  rw [rightKB_iff.2 h, decide_eq_true e]
  rfl
end Cs
end Go.Proofs.YtcbclefemcmhpaaGreat
