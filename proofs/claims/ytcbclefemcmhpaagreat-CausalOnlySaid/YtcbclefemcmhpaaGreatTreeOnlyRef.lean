/- Trees: the kids of some keys, and all the others: the document's. -/
import Derived.Test.YtcbclefemcmhpaaGreatG10
import Derived.Test.YtcbclefemcmhpaaGreatG40
import Derived.Test.YtcbclefemcmhpaaGreatTreeBuild
namespace Go.Proofs.YtcbclefemcmhpaaGreat
open Go.ChangeShapes Go.WideShapes Go.ChangeAt Go.RowKit
namespace Tr
open Sp Rw
/-- the argument's box, two for the answers -/
theorem boxT3 (w : World) (Ae Ak : Option Addr) (ne nk ce ck : Nat) : ∃ (W : World) (g q r : Nat), Hid (W = ((w.alloc (.cells #[.slice Ae ne ce, .slice Ak nk ck] 25)).alloc (.cells #[.slice none 0 0, .slice none 0 0] 25)).alloc (.cells #[.slice none 0 0, .slice none 0 0] 25)) ∧ Hid (g = w.heap.size) ∧ Hid (q = g + 1) ∧ Hid (r = g + 1 + 1) ∧ Hid (Kept [(⟨g, 0, none⟩, .slice Ae ne ce), (⟨g, 1, none⟩, .slice Ak nk ck)] w W) ∧ Hid (Kept [(⟨q, 0, none⟩, .slice none 0 0), (⟨q, 1, none⟩, .slice none 0 0), (⟨r, 0, none⟩, .slice none 0 0), (⟨r, 1, none⟩, .slice none 0 0)] w W) ∧ Hid (Free q W) ∧ Hid (Free r W) := by
 have hb : Below w.heap.size w (((w.alloc (.cells #[.slice Ae ne ce, .slice Ak nk ck] 25)).alloc (.cells #[.slice none 0 0, .slice none 0 0] 25)).alloc (.cells #[.slice none 0 0, .slice none 0 0] 25)) := (((Below.refl _ _).alloc (Nat.le_refl _) _).alloc (by simp) _).alloc (by simp; omega) _
 refine ⟨_, _, _, _, rfl, rfl, rfl, rfl, ?_, ?_, ⟨by simp <;> omega, fun j => by go_simp⟩, ⟨by simp, fun j => by go_simp⟩⟩
 ·refine ((Kept.nil_of hb).cons_of ?_).cons_of ?_ <;> go_simp
 ·refine ((((Kept.nil_of hb).cons_of ?_).cons_of ?_).cons_of ?_).cons_of ?_ <;> go_simp
theorem keep_sum (f : ByteArray → Bool) (ks : List (ByteArray × T)) : ((keepK f ks).map fun k => nodes k.2).sum ≤ (ks.map fun k => nodes k.2).sum := by
 induction ks with
 | nil => exact Nat.le_refl _
 | cons k ks ih =>
  unfold keepK at ih ⊢
  rw [List.filter_cons]
  split
  ·rw [List.map_cons, List.map_cons, List.sum_cons, List.sum_cons]; omega
  ·rw [List.map_cons, List.sum_cons]; omega
set_option maxRecDepth 100000 in
set_option maxHeartbeats 4000000 in
theorem refonly_any (t : T) (Ae Ak : Option Addr) (ne nk ce ck : Nat) (l : List ByteArray) (A : Option Addr) (n c : Nat) (w : World) (hl9 : l.length = n) (hn9 : n ≤ 1000) (hrl : Rd w w.heap.size 1 A n c (strs l)) (hz : rightB 5 t = true) (hn : nodes t ≤ 1000) (hr : RdT w w.heap.size t ⟨Ae, ne, ce⟩ ⟨Ak, nk, ck⟩) :
  Calls Tryz.prog 27 #[.agg #[.slice Ae ne ce, .slice Ak nk ck], .slice A n c] w fun e w' => ∃ (Be Bk Ce Ck : Option Addr) (b1 b2 b3 b4 d1 d2 d3 d4 : Nat), e = .returned (.tuple #[.agg #[.slice Be b1 b2, .slice Bk b3 b4], .agg #[.slice Ce d1 d2, .slice Ck d3 d4]]) ∧ RdO w' (fun b => w.heap.size ≤ b) (.mk [] (keepK (fun k => inB l k == true) t.ks)) ⟨Be, b1, b2⟩ ⟨Bk, b3, b4⟩ ∧ RdO w' (fun b => w.heap.size ≤ b) (.mk t.es (keepK (fun k => inB l k == false) t.ks)) ⟨Ce, d1, d2⟩ ⟨Ck, d3, d4⟩ ∧ Below w.heap.size w w' := by
 have HT := Lib.hid (rightB_iff.1 hz)
 have HL := Lib.hid (And.intro hl9 hrl)
 have HN := Lib.hid hn
 have HR := Lib.hid hr
 clear hl9 hrl hz hn hr
 obtain ⟨W, g, q, r, HW, HG, HQ, HRR, HKg, HKq, HFQ, HFR⟩ := boxT3 w Ae Ak ne nk ce ck
 have hwq : w.heap.size ≤ q := by have := HG.out; have := HQ.out; omega
 have hwr : w.heap.size ≤ r := by have := HG.out; have := HRR.out; omega
 have hqr : ¬ q = r := by have := HQ.out; have := HRR.out; omega
 have hqr2 : ¬ r = q := by omega
 have k0 := HKg.out.c0
 have k1 := HKg.out.c1
 go_enter Tryz.func27, Tryz.ntmps27
 go_wp2_with fail
 rw [← HW.out, ← HG.out, ← HRR.out]
 try rw [← HQ.out]
 refine (leaves_any t Ae Ak ne nk ce ck W (by have := HN.out; omega) (RdT.more HKg.out.below.size _ (RdT.below HR.out HKg.out.below))).mono ?_
 rintro e w2 ⟨A3, c3, rfl, hl2, hb2⟩
 obtain ⟨m, hm⟩ : ∃ z, z = (leaves t).length := ⟨_, rfl⟩
 rw [← hm] at hl2 ⊢
 have HL2 := Lib.hid hl2
 have HM := Lib.hid hm
 have hm5 : m ≤ 1000 := by rw [hm]; exact Nat.le_trans (leaves_nodes t) HN.out
 have HKg := Lib.hid (HKg.out.later hb2)
 have HKq := Lib.hid (HKq.out.later hb2)
 have HFQ := Lib.hid (HFQ.out.later hb2)
 have HFR := Lib.hid (HFR.out.later hb2)
 clear hl2 hm hb2 k0 k1
 go_wp2_with fail
 go_loopw [6, 7, 14] (fun s1 s2 i wr => ∃ (k : Nat) (A1 : Option Addr) (n1 c1 : Nat) (lr1 : List (SV × E)) (A2 : Option Addr) (n2 c2 : Nat) (lr2 : List (SV × E)), k ≤ m ∧ s1 = .slice A1 n1 c1 ∧ s2 = .slice A2 n2 c2 ∧ i = .int .i64 k ∧ n1 ≤ k ∧ n2 ≤ k ∧ Hid (Row2 wr w2.heap.size A1 n1 c1 (((leaves t).take k).filter (thoseB l)) lr1) ∧ Hid (Row2 wr w2.heap.size A2 n2 c2 (((leaves t).take k).filter (fun x => !thoseB l x)) lr2) ∧ Hid (Row2.Apart (.slice A1 n1 c1) (.slice A2 n2 c2) ∧ Row2.Apart (.slice A2 n2 c2) (.slice A1 n1 c1)) ∧ Hid (Below w2.heap.size w2 wr)) (fun _ _ i _ => m - (intOf i).toNat)
 case atStart => exact ⟨0, none, 0, 0, [], none, 0, 0, [], by omega, rfl, rfl, rfl, by omega, by omega, Row2.nil _ _, Row2.nil _ _, ⟨fun b h => (by cases h), fun b h => (by cases h)⟩, Below.refl _ _⟩
 case round =>
  obtain ⟨k, A1, n1, c1, lr1, A2, n2, c2, lr2, hk, rfl, rfl, rfl, hn1, hn2, HR1, HR2, HAP, HBW⟩ := hrel
  by_cases hlt : k < m
  ·have hkl : k < (leaves t).length := by rw [← HM.out]; exact hlt
   have HBS : Hid (w2.heap.size ≤ wr.heap.size) := HBW.out.size
   obtain ⟨b, o, rfl, hb, hc⟩ := LfRd.at_ HL2.out (by omega)
   obtain ⟨⟨Ap, np, cp⟩, x0, x1, x2, x3, x4, hpl, hpx⟩ := hc k hkl
   dsimp only at x0 hpl hpx
   have x0 := (HBW.out.cell (p := ⟨b, o + k * 5, none⟩) hb).trans x0
   have x1 := (HBW.out.cell (p := ⟨b, o + k * 5 + 1, none⟩) hb).trans x1
   have x2 := (HBW.out.cell (p := ⟨b, o + k * 5 + 2, none⟩) hb).trans x2
   have x3 := (HBW.out.cell (p := ⟨b, o + k * 5 + 3, none⟩) hb).trans x3
   have x4 := (HBW.out.cell (p := ⟨b, o + k * 5 + 4, none⟩) hb).trans x4
   obtain ⟨lf, hlf⟩ : ∃ z, z = (leaves t)[k] := ⟨_, rfl⟩
   rw [← hlf] at x1 x2 x3 x4 hpl hpx
   obtain ⟨pa, ea, en, et, ev⟩ := lf
   dsimp only at x1 x2 x3 x4 hpl hpx
   have HLF := Lib.hid hlf
   have HPL := Lib.hid hpl
   have hpx2 := hpx.keep HBW.out.size (fun b hlt _ => HBW.out.block b hlt)
   have HPX : Hid (RX wr (fun b => b < w2.heap.size) 1 Ap np cp (strs pa)) := hpx2
   clear hc hlf hpl hpx hpx2
   cases pa with
   | nil =>
    have hnp : np = 0 := by rw [← HPL.out]; rfl
    subst hnp
    have HTB : Hid (thoseB l (([] : List ByteArray), (⟨ea, en, et, ev⟩ : E)) = false) := rfl
    obtain ⟨A6, c6, w6, r6, h6, h7, ap6, ap7, hb6⟩ := Row2.push (e := ⟨ea, en, et, ev⟩) (s := ⟨_, _, cp⟩) HR2.out HR1.out HAP.out.2 HBS.out HPL.out HPX.out (by omega)
    dsimp only at r6
    have Hrun := Lib.hid r6
    have H6 := Lib.hid h6
    have H7 := Lib.hid h7
    have HAP6 : Hid (Row2.Apart (.slice A1 n1 c1) (.slice A6 (n2 + 1) c6) ∧ Row2.Apart (.slice A6 (n2 + 1) c6) (.slice A1 n1 c1)) := ⟨ap7, ap6⟩
    have HB6 : Hid (Below w2.heap.size w2 w6) := HBW.out.trans hb6
    clear r6 h6 h7 ap6 ap7 hb6
    have HF1 : Hid (((leaves t).take (k + 1)).filter (thoseB l) = ((leaves t).take k).filter (thoseB l) ++ []) := by unfold Hid; rw [filter_succ hkl, ← HLF.out, HTB.out]; rfl
    have HF2 : Hid (((leaves t).take (k + 1)).filter (fun x => !thoseB l x) = ((leaves t).take k).filter (fun x => !thoseB l x) ++ [([], (⟨ea, en, et, ev⟩ : E))]) := by unfold Hid; rw [filter_succ hkl, ← HLF.out, HTB.out]; rfl
    have HF1 : Hid (((leaves t).take (k + 1)).filter (thoseB l) = ((leaves t).take k).filter (thoseB l)) := HF1.out.trans (List.append_nil _)
    go_wp2_with (at_builtin; refine Lib.wpList_append_run _ rfl _ _ _ _ rfl _ _ rfl rfl _ _ Hrun.out ?_)
    go_roundw
    case rel => exact ⟨k + 1, A1, n1, c1, lr1, A6, n2 + 1, c6, _, by omega, rfl, rfl, by go_num, by omega, by omega, by rw [HF1.out]; exact H7.out, by rw [HF2.out]; exact H6.out, HAP6.out, HB6.out⟩
    case measure => simp [intOf]; omega
   | cons k0 pa =>
    have hnp : 0 < np := by rw [← HPL.out]; exact Nat.succ_pos _
    have fnp : decide ((0 : Int) < (np : Int)) = true := decide_eq_true (by omega)
    obtain ⟨b5, o5, rfl, _, hb5, hc5⟩ := HPX.out.at_ hnp
    have y0 := hc5 0 (.string k0) rfl
    rw [Nat.add_zero] at y0
    obtain ⟨z, hz⟩ : ∃ z, inB l k0 = z := ⟨_, rfl⟩
    have hbw9 : Below w.heap.size w wr := HKg.out.below.trans (HBW.out.mono HKg.out.below.size)
    have HIN := Lib.hid (refin_any l A n c k0 wr z hz HL.out.1 (by omega) ((HL.out.2.below hbw9).more hbw9.size))
    have HTB : Hid (thoseB l (k0 :: pa, (⟨ea, en, et, ev⟩ : E)) = z) := hz
    clear hc5 hz hbw9
    go_wp2_with fail
    refine HIN.out.mono ?_
    rintro e w9 ⟨rfl, hw9⟩
    subst hw9
    cases z with
    | true =>
     obtain ⟨A6, c6, w6, r6, h6, h7, ap6, ap7, hb6⟩ := Row2.push (e := ⟨ea, en, et, ev⟩) (s := ⟨_, _, cp⟩) HR1.out HR2.out HAP.out.1 HBS.out HPL.out HPX.out (by omega)
     dsimp only at r6
     have Hrun := Lib.hid r6
     have H6 := Lib.hid h6
     have H7 := Lib.hid h7
     have HAP6 : Hid (Row2.Apart (.slice A6 (n1 + 1) c6) (.slice A2 n2 c2) ∧ Row2.Apart (.slice A2 n2 c2) (.slice A6 (n1 + 1) c6)) := ⟨ap6, ap7⟩
     have HB6 : Hid (Below w2.heap.size w2 w6) := HBW.out.trans hb6
     clear r6 h6 h7 ap6 ap7 hb6
     have HF1 : Hid (((leaves t).take (k + 1)).filter (thoseB l) = ((leaves t).take k).filter (thoseB l) ++ [(k0 :: pa, (⟨ea, en, et, ev⟩ : E))]) := by unfold Hid; rw [filter_succ hkl, ← HLF.out, HTB.out]; rfl
     have HF2 : Hid (((leaves t).take (k + 1)).filter (fun x => !thoseB l x) = ((leaves t).take k).filter (fun x => !thoseB l x) ++ []) := by unfold Hid; rw [filter_succ hkl, ← HLF.out, HTB.out]; rfl
     have HF2 : Hid (((leaves t).take (k + 1)).filter (fun x => !thoseB l x) = ((leaves t).take k).filter (fun x => !thoseB l x)) := HF2.out.trans (List.append_nil _)
     go_wp2_with (at_builtin; refine Lib.wpList_append_run _ rfl _ _ _ _ rfl _ _ rfl rfl _ _ Hrun.out ?_)
     go_roundw
     case rel => exact ⟨k + 1, A6, n1 + 1, c6, _, A2, n2, c2, lr2, by omega, rfl, rfl, by go_num, by omega, by omega, by rw [HF1.out]; exact H6.out, by rw [HF2.out]; exact H7.out, HAP6.out, HB6.out⟩
     case measure => simp [intOf]; omega
    | false =>
     obtain ⟨A6, c6, w6, r6, h6, h7, ap6, ap7, hb6⟩ := Row2.push (e := ⟨ea, en, et, ev⟩) (s := ⟨_, _, cp⟩) HR2.out HR1.out HAP.out.2 HBS.out HPL.out HPX.out (by omega)
     dsimp only at r6
     have Hrun := Lib.hid r6
     have H6 := Lib.hid h6
     have H7 := Lib.hid h7
     have HAP6 : Hid (Row2.Apart (.slice A1 n1 c1) (.slice A6 (n2 + 1) c6) ∧ Row2.Apart (.slice A6 (n2 + 1) c6) (.slice A1 n1 c1)) := ⟨ap7, ap6⟩
     have HB6 : Hid (Below w2.heap.size w2 w6) := HBW.out.trans hb6
     clear r6 h6 h7 ap6 ap7 hb6
     have HF1 : Hid (((leaves t).take (k + 1)).filter (thoseB l) = ((leaves t).take k).filter (thoseB l) ++ []) := by unfold Hid; rw [filter_succ hkl, ← HLF.out, HTB.out]; rfl
     have HF2 : Hid (((leaves t).take (k + 1)).filter (fun x => !thoseB l x) = ((leaves t).take k).filter (fun x => !thoseB l x) ++ [(k0 :: pa, (⟨ea, en, et, ev⟩ : E))]) := by unfold Hid; rw [filter_succ hkl, ← HLF.out, HTB.out]; rfl
     have HF1 : Hid (((leaves t).take (k + 1)).filter (thoseB l) = ((leaves t).take k).filter (thoseB l)) := HF1.out.trans (List.append_nil _)
     go_wp2_with (at_builtin; refine Lib.wpList_append_run _ rfl _ _ _ _ rfl _ _ rfl rfl _ _ Hrun.out ?_)
     go_roundw
     case rel => exact ⟨k + 1, A1, n1, c1, lr1, A6, n2 + 1, c6, _, by omega, rfl, rfl, by go_num, by omega, by omega, by rw [HF1.out]; exact H7.out, by rw [HF2.out]; exact H6.out, HAP6.out, HB6.out⟩
     case measure => simp [intOf]; omega
  ·obtain rfl : k = m := by omega
   have HBS := HBW.out.size
   have hf1 : ((leaves t).take k).filter (thoseB l) = leaves (.mk [] (keepK (fun k => inB l k == true) t.ks)) := by
    rw [List.take_of_length_le (by rw [← HM.out]; omega)]
    obtain ⟨es, ks⟩ := t
    exact those_leaves l es ks
   have hf2 : ((leaves t).take k).filter (fun x => !thoseB l x) = leaves (.mk t.es (keepK (fun k => inB l k == false) t.ks)) := by
    rw [List.take_of_length_le (by rw [← HM.out]; omega)]
    obtain ⟨es, ks⟩ := t
    exact others_leaves l es ks
   have hT : ∃ es ks, t = .mk es ks := ⟨t.es, t.ks, (T.eta t).symm⟩
   have hrt1 : RightT 5 (.mk [] (keepK (fun k => inB l k == true) t.ks)) := by
    obtain ⟨es, ks, rfl⟩ := hT
    have h := RightT.keep (d := 4) HT.out (fun k => inB l k == true)
    exact ⟨by simp, by simp, h.2.2.1, h.2.2.2⟩
   have hrt2 : RightT 5 (.mk t.es (keepK (fun k => inB l k == false) t.ks)) := by
    obtain ⟨es, ks, rfl⟩ := hT
    exact RightT.keep (d := 4) HT.out (fun k => inB l k == false)
   have hnk : ∀ (es2 : List E) (f : ByteArray → Bool), es2.length ≤ t.es.length → nodes (.mk es2 (keepK f t.ks)) ≤ 1000 := fun es2 f h => by
    obtain ⟨es, ks, rfl⟩ := hT
    have h1 := HN.out
    rw [nodes_mk] at h1 ⊢
    have h2 : (keepK f ks).length ≤ ks.length := List.length_filter_le _ _
    have h3 : ((keepK f ks).map fun k => nodes k.2).sum ≤ (ks.map fun k => nodes k.2).sum := keep_sum f ks
    have h4 : es2.length ≤ es.length := h
    show es2.length + (keepK f ks).length + ((keepK f ks).map fun k => nodes k.2).sum ≤ 1000
    omega
   have HD1 := Lib.hid (HR1.out.rd HBS)
   have HD2 := Lib.hid (HR2.out.rd HBS)
   rw [hf1] at HD1
   rw [hf2] at HD2
   obtain ⟨t1, ht1⟩ : ∃ x, x = T.mk [] (keepK (fun k => inB l k == true) t.ks) := ⟨_, rfl⟩
   obtain ⟨t2, ht2⟩ : ∃ x, x = T.mk t.es (keepK (fun k => inB l k == false) t.ks) := ⟨_, rfl⟩
   have hn1' := hnk [] (fun k => inB l k == true) (Nat.zero_le _)
   have hn2' := hnk t.es (fun k => inB l k == false) (Nat.le_refl _)
   have HT1 := Lib.hid ht1
   have HT2 := Lib.hid ht2
   rw [← ht1] at hrt1 hn1' HD1
   rw [← ht2] at hrt2 hn2' HD2
   have HB1 := Lib.hid (build_any 5 t1 hrt1 A1 n1 c1 wr (by omega) HD1.out)
   have HRT2 := Lib.hid (And.intro hrt2 hn2')
   have HKg := Lib.hid (HKg.out.later HBW.out)
   have HKq := Lib.hid (HKq.out.later HBW.out)
   have HFQ := Lib.hid (HFQ.out.later HBW.out)
   have HFR := Lib.hid (HFR.out.later HBW.out)
   obtain ⟨B9, hB9⟩ : ∃ z, z = wr.heap.size := ⟨_, rfl⟩
   have hqB : q < B9 := by rw [hB9]; exact HFQ.out.1
   have hrB : r < B9 := by rw [hB9]; exact HFR.out.1
   have HWB : Hid (w.heap.size ≤ B9) := by unfold Hid; rw [hB9]; exact HKg.out.below.size
   have HBB := Lib.hid hB9
   clear hf1 hf2 hT hrt1 hrt2 hnk ht1 ht2 hn1' hn2' hB9 HBS
   go_wp2_with fail
   refine HB1.out.mono ?_
   rintro e v1 ⟨Be, b1, b2, Bk, b3, b4, rfl, hro1, hb9⟩
   have HO1 : Hid (RdO v1 (fun b => B9 ≤ b) t1 ⟨Be, b1, b2⟩ ⟨Bk, b3, b4⟩) := by unfold Hid; rw [HBB.out]; exact hro1
   have HD2 := Lib.hid (HD2.out.later hb9)
   have HKq := Lib.hid (HKq.out.later hb9)
   have HFQ := Lib.hid (HFQ.out.later hb9)
   have HFR := Lib.hid (HFR.out.later hb9)
   have hB1 : B9 ≤ v1.heap.size := by rw [HBB.out]; exact hb9.size
   clear hro1 hb9
   have HB2 := Lib.hid (build_any 5 t2 HRT2.out.1 A2 n2 c2 v1 (by have := HRT2.out.2; omega) HD2.out)
   go_wp2_with fail
   refine HB2.out.mono ?_
   rintro e v2 ⟨Ce, d1, d2, Ck, d3, d4, rfl, hro2, hb9⟩
   have HO1 := Lib.hid (RdO.later HO1.out hb9)
   have HO2 : Hid (RdO v2 (fun b => B9 ≤ b) t2 ⟨Ce, d1, d2⟩ ⟨Ck, d3, d4⟩) := RdO.mono (fun b hb _ => by omega) _ hro2
   have HKq := Lib.hid (HKq.out.later hb9)
   have HFQ := Lib.hid (HFQ.out.later hb9)
   have HFR := Lib.hid (HFR.out.later hb9)
   clear hro2 hb9
   have z0 := HKq.out.c0
   have z1 := HKq.out.c1
   have z2 := HKq.out.c2
   have z3 := HKq.out.c3
   have m0 := HFQ.out.2 0
   have m1 := HFQ.out.2 1
   have m2 := HFR.out.2 0
   have m3 := HFR.out.2 1
   obtain ⟨w9, hw9⟩ : ∃ W, W = (((v2.setCell ⟨q, 0, none⟩ (.slice Be b1 b2)).setCell ⟨q, 1, none⟩ (.slice Bk b3 b4)).setCell ⟨r, 0, none⟩ (.slice Ce d1 d2)).setCell ⟨r, 1, none⟩ (.slice Ck d3 d4) := ⟨_, rfl⟩
   have hkp : ∀ b, B9 ≤ b → w9.heap[b]? = v2.heap[b]? := fun b hb => by
    rw [hw9]
    exact (((Below.heap_setCell _ ⟨r, 1, none⟩ _ b (fun e => by have h : b = r := e; omega)).trans (Below.heap_setCell _ ⟨r, 0, none⟩ _ b (fun e => by have h : b = r := e; omega))).trans (Below.heap_setCell _ ⟨q, 1, none⟩ _ b (fun e => by have h : b = q := e; omega))).trans (Below.heap_setCell _ ⟨q, 0, none⟩ _ b (fun e => by have h : b = q := e; omega))
   have hsz : v2.heap.size ≤ w9.heap.size := by rw [hw9]; simp [World.setCell]
   have HP1 : Hid (RdO w9 (fun b => w.heap.size ≤ b) t1 ⟨Be, b1, b2⟩ ⟨Bk, b3, b4⟩) := RdO.mono (fun b hb _ => Nat.le_trans HWB.out hb) _ (RdO.keep hsz (fun b hb _ => hkp b hb) _ HO1.out)
   have HP2 : Hid (RdO w9 (fun b => w.heap.size ≤ b) t2 ⟨Ce, d1, d2⟩ ⟨Ck, d3, d4⟩) := RdO.mono (fun b hb _ => Nat.le_trans HWB.out hb) _ (RdO.keep hsz (fun b hb _ => hkp b hb) _ HO2.out)
   have HB9 : Hid (Below w.heap.size w w9) := by
    unfold Hid
    rw [hw9]
    exact (((HKq.out.below.setCell (p := ⟨q, 0, none⟩) hwq _).setCell (p := ⟨q, 1, none⟩) hwq _).setCell (p := ⟨r, 0, none⟩) hwr _).setCell (p := ⟨r, 1, none⟩) hwr _
   have j0 : w9.cell? ⟨q, 0, none⟩ = some (.slice Be b1 b2) := by rw [hw9]; go_simp
   have j1 : w9.cell? ⟨q, 1, none⟩ = some (.slice Bk b3 b4) := by rw [hw9]; go_simp
   have j2 : w9.cell? ⟨r, 0, none⟩ = some (.slice Ce d1 d2) := by rw [hw9]; go_simp
   have j3 : w9.cell? ⟨r, 1, none⟩ = some (.slice Ck d3 d4) := by rw [hw9]; go_simp
   have HW9 := Lib.hid hw9
   clear hw9 hkp hsz
   go_wp2_with fail
   rw [← HW9.out]
   refine bodyPost_ret (v := .tuple #[.agg #[.slice Be b1 b2, .slice Bk b3 b4], .agg #[.slice Ce d1 d2, .slice Ck d3 d4]]) (by simp [results, Tryz.results27, go_sem, j0, j1, j2, j3]) rfl ⟨Be, Bk, Ce, Ck, b1, b2, b3, b4, d1, d2, d3, d4, rfl, by rw [← HT1.out]; exact HP1.out, by rw [← HT2.out]; exact HP2.out, HB9.out⟩
end Tr
end Go.Proofs.YtcbclefemcmhpaaGreat
