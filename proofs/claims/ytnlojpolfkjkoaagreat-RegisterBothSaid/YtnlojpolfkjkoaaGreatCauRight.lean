/- What may be known: the program's, and the document's. -/
import Derived.Test.YtnlojpolfkjkoaaGreatG00
import Derived.Test.YtnlojpolfkjkoaaGreatCauTrees
import Derived.Test.YtnlojpolfkjkoaaGreatTreeDots
import Derived.Test.YtnlojpolfkjkoaaGreatG50
import Derived.Test.YtnlojpolfkjkoaaGreatTreeRefRight
import Derived.Test.YtnlojpolfkjkoaaGreatG20
namespace Go.Proofs.YtnlojpolfkjkoaaGreat
open Go.ChangeShapes Go.WideShapes Go.ChangeAt Go.RowKit
namespace Cs
open Tr Cx Sp Rw Classical
theorem Calls.some {P : Program} {f : FuncId} {args : Array Value} {w : World} {R : Ending → World → Prop} (h : Calls P f args w R) : ∃ e w', R e w' := by
 obtain ⟨e, w', _, hr, _⟩ := h []; exact ⟨e, w', hr⟩
theorem empty_of {l : List S3} (hl : RightC l) (h : ∀ d n, Cen d → hasC l d n = false) : l = [] := extC hl right_noneC fun d n hd => by rw [h d n hd]; rfl
theorem rightKB_of {t : T} {cs u l : List S3} (ht : rightB 5 t = true) (hc : RightC cs) (hu : OfC (dl t) u) (hl : PutC minF u cs l) : rightKB (t, cs) = decide (l = []) := by
 have hiff : RK (t, cs) ↔ l = [] := by
  constructor
  ·intro h
   refine empty_of hl.right fun d n hd => ?_; rw [hl.has d n hd]; unfold minF
   cases h1 : hasC u d n with
   | false => rfl
   | true =>
    have h2 := (hu.has d n hd).1 h1; unfold dl at h2; obtain ⟨x, hx, he⟩ := List.mem_map.1 h2; have h3 := h.has x hx; have e1 : x.2.a = d := congrArg Prod.fst he; have e2 : x.2.n = n := congrArg Prod.snd he; rw [e1, e2] at h3; rw [show hasC cs d n = true from h3]; rfl
  ·rintro rfl
   refine ⟨rightB_iff.1 ht, hc, fun x hx => ?_⟩; have hm : (x.2.a, x.2.n) ∈ dl t := List.mem_map.2 ⟨x, hx, rfl⟩; have hd := (good_num (good_dl (rightB_iff.1 ht) _ hm)).1; have h1 := (hu.has x.2.a x.2.n hd).2 hm; have h2 := hl.has x.2.a x.2.n hd; rw [h1] at h2; have h3 : hasC [] x.2.a x.2.n = false := rfl; rw [h3] at h2; show hasC cs x.2.a x.2.n = true
   cases h4 : hasC cs x.2.a x.2.n with
   | true => rfl
   | false => rw [h4] at h2; cases h2
 unfold rightKB
 by_cases h : l = []
 ·rw [decide_eq_true h]
  exact decide_eq_true (hiff.2 h)
 ·rw [decide_eq_false h]
  exact decide_eq_false fun h2 => h (hiff.1 h2)
theorem rightKB_noT {t : T} {cs : List S3} (h : rightB 5 t = false) : rightKB (t, cs) = false := decide_eq_false fun h2 => by
 have h3 := rightB_iff.2 h2.tree; rw [h] at h3
 cases h3
theorem rightKB_noC {t : T} {cs : List S3} (h : ¬ RightC cs) : rightKB (t, cs) = false := decide_eq_false fun h2 => h h2.ctx
theorem boxC1 (w : World) (Ae Ak Ca : Option Addr) (ne nk ce ck na ca9 : Nat) : ∃ (W : World) (p : Nat), Hid (W = w.alloc (.cells #[.slice Ae ne ce, .slice Ak nk ck, .slice Ca na ca9] 33)) ∧ Hid (p = w.heap.size) ∧ Hid (Kept [(⟨p, 0, none⟩, .slice Ae ne ce), (⟨p, 1, none⟩, .slice Ak nk ck), (⟨p, 2, none⟩, .slice Ca na ca9)] w W) := by
 refine ⟨_, _, rfl, rfl, ?_⟩; have h0 := Kept.nil_of (Dt.box_below w #[.slice Ae ne ce, .slice Ak nk ck, .slice Ca na ca9] 33)
 refine ((h0.cons_of ?_).cons_of ?_).cons_of ?_ <;> go_simp
set_option maxRecDepth 100000 in
set_option maxHeartbeats 4000000 in
theorem rightK_any (t : T) (cs : List S3) (Ae Ak Ca : Option Addr) (ne nk ce ck na ca9 : Nat) (w : World) (hn : nodes t ≤ 1000) (hl : cs.length = na) (hna : na ≤ 1000) (hr : RdT w w.heap.size t ⟨Ae, ne, ce⟩ ⟨Ak, nk, ck⟩) (hc : Rd w w.heap.size 3 Ca na ca9 (spsC cs)) :
  Calls Tryz.prog 37 #[.agg #[.slice Ae ne ce, .slice Ak nk ck, .slice Ca na ca9]] w fun e w' => e = .returned (.bool (rightKB (t, cs))) ∧ Below w.heap.size w w' := by
 obtain ⟨z, hz⟩ : ∃ z, rightKB (t, cs) = z := ⟨_, rfl⟩; rw [hz]; have HZ := Lib.hid hz; have HR := Lib.hid (And.intro hr (And.intro hl hc)); have HN := Lib.hid hn; clear hz hr hl hc hn; obtain ⟨W, p, HW, HP, HK⟩ := boxC1 w Ae Ak Ca ne nk ce ck na ca9; have hb := HK.out.below; have c0 := HK.out.c0; have c1 := HK.out.c1; have c2 := HK.out.c2; have HRT := Lib.hid (RdT.more hb.size _ (RdT.below HR.out.1 hb)); clear hb; go_enter Tryz.func37, Tryz.ntmps37; go_wp2_with fail; rw [← HP.out, ← HW.out]
 cases hb : rightB 5 t with
 | false =>
  obtain rfl : z = false := by rw [← HZ.out]; exact rightKB_noT hb
  refine (dotsT_bad t Ae Ak ne nk ce ck W hb (LenT.few (by have := HN.out; omega)) HRT.out).mono ?_; rintro e w1 ⟨rfl, hb1⟩; have HB1 := Lib.hid (HK.out.below.trans (hb1.mono HK.out.below.size)); clear hb1 c0 c1 c2 hb; go_wp2_with fail; go_ret; exact ⟨rfl, HB1.out⟩
 | true =>
  refine (dotsT_any t Ae Ak ne nk ce ck W hb (LenT.few (by have := HN.out; omega)) HN.out HRT.out).mono ?_; rintro e w1 ⟨u, q, A, c, rfl, HUL, HOF, hq, HRU, hb1⟩; have HK1 := Lib.hid (HK.out.later hb1); have hcr := (HR.out.2.2.below HK1.out.below).more HK1.out.below.size; have HT := Lib.hid hb; clear hb1 c0 c1 c2 hb; have c2 := HK1.out.c2
  by_cases hc : RightC cs
  ·have HLQ := Lib.hid (leqC_any u cs q na A Ca c ca9 w1 HUL.out HR.out.2.1 (by have := HN.out; omega) (by omega) HRU.out hcr HOF.out.right hc)
   have HC := Lib.hid hc; clear hcr hc; go_wp2_with fail; refine HLQ.out.mono ?_; rintro e w2 ⟨l, hpl, rfl, hb2⟩; have HB2 := Lib.hid (HK1.out.below.trans (hb2.mono HK1.out.below.size)); obtain ⟨y, hy⟩ : ∃ y, decide (l = []) = y := ⟨_, rfl⟩; rw [hy]
   have hzy : z = y := by rw [← HZ.out, ← hy]; exact rightKB_of HT.out HC.out HOF.out hpl
   have HZY := Lib.hid hzy; clear hpl hb2 hy hzy; go_wp2_with fail; go_ret; exact ⟨by rw [HZY.out]; try rfl, HB2.out⟩
  ·obtain rfl : z = false := by rw [← HZ.out]; exact rightKB_noC hc
   have HLQ := Lib.hid (leqC_bad u cs q na A Ca c ca9 w1 HUL.out HR.out.2.1 (by have := HN.out; omega) (by omega) HRU.out hcr (by rw [rightCB_false hc, Bool.and_false])); clear hcr hc; go_wp2_with fail; refine HLQ.out.mono ?_; rintro e w2 ⟨rfl, hb2⟩; have HB2 := Lib.hid (HK1.out.below.trans (hb2.mono HK1.out.below.size)); clear hb2; go_wp2_with fail; go_ret; exact ⟨rfl, HB2.out⟩
end Cs
end Go.Proofs.YtnlojpolfkjkoaaGreat
