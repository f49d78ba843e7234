/- A copy: the document's; what may be written over. -/
import Derived.Test.YtcbclefemcmhpaaGreatG00
import Derived.Test.YtcbclefemcmhpaaGreatCauKit
import Derived.Test.YtcbclefemcmhpaaGreatCauMore
import Derived.Test.YtcbclefemcmhpaaGreatG10
import Derived.Test.YtcbclefemcmhpaaGreatG01
import Derived.Test.YtcbclefemcmhpaaGreatG20
namespace Go.Proofs.YtcbclefemcmhpaaGreat
open Go.ChangeShapes Go.WideShapes Go.ChangeAt Go.RowKit
namespace Cs
open Tr Cx Sp Rw Classical
set_option maxRecDepth 100000 in
theorem appsO {w : World} {base n m c c' : Nat} {A A' : Option Addr} {xs ys : List S3} (ho : Own w base 55 3 A n c (spsC xs)) (hr : Rd w w.heap.size 3 A' m c' (spsC ys)) (hn : n + m ≤ 1000000) (hb : base ≤ w.heap.size) :
  ∃ A2 c2 w2, (Builtin.append_ #[27, 27] 27 #[.slice A n c, .slice A' m c']).run Tryz.prog w = .ok (.slice A2 (n + m) c2) w2 ∧ Own w2 base 55 3 A2 (n + m) c2 (spsC (xs ++ ys)) ∧ Below base w w2 ∧ w.heap.size ≤ w2.heap.size ∧ ∀ b, (Value.slice A n c).ownBlock ≠ some b → b < w.heap.size → w2.heap[b]? = w.heap[b]? := by
 obtain ⟨i0, hi0, hz0, hz1, hz2⟩ := info_of Cx.infoS
 obtain ⟨v', w', h1, h2, h3, h4⟩ := run_app (P := Tryz.prog) w base 27 27 55 i0 _ 3 24 Tryz.underlying27 hi0 hz0 hz1 hz2 rfl (by omega) ho.row hr hn (by omega) hb
 rw [← spsC_append] at h2
 obtain ⟨A2, c2, rfl, h5⟩ := Own.of_row h2 (spsC_one _)
 exact ⟨A2, c2, w', h1, h5, (Below.refl base w).grown h3 hb (fun k hk => (ho.row.lt k hk).1), h3.size, fun b hb2 hlt => h3.block b hlt (fun e => hb2 e.symm)⟩
set_option maxRecDepth 100000 in
set_option maxHeartbeats 4000000 in
theorem refcloneK_any (t : T) (cs : List S3) (Ae Ak Ca : Option Addr) (ne nk ce ck na ca9 : Nat) (w : World) (hn : nodes t ≤ 1000) (hl : cs.length = na) (hna : na ≤ 1000) (hr : RdT w w.heap.size t ⟨Ae, ne, ce⟩ ⟨Ak, nk, ck⟩) (hc : Rd w w.heap.size 3 Ca na ca9 (spsC cs)) :
  Calls Tryz.prog 30 #[.agg #[.slice Ae ne ce, .slice Ak nk ck, .slice Ca na ca9]] w (CausIs (t, cs) w) := by
 have HA := Lib.hid (And.intro hn (And.intro hl (And.intro hr hc)))
 clear hn hl hr hc
 obtain ⟨W, p, r, HW, HP, HR, HKc, HKR, HFR⟩ := boxC2r w Ae Ak Ca ne nk ce ck na ca9
 have hwr : w.heap.size ≤ r := by have := HP.out; have := HR.out; omega
 have hpr : p < r := by have := HR.out; omega
 go_enter Tryz.func30, Tryz.ntmps30
 go_wp2_with fail
 rw [← HW.out, ← HP.out]
 try rw [← HR.out]
 refine wp_region_held_drew (S := fun W => W.cell? ⟨p, 0, none⟩ = some (.slice Ae ne ce) ∧ W.cell? ⟨p, 1, none⟩ = some (.slice Ak nk ck) ∧ W.cell? ⟨p, 2, none⟩ = some (.slice Ca na ca9)) (by kernel_rfl) (by have h9 := HKc.out.drew; exact ⟨h9.c0, h9.c1, h9.c2⟩) (fun hHeld => ?_)
 obtain ⟨w1, hw1⟩ : ∃ v, v = W.drew := ⟨_, rfl⟩
 have hb9 : Below W.heap.size W w1 := by rw [hw1]; exact (Below.refl _ _).drew
 have HKc := Lib.hid (HKc.out.later hb9)
 have HKR := Lib.hid (HKR.out.later hb9)
 have HFR := Lib.hid (HFR.out.later hb9)
 obtain ⟨B1, hB1⟩ : ∃ z, z = w1.heap.size := ⟨_, rfl⟩
 have hrB : r < B1 := by rw [hB1]; exact HFR.out.1
 have HWB : Hid (w.heap.size ≤ B1) := by unfold Hid; rw [hB1]; exact HKc.out.below.size
 rw [← hw1] at hHeld ⊢
 clear hw1 hb9
 refine Tk 0 3 ?_
 refine Tk 1 4 ?_
 refine Tk 4 7 ?_
 refine Tk 5 8 ?_
 refine wpAnyH_ready (rs := [2, 3]) (by kernel_rfl) (by simp) ?_
 refine AllReadyH.cons (o := ⟨some 5, _, _, _, _, _⟩) rfl (fun K hK => ?_) (AllReadyH.cons (o := ⟨some 6, _, _, _, _, _⟩) rfl (fun K hK => ?_) (AllReadyH.nil))
 ·go_simp
  (go_at_call 57; refine (refclone_any t Ae Ak ne nk ce ck w1 (by have := HA.out.1; omega) (RdT.more HKc.out.below.size _ (RdT.below HA.out.2.2.1 HKc.out.below))).mono ?_)
  rintro e v2 ⟨Re, rn, Rk, rm, rfl, hro, hb9⟩
  have HRO : Hid (RdO v2 (fun b => B1 ≤ b) t ⟨Re, ne, rn⟩ ⟨Rk, nk, rm⟩) := RdO.mono (fun b hb _ => by omega) _ hro
  have hB1Y : B1 ≤ v2.heap.size := by have := hb9.size; omega
  have HKc := Lib.hid (HKc.out.later hb9)
  have HKR := Lib.hid (HKR.out.later hb9)
  have HFR := Lib.hid (HFR.out.later hb9)
  clear hro hb9
  refine hK.out _ _ ?_ (fun hHeld2 => ?_)
  ·exact ⟨HKc.out.c0, HKc.out.c1, HKc.out.c2⟩
  clear hK K hHeld
  have hHeld := hHeld2
  clear hHeld2
  try simp only [Act.put, List.setIfInBounds_toArray, List.set_cons_zero, List.set_cons_succ]
  refine wpAnyH_ready (rs := [3]) (by kernel_rfl) (by simp) ?_
  refine AllReadyH.cons (o := ⟨some 6, _, _, _, _, _⟩) rfl (fun K hK => ?_) AllReadyH.nil
  go_simp
  refine hK.out _ _ ?_ (fun hHeld2 => ?_)
  ·exact ⟨(HKc.out.alloc _).c0, (HKc.out.alloc _).c1, (HKc.out.alloc _).c2⟩
  clear hK K hHeld
  have hHeld := hHeld2
  clear hHeld2
  obtain ⟨p0, hp0⟩ : ∃ g, g = v2.heap.size := ⟨_, rfl⟩
  obtain ⟨v3, hv3⟩ : ∃ W, W = v2.alloc (.cells #[] 55) := ⟨_, rfl⟩
  have hb9 : Below v2.heap.size v2 v3 := by rw [hv3]; exact (Below.refl _ _).alloc (Nat.le_refl _) _
  have HE : Hid (Own v3 B1 55 3 (some ⟨p0, 0, none⟩) 0 0 (spsC [])) := by
   unfold Hid
   rw [hv3, hp0]
   exact ⟨⟨rfl, .inr ⟨v2.heap.size, 0, #[], rfl, by omega, heap_alloc_new _ _, Nat.le_refl _, by simp [maxLen], rfl, rfl⟩⟩, by simp [spsC]⟩
  have hp3 : p0 < v3.heap.size := by rw [hv3, hp0]; simp
  have HRO : Hid (RdO v2 (fun b => B1 ≤ b ∧ b ≠ p0) t ⟨Re, ne, rn⟩ ⟨Rk, nk, rm⟩) := RdO.mono (fun b hb hlt => ⟨hb, by omega⟩) _ HRO.out
  have HRO := Lib.hid (RdO.later HRO.out hb9)
  have hB3 : B1 ≤ v3.heap.size := by have := hb9.size; omega
  have HKc := Lib.hid (HKc.out.later hb9)
  have HKR := Lib.hid (HKR.out.later hb9)
  have HFR := Lib.hid (HFR.out.later hb9)
  (try rw [← hv3] at hHeld)
  rw [← hp0, ← hv3]
  clear hp0 hv3 hb9
  have hB1Y := hB3
  obtain ⟨A6, c6, w6, h1, h2, h3, h4, h5⟩ := appsO (w := v3) (base := B1) (n := 0) (m := na) (c := 0) (c' := ca9) (A := some ⟨p0, 0, none⟩) (A' := Ca) (xs := []) (ys := cs) HE.out ((HA.out.2.2.2.below HKc.out.below).more HKc.out.below.size) (by omega) hB1Y
  rw [Nat.zero_add] at h1 h2
  rw [List.nil_append] at h2
  have Hrun := Lib.hid h1
  have HXR : Hid (RO w6 (fun b => B1 ≤ b) 3 A6 na c6 (spsC cs)) := (RO.of_own h2).mono fun _ hb _ => hb.1
  have HRO6 : Hid (RdO w6 (fun b => B1 ≤ b) t ⟨Re, ne, rn⟩ ⟨Rk, nk, rm⟩) := RdO.mono (fun b hb _ => hb.1) _ (RdO.keep h4 (fun b hb hlt => h5 b (fun e => hb.2 (by injection e with e; exact e.symm)) hlt) _ HRO.out)
  have hb9 : Below B1 v3 w6 := h3
  have HK6 : Hid (Kept [(⟨p, 0, none⟩, .slice Ae ne ce), (⟨p, 1, none⟩, .slice Ak nk ck), (⟨p, 2, none⟩, .slice Ca na ca9)] w w6) := by
   refine ⟨HKc.out.below.trans (hb9.mono HWB.out), fun x hx => ?_⟩
   have h8 := HKc.out.2 x hx
   have h7 : x.1.block < B1 := by
    simp at hx
    rcases hx with rfl | rfl | rfl <;> (dsimp only; omega)
   exact ⟨Nat.lt_of_lt_of_le h7 (Nat.le_trans hB1Y h4), (hb9.cell (p := x.1) h7).trans h8.2⟩
  have HZR : Hid (Kept [(⟨r, 0, none⟩, .slice none 0 0), (⟨r, 1, none⟩, .slice none 0 0), (⟨r, 2, none⟩, .slice none 0 0)] w w6) := by
   refine ⟨HKc.out.below.trans (hb9.mono HWB.out), fun x hx => ?_⟩
   have h8 := HKR.out.2 x hx
   have h7 : x.1.block < B1 := by
    simp at hx
    rcases hx with rfl | rfl | rfl <;> (dsimp only; omega)
   exact ⟨Nat.lt_of_lt_of_le h7 (Nat.le_trans hB1Y h4), (hb9.cell (p := x.1) h7).trans h8.2⟩
  have HFR6 : Hid (Free r w6) := ⟨Nat.lt_of_lt_of_le hrB (Nat.le_trans hB1Y h4), fun j => (hb9.frozen (p := ⟨r, j, none⟩) hrB).trans (HFR.out.2 j)⟩
  clear h1 h2 h3 h4 h5 hb9
  try simp only [Act.put, List.setIfInBounds_toArray, List.set_cons_zero, List.set_cons_succ]
  refine wpAnyH_ready (rs := [6]) (by kernel_rfl) (by simp) ?_
  refine AllReadyH.cons (o := ⟨some 9, _, _, _, _, _⟩) rfl (fun K hK => ?_) AllReadyH.nil
  refine Sp.upon_append _ _ _ rfl rfl rfl Hrun.out ?_
  refine hK.out _ _ ?_ (fun hHeld2 => ?_)
  ·exact ⟨HK6.out.c0, HK6.out.c1, HK6.out.c2⟩
  clear hK K hHeld
  have hHeld := hHeld2
  clear hHeld2
  have z0 := HZR.out.c0
  have z1 := HZR.out.c1
  have z2 := HZR.out.c2
  have m0 := HFR6.out.2 0
  have m1 := HFR6.out.2 1
  have m2 := HFR6.out.2 2
  try simp only [Act.put, List.setIfInBounds_toArray, List.set_cons_zero, List.set_cons_succ]
  refine Tk 7 10 ?_
  refine wpAnyH_ready (rs := [8]) (by kernel_rfl) (by simp) ?_
  refine AllReadyH.cons (o := ⟨none, _, _, _, _, _⟩) rfl (fun K hK => ?_) AllReadyH.nil
  go_simp
  refine hK.out _ _ ?_ (fun hHeld2 => ?_)
  ·(try dsimp only)
   have h9 := HK6.out.past3 (p := r) hwr (fun x hx => by simp at hx; rcases hx with rfl | rfl | rfl <;> (dsimp only; omega)) (.slice Re ne rn) (.slice Rk nk rm) (.slice A6 na c6)
   exact ⟨h9.c0, h9.c1, h9.c2⟩
  clear hK K hHeld
  have hHeld := hHeld2
  clear hHeld2
  try simp only [Act.put, List.setIfInBounds_toArray, List.set_cons_zero, List.set_cons_succ]
  refine wpAnyH_done (by kernel_rfl) ?_ _
  clear hHeld
  obtain ⟨W9, hW9⟩ : ∃ W, W = ((w6.setCell ⟨r, 0, none⟩ (.slice Re ne rn)).setCell ⟨r, 1, none⟩ (.slice Rk nk rm)).setCell ⟨r, 2, none⟩ (.slice A6 na c6) := ⟨_, rfl⟩
  have HB9 : Hid (Below w.heap.size w W9) := by
   unfold Hid
   rw [hW9]
   exact ((HK6.out.below.setCell (p := ⟨r, 0, none⟩) hwr _).setCell (p := ⟨r, 1, none⟩) hwr _).setCell (p := ⟨r, 2, none⟩) hwr _
  have HOW9 : Hid (OwC W9 B1 (t, cs) Re ne rn Rk nk rm A6 na c6) := by
   unfold Hid
   rw [hW9]
   exact OwC.set3 ⟨HRO6.out, HA.out.2.1, HXR.out⟩ hrB _ _ _
  have l0 : W9.cell? ⟨r, 0, none⟩ = some (.slice Re ne rn) := by rw [hW9]; go_simp
  have l1 : W9.cell? ⟨r, 1, none⟩ = some (.slice Rk nk rm) := by rw [hW9]; go_simp
  have l2 : W9.cell? ⟨r, 2, none⟩ = some (.slice A6 na c6) := by rw [hW9]; go_simp
  clear z0 z1 z2 m0 m1 m2
  rw [← hW9]
  clear hW9
  go_wp2_with fail
  refine bodyPost_ret (v := .agg #[.slice Re ne rn, .slice Rk nk rm, .slice A6 na c6]) (by simp [results, Tryz.results30, go_sem, l0, l1, l2]) rfl ⟨Re, ne, rn, Rk, nk, rm, A6, na, c6, rfl, HOW9.out.mono HWB.out, HB9.out⟩
 ·go_simp
  refine hK.out _ _ ?_ (fun hHeld2 => ?_)
  ·exact ⟨(HKc.out.alloc _).c0, (HKc.out.alloc _).c1, (HKc.out.alloc _).c2⟩
  clear hK K hHeld
  have hHeld := hHeld2
  clear hHeld2
  obtain ⟨p0, hp0⟩ : ∃ g, g = w1.heap.size := ⟨_, rfl⟩
  obtain ⟨v3, hv3⟩ : ∃ W, W = w1.alloc (.cells #[] 55) := ⟨_, rfl⟩
  have hb9 : Below w1.heap.size w1 v3 := by rw [hv3]; exact (Below.refl _ _).alloc (Nat.le_refl _) _
  have HE : Hid (Own v3 B1 55 3 (some ⟨p0, 0, none⟩) 0 0 (spsC [])) := by
   unfold Hid
   rw [hv3, hp0]
   exact ⟨⟨rfl, .inr ⟨w1.heap.size, 0, #[], rfl, by omega, heap_alloc_new _ _, Nat.le_refl _, by simp [maxLen], rfl, rfl⟩⟩, by simp [spsC]⟩
  have hp3 : p0 < v3.heap.size := by rw [hv3, hp0]; simp
  have hB3 : B1 ≤ v3.heap.size := by have := hb9.size; omega
  have HKc := Lib.hid (HKc.out.later hb9)
  have HKR := Lib.hid (HKR.out.later hb9)
  have HFR := Lib.hid (HFR.out.later hb9)
  (try rw [← hv3] at hHeld)
  rw [← hp0, ← hv3]
  clear hp0 hv3 hb9
  try simp only [Act.put, List.setIfInBounds_toArray, List.set_cons_zero, List.set_cons_succ]
  refine wpAnyH_ready (rs := [2]) (by kernel_rfl) (by simp) ?_
  refine AllReadyH.cons (o := ⟨some 5, _, _, _, _, _⟩) rfl (fun K hK => ?_) AllReadyH.nil
  go_simp
  (go_at_call 57; refine (refclone_any t Ae Ak ne nk ce ck v3 (by have := HA.out.1; omega) (RdT.more HKc.out.below.size _ (RdT.below HA.out.2.2.1 HKc.out.below))).mono ?_)
  rintro e v2 ⟨Re, rn, Rk, rm, rfl, hro, hb9⟩
  have HRO : Hid (RdO v2 (fun b => B1 ≤ b ∧ b ≠ p0) t ⟨Re, ne, rn⟩ ⟨Rk, nk, rm⟩) := RdO.mono (fun b hb _ => ⟨by omega, by omega⟩) _ hro
  have hB1Y : B1 ≤ v2.heap.size := by have := hb9.size; omega
  have HE := Lib.hid (own_later HE.out hb9)
  have HKc := Lib.hid (HKc.out.later hb9)
  have HKR := Lib.hid (HKR.out.later hb9)
  have HFR := Lib.hid (HFR.out.later hb9)
  clear hro hb9
  obtain ⟨A6, c6, w6, h1, h2, h3, h4, h5⟩ := appsO (w := v2) (base := B1) (n := 0) (m := na) (c := 0) (c' := ca9) (A := some ⟨p0, 0, none⟩) (A' := Ca) (xs := []) (ys := cs) HE.out ((HA.out.2.2.2.below HKc.out.below).more HKc.out.below.size) (by omega) hB1Y
  rw [Nat.zero_add] at h1 h2
  rw [List.nil_append] at h2
  have Hrun := Lib.hid h1
  have HXR : Hid (RO w6 (fun b => B1 ≤ b) 3 A6 na c6 (spsC cs)) := (RO.of_own h2).mono fun _ hb _ => hb.1
  have HRO6 : Hid (RdO w6 (fun b => B1 ≤ b) t ⟨Re, ne, rn⟩ ⟨Rk, nk, rm⟩) := RdO.mono (fun b hb _ => hb.1) _ (RdO.keep h4 (fun b hb hlt => h5 b (fun e => hb.2 (by injection e with e; exact e.symm)) hlt) _ HRO.out)
  have hb9 : Below B1 v2 w6 := h3
  have HK6 : Hid (Kept [(⟨p, 0, none⟩, .slice Ae ne ce), (⟨p, 1, none⟩, .slice Ak nk ck), (⟨p, 2, none⟩, .slice Ca na ca9)] w w6) := by
   refine ⟨HKc.out.below.trans (hb9.mono HWB.out), fun x hx => ?_⟩
   have h8 := HKc.out.2 x hx
   have h7 : x.1.block < B1 := by
    simp at hx
    rcases hx with rfl | rfl | rfl <;> (dsimp only; omega)
   exact ⟨Nat.lt_of_lt_of_le h7 (Nat.le_trans hB1Y h4), (hb9.cell (p := x.1) h7).trans h8.2⟩
  have HZR : Hid (Kept [(⟨r, 0, none⟩, .slice none 0 0), (⟨r, 1, none⟩, .slice none 0 0), (⟨r, 2, none⟩, .slice none 0 0)] w w6) := by
   refine ⟨HKc.out.below.trans (hb9.mono HWB.out), fun x hx => ?_⟩
   have h8 := HKR.out.2 x hx
   have h7 : x.1.block < B1 := by
    simp at hx
    rcases hx with rfl | rfl | rfl <;> (dsimp only; omega)
   exact ⟨Nat.lt_of_lt_of_le h7 (Nat.le_trans hB1Y h4), (hb9.cell (p := x.1) h7).trans h8.2⟩
  have HFR6 : Hid (Free r w6) := ⟨Nat.lt_of_lt_of_le hrB (Nat.le_trans hB1Y h4), fun j => (hb9.frozen (p := ⟨r, j, none⟩) hrB).trans (HFR.out.2 j)⟩
  clear h1 h2 h3 h4 h5 hb9
  refine hK.out _ _ ?_ (fun hHeld2 => ?_)
  ·exact ⟨HKc.out.c0, HKc.out.c1, HKc.out.c2⟩
  clear hK K hHeld
  have hHeld := hHeld2
  clear hHeld2
  try simp only [Act.put, List.setIfInBounds_toArray, List.set_cons_zero, List.set_cons_succ]
  refine wpAnyH_ready (rs := [6]) (by kernel_rfl) (by simp) ?_
  refine AllReadyH.cons (o := ⟨some 9, _, _, _, _, _⟩) rfl (fun K hK => ?_) AllReadyH.nil
  refine Sp.upon_append _ _ _ rfl rfl rfl Hrun.out ?_
  refine hK.out _ _ ?_ (fun hHeld2 => ?_)
  ·exact ⟨HK6.out.c0, HK6.out.c1, HK6.out.c2⟩
  clear hK K hHeld
  have hHeld := hHeld2
  clear hHeld2
  have z0 := HZR.out.c0
  have z1 := HZR.out.c1
  have z2 := HZR.out.c2
  have m0 := HFR6.out.2 0
  have m1 := HFR6.out.2 1
  have m2 := HFR6.out.2 2
  try simp only [Act.put, List.setIfInBounds_toArray, List.set_cons_zero, List.set_cons_succ]
  refine Tk 7 10 ?_
  refine wpAnyH_ready (rs := [8]) (by kernel_rfl) (by simp) ?_
  refine AllReadyH.cons (o := ⟨none, _, _, _, _, _⟩) rfl (fun K hK => ?_) AllReadyH.nil
  go_simp
  refine hK.out _ _ ?_ (fun hHeld2 => ?_)
  ·(try dsimp only)
   have h9 := HK6.out.past3 (p := r) hwr (fun x hx => by simp at hx; rcases hx with rfl | rfl | rfl <;> (dsimp only; omega)) (.slice Re ne rn) (.slice Rk nk rm) (.slice A6 na c6)
   exact ⟨h9.c0, h9.c1, h9.c2⟩
  clear hK K hHeld
  have hHeld := hHeld2
  clear hHeld2
  try simp only [Act.put, List.setIfInBounds_toArray, List.set_cons_zero, List.set_cons_succ]
  refine wpAnyH_done (by kernel_rfl) ?_ _
  clear hHeld
  obtain ⟨W9, hW9⟩ : ∃ W, W = ((w6.setCell ⟨r, 0, none⟩ (.slice Re ne rn)).setCell ⟨r, 1, none⟩ (.slice Rk nk rm)).setCell ⟨r, 2, none⟩ (.slice A6 na c6) := ⟨_, rfl⟩
  have HB9 : Hid (Below w.heap.size w W9) := by
   unfold Hid
   rw [hW9]
   exact ((HK6.out.below.setCell (p := ⟨r, 0, none⟩) hwr _).setCell (p := ⟨r, 1, none⟩) hwr _).setCell (p := ⟨r, 2, none⟩) hwr _
  have HOW9 : Hid (OwC W9 B1 (t, cs) Re ne rn Rk nk rm A6 na c6) := by
   unfold Hid
   rw [hW9]
   exact OwC.set3 ⟨HRO6.out, HA.out.2.1, HXR.out⟩ hrB _ _ _
  have l0 : W9.cell? ⟨r, 0, none⟩ = some (.slice Re ne rn) := by rw [hW9]; go_simp
  have l1 : W9.cell? ⟨r, 1, none⟩ = some (.slice Rk nk rm) := by rw [hW9]; go_simp
  have l2 : W9.cell? ⟨r, 2, none⟩ = some (.slice A6 na c6) := by rw [hW9]; go_simp
  clear z0 z1 z2 m0 m1 m2
  rw [← hW9]
  clear hW9
  go_wp2_with fail
  refine bodyPost_ret (v := .agg #[.slice Re ne rn, .slice Rk nk rm, .slice A6 na c6]) (by simp [results, Tryz.results30, go_sem, l0, l1, l2]) rfl ⟨Re, ne, rn, Rk, nk, rm, A6, na, c6, rfl, HOW9.out.mono HWB.out, HB9.out⟩
/-- the spans of a slice, all of them written at will -/
def ScrC (w : World) (lo : Nat) (A : Option Addr) (n : Nat) : Prop := 0 < n → ∃ b o, A = some ⟨b, o, none⟩ ∧ lo ≤ b ∧ b < w.heap.size ∧ (∀ j, w.frozen? ⟨b, j, none⟩ = false) ∧ ∀ i, i < n → ∃ x0 x1 x2 : Int, w.cell? ⟨b, o + i * 3, none⟩ = some (.int .i64 x0) ∧ w.cell? ⟨b, o + i * 3 + 1, none⟩ = some (.int .i64 x1) ∧ w.cell? ⟨b, o + i * 3 + 2, none⟩ = some (.int .i64 x2)
theorem ScrC.of_ro {w : World} {ok : Nat → Prop} {lo : Nat} (hok : ∀ b, ok b → b < w.heap.size → lo ≤ b) {A : Option Addr} {n c : Nat} {cs : List S3} (hl : cs.length = n) (h : RO w ok 3 A n c (spsC cs)) : ScrC w lo A n := fun hn => by
 obtain ⟨b, o, e, q1, q2, q3, q4⟩ := h.at_ hn
 refine ⟨b, o, e, hok b q1 q2, q2, q3, fun i hi => ?_⟩
 have hi' : i < cs.length := by omega
 have f := fun j hj => flat_at spC_len cs i j hi' hj
 refine ⟨(cs[i]).1, (cs[i]).2.1, (cs[i]).2.2, q4 _ _ (f 0 (by omega)), ?_, ?_⟩
 ·rw [Nat.add_assoc]; exact q4 _ _ (f 1 (by omega))
 ·rw [Nat.add_assoc]; exact q4 _ _ (f 2 (by omega))
theorem ScrC.fr {w w' : World} {lo lo' : Nat} (hf : Fr lo' w w') {A : Option Addr} {n : Nat} (h : ScrC w lo A n) : ScrC w' lo A n := fun hn => by
 obtain ⟨b, o, e, q1, q2, q3, q4⟩ := h hn
 refine ⟨b, o, e, q1, Nat.lt_of_lt_of_le q2 hf.size, fun j => (hf.froz b j q2).trans (q3 j), fun i hi => ?_⟩
 obtain ⟨x0, x1, x2, c0, c1, c2⟩ := q4 i hi
 obtain ⟨_, d0, a0⟩ := hf.cell _ _ _ q2 c0
 obtain ⟨_, d1, a1⟩ := hf.cell _ _ _ q2 c1
 obtain ⟨_, d2, a2⟩ := hf.cell _ _ _ q2 c2
 obtain ⟨y0, rfl⟩ := a0.int
 obtain ⟨y1, rfl⟩ := a1.int
 obtain ⟨y2, rfl⟩ := a2.int
 exact ⟨y0, y1, y2, d0, d1, d2⟩
/-- one that is told of, all of it written at will -/
structure ScrP (w : World) (lo : Nat) (p : CP) : Prop where
 tree : ScrT w lo p.k.1 p.e p.d
 few : LenT reachBytes p.k.1
 ctx : ScrC w lo p.c.A p.c.n
 len : p.c.n ≤ 1000
theorem ScrP.fr {w w' : World} {lo lo' : Nat} (hf : Fr lo' w w') {p : CP} (h : ScrP w lo p) : ScrP w' lo p := ⟨ScrT.fr hf _ h.tree, h.few, h.ctx.fr hf, h.len⟩
theorem ScrP.of_own {w : World} {lo lo' : Nat} {k : K} {Ae Ak Ca : Option Addr} {ne ce nk ck na ca9 : Nat} (h : OwC w lo' k Ae ne ce Ak nk ck Ca na ca9) (hl : lo ≤ lo') (hn : nodes k.1 ≤ 1000) (hna : na ≤ 1000) : ScrP w lo ⟨k, ⟨Ae, ne, ce⟩, ⟨Ak, nk, ck⟩, ⟨Ca, na, ca9⟩⟩ :=
 ⟨ScrT.of_rd (fun b hb _ => Nat.le_trans hl hb) _ h.tree, LenT.few (by show nodes k.1 ≤ _; omega), ScrC.of_ro (fun b hb _ => Nat.le_trans hl hb) h.len h.ctx, hna⟩
/-- it reads so, in blocks that meet ok -/
structure NoC (w : World) (ok : Nat → Prop) (p : CP) : Prop where
 tree : RdO w ok p.k.1 p.e p.d
 len : p.k.2.length = p.c.n
 ctx : RO w ok 3 p.c.A p.c.n p.c.c (spsC p.k.2)
theorem NoC.of_own {w : World} {lo : Nat} {ok : Nat → Prop} {k : K} {Ae Ak Ca : Option Addr} {ne ce nk ck na ca9 : Nat} (h : OwC w lo k Ae ne ce Ak nk ck Ca na ca9) (ho : ∀ b, lo ≤ b → b < w.heap.size → ok b) : NoC w ok ⟨k, ⟨Ae, ne, ce⟩, ⟨Ak, nk, ck⟩, ⟨Ca, na, ca9⟩⟩ := ⟨RdO.mono ho _ h.tree, h.len, h.ctx.mono ho⟩
theorem NoC.mono {w : World} {ok ok' : Nat → Prop} {p : CP} (h : NoC w ok p) (ho : ∀ b, ok b → b < w.heap.size → ok' b) : NoC w ok' p := ⟨RdO.mono ho _ h.tree, h.len, h.ctx.mono ho⟩
theorem NoC.keep {w w' : World} {ok : Nat → Prop} {p : CP} (h : NoC w ok p) (hs : w.heap.size ≤ w'.heap.size) (hk : ∀ b, ok b → b < w.heap.size → w'.heap[b]? = w.heap[b]?) : NoC w' ok p := ⟨RdO.keep hs hk _ h.tree, h.len, h.ctx.keep hs hk⟩
theorem NoC.later {w w' : World} {ok : Nat → Prop} {p : CP} (h : NoC w ok p) (hb : Below w.heap.size w w') : NoC w' ok p := h.keep hb.size fun b _ hlt => hb.block b hlt
theorem NoC.rd {w : World} {ok : Nat → Prop} {p : CP} (h : NoC w ok p) : RdP w p := ⟨RdO.rd _ h.tree, h.len, h.ctx.rd⟩
/-- two copies, each in a box -/
def MidO (v : World) (gp gq : Nat) (p q : CP) (ka kb : K) (w : World) : Prop := p.k = ka ∧ q.k = kb ∧ RdP w p ∧ RdP w q ∧ Kept [(⟨gp, 0, none⟩, .slice p.e.A p.e.n p.e.c), (⟨gp, 1, none⟩, .slice p.d.A p.d.n p.d.c), (⟨gp, 2, none⟩, .slice p.c.A p.c.n p.c.c), (⟨gq, 0, none⟩, .slice q.e.A q.e.n q.e.c), (⟨gq, 1, none⟩, .slice q.d.A q.d.n q.d.c), (⟨gq, 2, none⟩, .slice q.c.A q.c.n q.c.c)] v w
end Cs
end Go.Proofs.YtcbclefemcmhpaaGreat
