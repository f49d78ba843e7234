/- Compared, cloned, told of some keys: the program's. -/
import Derived.Test.YtcbclefemcmhpaaGreatG00
import Derived.Test.YtcbclefemcmhpaaGreatCauJoin
namespace Go.Proofs.YtcbclefemcmhpaaGreat
open Go.ChangeShapes Go.WideShapes Go.ChangeAt Go.RowKit
namespace Cs
open Tr Cx Sp Rw Classical
set_option maxRecDepth 100000 in
set_option maxHeartbeats 4000000 in
theorem leqK_any (t u : T) (cs ds : List S3) (Ae Ak Ca Be Bk Cb : Option Addr) (ne nk ce ck na ca9 me mk de dk nb cb9 : Nat) (w : World) (hn : nodes t ≤ 1000) (hl : cs.length = na) (hna : na ≤ 1000) (hr : RdT w w.heap.size t ⟨Ae, ne, ce⟩ ⟨Ak, nk, ck⟩) (hc : Rd w w.heap.size 3 Ca na ca9 (spsC cs)) (hn2 : nodes u ≤ 1000) (hl2 : ds.length = nb) (hnb : nb ≤ 1000) (hr2 : RdT w w.heap.size u ⟨Be, me, de⟩ ⟨Bk, mk, dk⟩) (hc2 : Rd w w.heap.size 3 Cb nb cb9 (spsC ds)) (hs : nodes t + nodes u ≤ 1000) (hs2 : na + nb ≤ 1000) (z : Bool) (hz : (rightKB (t, cs) && rightKB (u, ds) && leqB (t, cs) (u, ds)) = z) :
  Calls Tryz.prog 23 #[.agg #[.slice Ae ne ce, .slice Ak nk ck, .slice Ca na ca9], .agg #[.slice Be me de, .slice Bk mk dk, .slice Cb nb cb9]] w fun e w' => e = .returned (.bool z) ∧ Below w.heap.size w w' := by
 have HZ := Lib.hid hz
 have HS := Lib.hid hs
 clear hz hs
 have HA := Lib.hid (And.intro hn (And.intro hl (And.intro hr hc)))
 clear hn hl hr hc
 have HB := Lib.hid (And.intro hn2 (And.intro hl2 (And.intro hr2 hc2)))
 clear hn2 hl2 hr2 hc2
 obtain ⟨W, p, q, HW, HP, HQ, HKc⟩ := boxC2 w Ae Ak Be Bk Ca Cb ne nk ce ck me mk de dk na ca9 nb cb9
 have c0 := HKc.out.c0
 have c1 := HKc.out.c1
 have c2 := HKc.out.c2
 have c3 := HKc.out.c3
 have c4 := HKc.out.c4
 have c5 := HKc.out.c5
 have HJ := Lib.hid (joinE_any t u cs ds Ae Ak Ca Be Bk Cb ne nk ce ck na ca9 me mk de dk nb cb9 W HA.out.1 HA.out.2.1 hna (RdT.more HKc.out.below.size _ (RdT.below HA.out.2.2.1 HKc.out.below)) ((HA.out.2.2.2.below HKc.out.below).more HKc.out.below.size) HB.out.1 HB.out.2.1 hnb (RdT.more HKc.out.below.size _ (RdT.below HB.out.2.2.1 HKc.out.below)) ((HB.out.2.2.2.below HKc.out.below).more HKc.out.below.size))
 go_enter Tryz.func23, Tryz.ntmps23
 go_wp2_with fail
 rw [← HW.out, ← HP.out]
 try rw [← HQ.out]
 refine HJ.out.mono ?_
 rintro e v1 ⟨x, y, hxy, Re, rn, rc, Rk, rm, rd, Rc, rq, re, rfl, how, hb9⟩
 have HKc := Lib.hid (HKc.out.later hb9)
 have HOW := Lib.hid how
 obtain ⟨g, hg⟩ : ∃ g, g = v1.heap.size := ⟨_, rfl⟩
 obtain ⟨v2, hv2⟩ : ∃ v, v = v1.alloc (.cells #[.slice Re rn rc, .slice Rk rm rd, .slice Rc rq re] 29) := ⟨_, rfl⟩
 have hb2 : Below v1.heap.size v1 v2 := by rw [hv2]; exact Dt.box_below _ _ _
 have HKX : Hid (Kept [(⟨g, 0, none⟩, .slice Re rn rc), (⟨g, 1, none⟩, .slice Rk rm rd), (⟨g, 2, none⟩, .slice Rc rq re)] w v2) := by
  have h0 := Kept.nil_of (HKc.out.below.trans (hb2.mono HKc.out.below.size))
  refine ((h0.cons_of ?_).cons_of ?_).cons_of ?_ <;> (rw [hv2, hg]; go_simp)
 have HOW := Lib.hid (HOW.out.later hb2)
 have HKc := Lib.hid (HKc.out.later hb2)
 have HG := Lib.hid hg
 have HV2 := Lib.hid hv2
 clear hb9 how hg hv2 hb2 c0 c1 c2 c3 c4 c5
 by_cases hab : RK (t, cs) ∧ RK (u, ds)
 ·obtain ⟨rfl, hj, hxl⟩ := hxy.1 hab
  have HRX := Lib.hid (hj.right hab.1 hab.2)
  have HNX : Hid (nodes x.1 ≤ 1000) := by
   unfold Hid
   rw [hj.tree]
   have := joinT_nodes 5 cs ds t u
   have := HS.out
   show nodes (joinT 5 cs ds t u) ≤ 1000
   omega
  have hzz : z = sameKB x (u, ds) := by
   rw [← HZ.out, rightKB_iff.2 hab.1, rightKB_iff.2 hab.2]
   unfold sameKB
   rw [rightKB_iff.2 HRX.out, leqB_of hj]
   rfl
  have hSM := fun W (hb : Below v2.heap.size v2 W) => sameK_any x.1 u x.2 ds Re Rk Rc Be Bk Cb rn rm rc rd rq re me mk de dk nb cb9 W HNX.out HOW.out.len (by have := HOW.out.len; omega) (OwC.later HOW.out hb).rdT (OwC.later HOW.out hb).ctx.rd HB.out.1 HB.out.2.1 hnb (RdT.more (HKc.out.later hb).below.size _ (RdT.below HB.out.2.2.1 (HKc.out.later hb).below)) ((HB.out.2.2.2.below (HKc.out.later hb).below).more (HKc.out.later hb).below.size)
  have HSM := Lib.hid (hSM v2 (Below.refl _ _))
  rw [show (x.1, x.2) = x from rfl, ← hzz] at HSM
  clear hxy hab hj hxl hSM hzz
  have q0 := HKX.out.c0
  have q1 := HKX.out.c1
  have q2 := HKX.out.c2
  rw [HV2.out, HG.out] at q0 q1 q2
  have d0 := HKc.out.c3
  have d1 := HKc.out.c4
  have d2 := HKc.out.c5
  rw [HV2.out] at d0 d1 d2
  go_wp2_with fail
  rw [← HV2.out]
  refine HSM.out.mono ?_
  rintro e v3 ⟨rfl, hb9⟩
  have HKc := Lib.hid (HKc.out.later hb9)
  clear hb9 q0 q1 q2 d0 d1 d2
  go_wp2_with fail
  go_ret
  exact ⟨by first | rfl | (rw [HZ.out]; rfl) | rw [HZ.out], HKc.out.below⟩
 ·obtain ⟨rfl, _⟩ := hxy.2 hab
  obtain rfl : z = false := by
   rw [← HZ.out]
   cases h1 : rightKB (t, cs) with
   | false => rfl
   | true =>
    cases h2 : rightKB (u, ds) with
    | false => rfl
    | true => exact absurd ⟨rightKB_iff.1 h1, rightKB_iff.1 h2⟩ hab
  clear hxy hab
  go_wp2_with fail
  rw [← HV2.out]
  go_ret
  exact ⟨rfl, HKc.out.below⟩
/-- a box of what is known, and one of the answer -/
theorem boxC2r (w : World) (Ae Ak Ca : Option Addr) (ne nk ce ck na ca9 : Nat) : ∃ (W : World) (p r : Nat), Hid (W = (w.alloc (.cells #[.slice Ae ne ce, .slice Ak nk ck, .slice Ca na ca9] 29)).alloc (.cells #[.slice none 0 0, .slice none 0 0, .slice none 0 0] 29)) ∧ Hid (p = w.heap.size) ∧ Hid (r = p + 1) ∧ Hid (Kept [(⟨p, 0, none⟩, .slice Ae ne ce), (⟨p, 1, none⟩, .slice Ak nk ck), (⟨p, 2, none⟩, .slice Ca na ca9)] w W) ∧ Hid (Kept [(⟨r, 0, none⟩, .slice none 0 0), (⟨r, 1, none⟩, .slice none 0 0), (⟨r, 2, none⟩, .slice none 0 0)] w W) ∧ Hid (Free r W) := by
 refine ⟨_, _, _, rfl, rfl, rfl, ?_, ?_, ⟨by simp, fun j => by go_simp⟩⟩
 ·have h0 := Kept.nil_of (Dt.box2_below w #[.slice Ae ne ce, .slice Ak nk ck, .slice Ca na ca9] #[.slice none 0 0, .slice none 0 0, .slice none 0 0] 29 29)
  refine ((h0.cons_of ?_).cons_of ?_).cons_of ?_ <;> go_simp
 ·have h0 := Kept.nil_of (Dt.box2_below w #[.slice Ae ne ce, .slice Ak nk ck, .slice Ca na ca9] #[.slice none 0 0, .slice none 0 0, .slice none 0 0] 29 29)
  refine ((h0.cons_of ?_).cons_of ?_).cons_of ?_ <;> go_simp
set_option maxRecDepth 100000 in
set_option maxHeartbeats 4000000 in
theorem cloneK_any (t : T) (cs : List S3) (Ae Ak Ca : Option Addr) (ne nk ce ck na ca9 : Nat) (w : World) (hn : nodes t ≤ 1000) (hl : cs.length = na) (hna : na ≤ 1000) (hr : RdT w w.heap.size t ⟨Ae, ne, ce⟩ ⟨Ak, nk, ck⟩) (hc : Rd w w.heap.size 3 Ca na ca9 (spsC cs)) :
  Calls Tryz.prog 31 #[.agg #[.slice Ae ne ce, .slice Ak nk ck, .slice Ca na ca9]] w (CausIs (if rightKB (t, cs) = true then (t, cs) else noneK) w) := by
 obtain ⟨k9, hk9⟩ : ∃ k, (if rightKB (t, cs) = true then (t, cs) else noneK) = k := ⟨_, rfl⟩
 rw [hk9]
 have HK9 := Lib.hid hk9
 clear hk9
 have HA := Lib.hid (And.intro hn (And.intro hl (And.intro hr hc)))
 clear hn hl hr hc
 obtain ⟨W, p, r, HW, HP, HR, HKc, HKR, HFR⟩ := boxC2r w Ae Ak Ca ne nk ce ck na ca9
 have hwr : w.heap.size ≤ r := by have := HP.out; have := HR.out; omega
 have hpr : p < r := by have := HR.out; omega
 have c0 := HKc.out.c0
 have c1 := HKc.out.c1
 have c2 := HKc.out.c2
 have HRA := Lib.hid (rightK_any t cs Ae Ak Ca ne nk ce ck na ca9 W HA.out.1 HA.out.2.1 hna (RdT.more HKc.out.below.size _ (RdT.below HA.out.2.2.1 HKc.out.below)) ((HA.out.2.2.2.below HKc.out.below).more HKc.out.below.size))
 go_enter Tryz.func31, Tryz.ntmps31
 go_wp2_with fail
 rw [← HW.out, ← HP.out]
 try rw [← HR.out]
 cases ha : rightKB (t, cs) with
 | false =>
  rw [ha] at HRA
  obtain rfl : k9 = noneK := by rw [← HK9.out, ha]; rfl
  clear ha
  refine HRA.out.mono ?_
  rintro e v1 ⟨rfl, hb9⟩
  have HKc := Lib.hid (HKc.out.later hb9)
  have HKR := Lib.hid (HKR.out.later hb9)
  have HFR := Lib.hid (HFR.out.later hb9)
  clear hb9 c0 c1 c2
  have z0 := HKR.out.c0
  have z1 := HKR.out.c1
  have z2 := HKR.out.c2
  have m0 := HFR.out.2 0
  have m1 := HFR.out.2 1
  have m2 := HFR.out.2 2
  obtain ⟨W9, hW9⟩ : ∃ W, W = ((v1.setCell ⟨r, 0, none⟩ (.slice none 0 0)).setCell ⟨r, 1, none⟩ (.slice none 0 0)).setCell ⟨r, 2, none⟩ (.slice none 0 0) := ⟨_, rfl⟩
  have HB9 : Hid (Below w.heap.size w W9) := by
   unfold Hid
   rw [hW9]
   exact ((HKc.out.below.setCell (p := ⟨r, 0, none⟩) hwr _).setCell (p := ⟨r, 1, none⟩) hwr _).setCell (p := ⟨r, 2, none⟩) hwr _
  have HOW9 : Hid (OwC W9 w.heap.size noneK none 0 0 none 0 0 none 0 0) := by
   unfold Hid
   rw [hW9]
   exact OwC.no _ _
  have l0 : W9.cell? ⟨r, 0, none⟩ = some (.slice none 0 0) := by rw [hW9]; go_simp
  have l1 : W9.cell? ⟨r, 1, none⟩ = some (.slice none 0 0) := by rw [hW9]; go_simp
  have l2 : W9.cell? ⟨r, 2, none⟩ = some (.slice none 0 0) := by rw [hW9]; go_simp
  have HW9 := Lib.hid hW9
  clear hW9
  go_wp2_with fail
  rw [← HW9.out]
  refine bodyPost_ret (v := .agg #[.slice none 0 0, .slice none 0 0, .slice none 0 0]) (by simp [results, Tryz.results31, go_sem, l0, l1, l2]) rfl ⟨none, 0, 0, none, 0, 0, none, 0, 0, rfl, HOW9.out, HB9.out⟩
 | true =>
  rw [ha] at HRA
  obtain rfl : (t, cs) = k9 := by rw [← HK9.out, ha]; rfl
  have HYA : Hid (RK (t, cs)) := rightKB_iff.1 ha
  clear ha
  refine HRA.out.mono ?_
  rintro e v1 ⟨rfl, hb9⟩
  have HKc := Lib.hid (HKc.out.later hb9)
  have HKR := Lib.hid (HKR.out.later hb9)
  have HFR := Lib.hid (HFR.out.later hb9)
  clear hb9 c0 c1 c2
  go_wp2_with fail
  refine wp_region_held_drew (S := fun W => W.cell? ⟨p, 0, none⟩ = some (.slice Ae ne ce) ∧ W.cell? ⟨p, 1, none⟩ = some (.slice Ak nk ck) ∧ W.cell? ⟨p, 2, none⟩ = some (.slice Ca na ca9)) (by kernel_rfl) (by have h9 := HKc.out.drew; exact ⟨h9.c0, h9.c1, h9.c2⟩) (fun hHeld => ?_)
  obtain ⟨w1, hw1⟩ : ∃ v, v = v1.drew := ⟨_, rfl⟩
  have HKc : Hid (Kept [(⟨p, 0, none⟩, .slice Ae ne ce), (⟨p, 1, none⟩, .slice Ak nk ck), (⟨p, 2, none⟩, .slice Ca na ca9)] w w1) := by unfold Hid; rw [hw1]; exact HKc.out.drew
  have HKR : Hid (Kept [(⟨r, 0, none⟩, .slice none 0 0), (⟨r, 1, none⟩, .slice none 0 0), (⟨r, 2, none⟩, .slice none 0 0)] w w1) := by unfold Hid; rw [hw1]; exact HKR.out.drew
  have HFR : Hid (Free r w1) := by unfold Hid; rw [hw1]; exact HFR.out.drew
  rw [← hw1] at hHeld ⊢
  clear hw1
  refine Tk 0 7 ?_
  refine Tk 1 8 ?_
  refine Tk 3 10 ?_
  refine Tk 4 11 ?_
  refine wpAnyH_ready (rs := [2]) (by kernel_rfl) (by simp) ?_
  refine AllReadyH.cons (o := ⟨some 9, _, _, _, _, _⟩) rfl (fun K hK => ?_) AllReadyH.nil
  go_simp
  (go_at_call 58; refine (clone_any t Ae Ak ne nk ce ck w1 (LenT.few (by have := HA.out.1; omega)) (by have := HA.out.1; omega) (RdT.more HKc.out.below.size _ (RdT.below HA.out.2.2.1 HKc.out.below))).mono ?_)
  rw [rightB_iff.2 HYA.out.tree, if_pos rfl]
  rintro e v2 ⟨Re, rn, rc, Rk, rm, rd, rfl, hro, hb9⟩
  obtain ⟨B1, hB1⟩ : ∃ z, z = w1.heap.size := ⟨_, rfl⟩
  have hrB : r < B1 := by rw [hB1]; exact HFR.out.1
  have HWB : Hid (w.heap.size ≤ B1) := by unfold Hid; rw [hB1]; exact HKc.out.below.size
  have HRO : Hid (RdO v2 (fun b => B1 ≤ b) t ⟨Re, rn, rc⟩ ⟨Rk, rm, rd⟩) := by unfold Hid; rw [hB1]; exact hro
  have hB2 : B1 ≤ v2.heap.size := by rw [hB1]; exact hb9.size
  have HKc := Lib.hid (HKc.out.later hb9)
  have HKR := Lib.hid (HKR.out.later hb9)
  have HFR := Lib.hid (HFR.out.later hb9)
  clear hro hb9 hB1
  refine hK.out _ _ ?_ (fun hHeld2 => ?_)
  ·exact ⟨HKc.out.c0, HKc.out.c1, HKc.out.c2⟩
  clear hK K hHeld
  have hHeld := hHeld2
  clear hHeld2
  try simp only [Act.put, List.setIfInBounds_toArray, List.set_cons_zero, List.set_cons_succ]
  refine wpAnyH_ready (rs := [5]) (by kernel_rfl) (by simp) ?_
  refine AllReadyH.cons (o := ⟨some 12, _, _, _, _, _⟩) rfl (fun K hK => ?_) AllReadyH.nil
  go_simp
  (go_at_call 51; refine (copiedC_any cs Ca na ca9 v2 HA.out.2.1 hna ((HA.out.2.2.2.below HKc.out.below).more HKc.out.below.size)).mono ?_)
  rintro e v7 ⟨Rc, re, rfl, hxo, hb9⟩
  have HOW : Hid (OwC v7 B1 (t, cs) Re rn rc Rk rm rd Rc na re) := ⟨RdO.later HRO.out hb9, HA.out.2.1, hxo.mono fun b hb _ => by have h : v2.heap.size ≤ b := hb; omega⟩
  have HKc := Lib.hid (HKc.out.later hb9)
  have HKR := Lib.hid (HKR.out.later hb9)
  have HFR := Lib.hid (HFR.out.later hb9)
  clear hb9 hxo HRO
  have z0 := HKR.out.c0
  have z1 := HKR.out.c1
  have z2 := HKR.out.c2
  have m0 := HFR.out.2 0
  have m1 := HFR.out.2 1
  have m2 := HFR.out.2 2
  refine hK.out _ _ ?_ (fun hHeld2 => ?_)
  ·exact ⟨HKc.out.c0, HKc.out.c1, HKc.out.c2⟩
  clear hK K hHeld
  have hHeld := hHeld2
  clear hHeld2
  try simp only [Act.put, List.setIfInBounds_toArray, List.set_cons_zero, List.set_cons_succ]
  refine Tk 6 13 ?_
  refine wpAnyH_ready (rs := [7]) (by kernel_rfl) (by simp) ?_
  refine AllReadyH.cons (o := ⟨none, _, _, _, _, _⟩) rfl (fun K hK => ?_) AllReadyH.nil
  go_simp
  refine hK.out _ _ ?_ (fun hHeld2 => ?_)
  ·(try dsimp only)
   have h9 := HKc.out.past3 (p := r) hwr (fun x hx => by simp at hx; rcases hx with rfl | rfl | rfl <;> (dsimp only; omega)) (.slice Re rn rc) (.slice Rk rm rd) (.slice Rc na re)
   exact ⟨h9.c0, h9.c1, h9.c2⟩
  clear hK K hHeld
  have hHeld := hHeld2
  clear hHeld2
  try simp only [Act.put, List.setIfInBounds_toArray, List.set_cons_zero, List.set_cons_succ]
  refine wpAnyH_done (by kernel_rfl) ?_ _
  clear hHeld
  obtain ⟨W9, hW9⟩ : ∃ W, W = ((v7.setCell ⟨r, 0, none⟩ (.slice Re rn rc)).setCell ⟨r, 1, none⟩ (.slice Rk rm rd)).setCell ⟨r, 2, none⟩ (.slice Rc na re) := ⟨_, rfl⟩
  have HB9 : Hid (Below w.heap.size w W9) := by
   unfold Hid
   rw [hW9]
   exact ((HKc.out.below.setCell (p := ⟨r, 0, none⟩) hwr _).setCell (p := ⟨r, 1, none⟩) hwr _).setCell (p := ⟨r, 2, none⟩) hwr _
  have HOW9 : Hid (OwC W9 w.heap.size (t, cs) Re rn rc Rk rm rd Rc na re) := by
   unfold Hid
   rw [hW9]
   exact (HOW.out.set3 hrB _ _ _).mono HWB.out
  have l0 : W9.cell? ⟨r, 0, none⟩ = some (.slice Re rn rc) := by rw [hW9]; go_simp
  have l1 : W9.cell? ⟨r, 1, none⟩ = some (.slice Rk rm rd) := by rw [hW9]; go_simp
  have l2 : W9.cell? ⟨r, 2, none⟩ = some (.slice Rc na re) := by rw [hW9]; go_simp
  clear z0 z1 z2 m0 m1 m2
  rw [← hW9]
  clear hW9
  go_wp2_with fail
  refine bodyPost_ret (v := .agg #[.slice Re rn rc, .slice Rk rm rd, .slice Rc na re]) (by simp [results, Tryz.results31, go_sem, l0, l1, l2]) rfl ⟨Re, rn, rc, Rk, rm, rd, Rc, na, re, rfl, HOW9.out, HB9.out⟩
/-- the kids of these keys alone -/
noncomputable def onlyT (l : List ByteArray) (t : T) : T := .mk [] (keepK (fun k => inB l k == true) t.ks)
set_option maxRecDepth 100000 in
set_option maxHeartbeats 4000000 in
theorem onlyK_any (t : T) (cs : List S3) (Ae Ak Ca : Option Addr) (ne nk ce ck na ca9 : Nat) (w : World) (l : List ByteArray) (A : Option Addr) (n c : Nat) (hl9 : l.length = n) (hn9 : n ≤ 1000) (hrl : Rd w w.heap.size 1 A n c (strs l)) (hn : nodes t ≤ 1000) (hl : cs.length = na) (hna : na ≤ 1000) (hr : RdT w w.heap.size t ⟨Ae, ne, ce⟩ ⟨Ak, nk, ck⟩) (hc : Rd w w.heap.size 3 Ca na ca9 (spsC cs)) :
  Calls Tryz.prog 26 #[.agg #[.slice Ae ne ce, .slice Ak nk ck, .slice Ca na ca9], .slice A n c] w (CausErr (if rightKB (t, cs) = true then (onlyT l t, cs) else noneK) (if rightKB (t, cs) = true then 0 else 1) w) := by
 have HLS := Lib.hid (And.intro hl9 hrl)
 clear hl9 hrl
 obtain ⟨k9, hk9⟩ : ∃ k, (if rightKB (t, cs) = true then ((onlyT l t), cs) else noneK) = k := ⟨_, rfl⟩
 rw [hk9]
 have HK9 := Lib.hid hk9
 clear hk9
 obtain ⟨x9, hx9⟩ : ∃ x : Int, (if rightKB (t, cs) = true then 0 else 1) = x := ⟨_, rfl⟩
 rw [hx9]
 have HX9 := Lib.hid hx9
 clear hx9
 have HA := Lib.hid (And.intro hn (And.intro hl (And.intro hr hc)))
 clear hn hl hr hc
 obtain ⟨W, p, r, HW, HP, HR, HKc, HKR, HFR⟩ := boxC2r w Ae Ak Ca ne nk ce ck na ca9
 have hwr : w.heap.size ≤ r := by have := HP.out; have := HR.out; omega
 have hpr : p < r := by have := HR.out; omega
 have c0 := HKc.out.c0
 have c1 := HKc.out.c1
 have c2 := HKc.out.c2
 have HRA := Lib.hid (rightK_any t cs Ae Ak Ca ne nk ce ck na ca9 W HA.out.1 HA.out.2.1 hna (RdT.more HKc.out.below.size _ (RdT.below HA.out.2.2.1 HKc.out.below)) ((HA.out.2.2.2.below HKc.out.below).more HKc.out.below.size))
 go_enter Tryz.func26, Tryz.ntmps26
 go_wp2_with fail
 rw [← HW.out, ← HP.out]
 try rw [← HR.out]
 cases ha : rightKB (t, cs) with
 | false =>
  rw [ha] at HRA
  obtain rfl : k9 = noneK := by rw [← HK9.out, ha]; rfl
  obtain rfl : x9 = 1 := by rw [← HX9.out, ha]; rfl
  clear ha
  refine HRA.out.mono ?_
  rintro e v1 ⟨rfl, hb9⟩
  have HKc := Lib.hid (HKc.out.later hb9)
  have HKR := Lib.hid (HKR.out.later hb9)
  have HFR := Lib.hid (HFR.out.later hb9)
  clear hb9 c0 c1 c2
  have z0 := HKR.out.c0
  have z1 := HKR.out.c1
  have z2 := HKR.out.c2
  have m0 := HFR.out.2 0
  have m1 := HFR.out.2 1
  have m2 := HFR.out.2 2
  obtain ⟨W9, hW9⟩ : ∃ W, W = ((v1.setCell ⟨r, 0, none⟩ (.slice none 0 0)).setCell ⟨r, 1, none⟩ (.slice none 0 0)).setCell ⟨r, 2, none⟩ (.slice none 0 0) := ⟨_, rfl⟩
  have HB9 : Hid (Below w.heap.size w W9) := by
   unfold Hid
   rw [hW9]
   exact ((HKc.out.below.setCell (p := ⟨r, 0, none⟩) hwr _).setCell (p := ⟨r, 1, none⟩) hwr _).setCell (p := ⟨r, 2, none⟩) hwr _
  have HOW9 : Hid (OwC W9 w.heap.size noneK none 0 0 none 0 0 none 0 0) := by
   unfold Hid
   rw [hW9]
   exact OwC.no _ _
  have l0 : W9.cell? ⟨r, 0, none⟩ = some (.slice none 0 0) := by rw [hW9]; go_simp
  have l1 : W9.cell? ⟨r, 1, none⟩ = some (.slice none 0 0) := by rw [hW9]; go_simp
  have l2 : W9.cell? ⟨r, 2, none⟩ = some (.slice none 0 0) := by rw [hW9]; go_simp
  have HW9 := Lib.hid hW9
  clear hW9
  go_wp2_with fail
  rw [← HW9.out]
  refine bodyPost_ret (v := .tuple #[.agg #[.slice none 0 0, .slice none 0 0, .slice none 0 0], .int .i64 1]) (by simp [results, Tryz.results26, go_sem, l0, l1, l2]) rfl ⟨none, 0, 0, none, 0, 0, none, 0, 0, rfl, HOW9.out, HB9.out⟩
 | true =>
  rw [ha] at HRA
  obtain rfl : ((onlyT l t), cs) = k9 := by rw [← HK9.out, ha]; rfl
  obtain rfl : x9 = 0 := by rw [← HX9.out, ha]; rfl
  have HYA : Hid (RK (t, cs)) := rightKB_iff.1 ha
  clear ha
  refine HRA.out.mono ?_
  rintro e v1 ⟨rfl, hb9⟩
  have HKc := Lib.hid (HKc.out.later hb9)
  have HKR := Lib.hid (HKR.out.later hb9)
  have HFR := Lib.hid (HFR.out.later hb9)
  clear hb9 c0 c1 c2
  go_wp2_with fail
  refine wp_region_held_drew (S := fun W => W.cell? ⟨p, 0, none⟩ = some (.slice Ae ne ce) ∧ W.cell? ⟨p, 1, none⟩ = some (.slice Ak nk ck) ∧ W.cell? ⟨p, 2, none⟩ = some (.slice Ca na ca9)) (by kernel_rfl) (by have h9 := HKc.out.drew; exact ⟨h9.c0, h9.c1, h9.c2⟩) (fun hHeld => ?_)
  obtain ⟨w1, hw1⟩ : ∃ v, v = v1.drew := ⟨_, rfl⟩
  have HKc : Hid (Kept [(⟨p, 0, none⟩, .slice Ae ne ce), (⟨p, 1, none⟩, .slice Ak nk ck), (⟨p, 2, none⟩, .slice Ca na ca9)] w w1) := by unfold Hid; rw [hw1]; exact HKc.out.drew
  have HKR : Hid (Kept [(⟨r, 0, none⟩, .slice none 0 0), (⟨r, 1, none⟩, .slice none 0 0), (⟨r, 2, none⟩, .slice none 0 0)] w w1) := by unfold Hid; rw [hw1]; exact HKR.out.drew
  have HFR : Hid (Free r w1) := by unfold Hid; rw [hw1]; exact HFR.out.drew
  rw [← hw1] at hHeld ⊢
  clear hw1
  refine Tk 0 10 ?_
  refine Tk 1 11 ?_
  refine Tk 2 12 ?_
  refine Tk 4 14 ?_
  refine Tk 5 15 ?_
  refine wpAnyH_ready (rs := [3]) (by kernel_rfl) (by simp) ?_
  refine AllReadyH.cons (o := ⟨some 13, _, _, _, _, _⟩) rfl (fun K hK => ?_) AllReadyH.nil
  go_simp
  (go_at_call 50; refine (only_any t Ae Ak ne nk ce ck w1 l A n c HLS.out.1 (by omega) ((HLS.out.2.below HKc.out.below).more HKc.out.below.size) (LenT.few (by have := HA.out.1; omega)) (by have := HA.out.1; omega) (RdT.more HKc.out.below.size _ (RdT.below HA.out.2.2.1 HKc.out.below))).mono ?_)
  rw [rightB_iff.2 HYA.out.tree, if_pos rfl]
  rintro e v2 ⟨Re, rn, rc, Rk, rm, rd, rfl, hro, hb9⟩
  obtain ⟨B1, hB1⟩ : ∃ z, z = w1.heap.size := ⟨_, rfl⟩
  have hrB : r < B1 := by rw [hB1]; exact HFR.out.1
  have HWB : Hid (w.heap.size ≤ B1) := by unfold Hid; rw [hB1]; exact HKc.out.below.size
  have HRO : Hid (RdO v2 (fun b => B1 ≤ b) (onlyT l t) ⟨Re, rn, rc⟩ ⟨Rk, rm, rd⟩) := by unfold Hid; rw [hB1]; exact hro
  have hB2 : B1 ≤ v2.heap.size := by rw [hB1]; exact hb9.size
  have HKc := Lib.hid (HKc.out.later hb9)
  have HKR := Lib.hid (HKR.out.later hb9)
  have HFR := Lib.hid (HFR.out.later hb9)
  clear hro hb9 hB1
  refine hK.out _ _ ?_ (fun hHeld2 => ?_)
  ·exact ⟨HKc.out.c0, HKc.out.c1, HKc.out.c2⟩
  clear hK K hHeld
  have hHeld := hHeld2
  clear hHeld2
  try simp only [Act.put, List.setIfInBounds_toArray, List.set_cons_zero, List.set_cons_succ]
  refine wpAnyH_ready (rs := [6]) (by kernel_rfl) (by simp) ?_
  refine AllReadyH.cons (o := ⟨some 16, _, _, _, _, _⟩) rfl (fun K hK => ?_) AllReadyH.nil
  go_simp
  (go_at_call 51; refine (copiedC_any cs Ca na ca9 v2 HA.out.2.1 hna ((HA.out.2.2.2.below HKc.out.below).more HKc.out.below.size)).mono ?_)
  rintro e v7 ⟨Rc, re, rfl, hxo, hb9⟩
  have HOW : Hid (OwC v7 B1 ((onlyT l t), cs) Re rn rc Rk rm rd Rc na re) := ⟨RdO.later HRO.out hb9, HA.out.2.1, hxo.mono fun b hb _ => by have h : v2.heap.size ≤ b := hb; omega⟩
  have HKc := Lib.hid (HKc.out.later hb9)
  have HKR := Lib.hid (HKR.out.later hb9)
  have HFR := Lib.hid (HFR.out.later hb9)
  clear hb9 hxo HRO
  have z0 := HKR.out.c0
  have z1 := HKR.out.c1
  have z2 := HKR.out.c2
  have m0 := HFR.out.2 0
  have m1 := HFR.out.2 1
  have m2 := HFR.out.2 2
  refine hK.out _ _ ?_ (fun hHeld2 => ?_)
  ·exact ⟨HKc.out.c0, HKc.out.c1, HKc.out.c2⟩
  clear hK K hHeld
  have hHeld := hHeld2
  clear hHeld2
  try simp only [Act.put, List.setIfInBounds_toArray, List.set_cons_zero, List.set_cons_succ]
  refine Tk 7 17 ?_
  refine wpAnyH_ready (rs := [8]) (by kernel_rfl) (by simp) ?_
  refine AllReadyH.cons (o := ⟨none, _, _, _, _, _⟩) rfl (fun K hK => ?_) AllReadyH.nil
  go_simp
  refine hK.out _ _ ?_ (fun hHeld2 => ?_)
  ·(try dsimp only)
   have h9 := HKc.out.past3 (p := r) hwr (fun x hx => by simp at hx; rcases hx with rfl | rfl | rfl <;> (dsimp only; omega)) (.slice Re rn rc) (.slice Rk rm rd) (.slice Rc na re)
   exact ⟨h9.c0, h9.c1, h9.c2⟩
  clear hK K hHeld
  have hHeld := hHeld2
  clear hHeld2
  try simp only [Act.put, List.setIfInBounds_toArray, List.set_cons_zero, List.set_cons_succ]
  refine Tk 9 5 ?_
  refine wpAnyH_done (by kernel_rfl) ?_ _
  clear hHeld
  obtain ⟨W9, hW9⟩ : ∃ W, W = ((v7.setCell ⟨r, 0, none⟩ (.slice Re rn rc)).setCell ⟨r, 1, none⟩ (.slice Rk rm rd)).setCell ⟨r, 2, none⟩ (.slice Rc na re) := ⟨_, rfl⟩
  have HB9 : Hid (Below w.heap.size w W9) := by
   unfold Hid
   rw [hW9]
   exact ((HKc.out.below.setCell (p := ⟨r, 0, none⟩) hwr _).setCell (p := ⟨r, 1, none⟩) hwr _).setCell (p := ⟨r, 2, none⟩) hwr _
  have HOW9 : Hid (OwC W9 w.heap.size ((onlyT l t), cs) Re rn rc Rk rm rd Rc na re) := by
   unfold Hid
   rw [hW9]
   exact (HOW.out.set3 hrB _ _ _).mono HWB.out
  have l0 : W9.cell? ⟨r, 0, none⟩ = some (.slice Re rn rc) := by rw [hW9]; go_simp
  have l1 : W9.cell? ⟨r, 1, none⟩ = some (.slice Rk rm rd) := by rw [hW9]; go_simp
  have l2 : W9.cell? ⟨r, 2, none⟩ = some (.slice Rc na re) := by rw [hW9]; go_simp
  clear z0 z1 z2 m0 m1 m2
  rw [← hW9]
  clear hW9
  go_wp2_with fail
  refine bodyPost_ret (v := .tuple #[.agg #[.slice Re rn rc, .slice Rk rm rd, .slice Rc na re], .int .i64 0]) (by simp [results, Tryz.results26, go_sem, l0, l1, l2]) rfl ⟨Re, rn, rc, Rk, rm, rd, Rc, na, re, rfl, HOW9.out, HB9.out⟩
end Cs
end Go.Proofs.YtcbclefemcmhpaaGreat
