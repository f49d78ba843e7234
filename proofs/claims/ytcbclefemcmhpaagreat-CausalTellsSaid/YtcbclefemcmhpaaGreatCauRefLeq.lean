/- Compared: the document's. -/
import Derived.Test.YtcbclefemcmhpaaGreatG00
import Derived.Test.YtcbclefemcmhpaaGreatCauRefJoin
namespace Go.Proofs.YtcbclefemcmhpaaGreat
open Go.ChangeShapes Go.WideShapes Go.ChangeAt Go.RowKit
namespace Cs
open Tr Cx Sp Rw Classical
set_option maxRecDepth 100000 in
set_option maxHeartbeats 4000000 in
theorem refleqK_any (t u : T) (cs ds : List S3) (Ae Ak Ca Be Bk Cb : Option Addr) (ne nk ce ck na ca9 me mk de dk nb cb9 : Nat) (w : World) (hn : nodes t ≤ 1000) (hl : cs.length = na) (hna : na ≤ 1000) (hr : RdT w w.heap.size t ⟨Ae, ne, ce⟩ ⟨Ak, nk, ck⟩) (hc : Rd w w.heap.size 3 Ca na ca9 (spsC cs)) (hn2 : nodes u ≤ 1000) (hl2 : ds.length = nb) (hnb : nb ≤ 1000) (hr2 : RdT w w.heap.size u ⟨Be, me, de⟩ ⟨Bk, mk, dk⟩) (hc2 : Rd w w.heap.size 3 Cb nb cb9 (spsC ds)) (hk1 : RK (t, cs)) (hk2 : RK (u, ds)) (z : Bool) (hz : leqB (t, cs) (u, ds) = z) :
  Calls Tryz.prog 24 #[.agg #[.slice Ae ne ce, .slice Ak nk ck, .slice Ca na ca9], .agg #[.slice Be me de, .slice Bk mk dk, .slice Cb nb cb9]] w fun e w' => e = .returned (.bool z) ∧ Below w.heap.size w w' := by
 obtain ⟨kx, hJ, hL⟩ : ∃ x : K, IsJ (t, cs) (u, ds) x ∧ x.2.length ≤ 800000 := by
  obtain ⟨e, w', xs, q, A', c', _, g1, g2, g3, _⟩ := Cs.Calls.some (unionC_any cs ds na nb Ca Cb ca9 cb9 w hl hl2 (by omega) (by omega) hc hc2 hk1.ctx hk2.ctx)
  exact ⟨(joinT 5 cs ds t u, xs), ⟨rfl, g2.out⟩, by have h1 := g1.out; show xs.length ≤ _; omega⟩
 have HZ : Hid (decide ((kx.1, kx.2) = (u, ds)) = z) := by unfold Hid; rw [← hz, leqB_of hJ]
 have HNX : Hid (nodes kx.1 ≤ 1000000) := by
  have h1 := joinT_nodes 5 cs ds t u
  unfold Hid
  rw [hJ.tree]
  show nodes (joinT 5 cs ds t u) ≤ _
  omega
 have HK := Lib.hid (And.intro hk1 hk2)
 have HJ := Lib.hid hJ
 have HL := Lib.hid hL
 have HA := Lib.hid (And.intro hn (And.intro hl (And.intro hr hc)))
 clear hn hl hr hc
 have HB := Lib.hid (And.intro hn2 (And.intro hl2 (And.intro hr2 hc2)))
 clear hn2 hl2 hr2 hc2 hk1 hk2 hJ hL hz
 obtain ⟨W, p, q, HW, HP, HQ, HKc⟩ := boxC2 w Ae Ak Be Bk Ca Cb ne nk ce ck me mk de dk na ca9 nb cb9
 go_enter Tryz.func24, Tryz.ntmps24
 go_wp2_with fail
 rw [← HW.out, ← HP.out]
 try rw [← HQ.out]
 refine wp_region_held_drew (S := fun W => W.cell? ⟨p, 0, none⟩ = some (.slice Ae ne ce) ∧ W.cell? ⟨p, 1, none⟩ = some (.slice Ak nk ck) ∧ W.cell? ⟨p, 2, none⟩ = some (.slice Ca na ca9) ∧ W.cell? ⟨q, 0, none⟩ = some (.slice Be me de) ∧ W.cell? ⟨q, 1, none⟩ = some (.slice Bk mk dk) ∧ W.cell? ⟨q, 2, none⟩ = some (.slice Cb nb cb9)) (by kernel_rfl) (by have h9 := HKc.out.drew; exact ⟨h9.c0, h9.c1, h9.c2, h9.c3, h9.c4, h9.c5⟩) (fun hHeld => ?_)
 obtain ⟨w1, hw1⟩ : ∃ v, v = W.drew := ⟨_, rfl⟩
 have HKc : Hid (Kept [(⟨p, 0, none⟩, .slice Ae ne ce), (⟨p, 1, none⟩, .slice Ak nk ck), (⟨p, 2, none⟩, .slice Ca na ca9), (⟨q, 0, none⟩, .slice Be me de), (⟨q, 1, none⟩, .slice Bk mk dk), (⟨q, 2, none⟩, .slice Cb nb cb9)] w w1) := by unfold Hid; rw [hw1]; exact HKc.out.drew
 rw [← hw1] at hHeld ⊢
 clear hw1
 refine Tk 0 5 ?_
 refine Tk 1 6 ?_
 refine Tk 3 8 ?_
 refine wpAnyH_ready (rs := [2]) (by kernel_rfl) (by simp) ?_
 refine AllReadyH.cons (o := ⟨some 7, _, _, _, _, _⟩) rfl (fun K hK => ?_) AllReadyH.nil
 go_simp
 (go_at_call 20; refine (refjoinK_any t u cs ds kx.2 Ae Ak Ca Be Bk Cb ne nk ce ck na ca9 me mk de dk nb cb9 _ w1 HA.out.1 HA.out.2.1 hna (RdT.more HKc.out.below.size _ (RdT.below HA.out.2.2.1 HKc.out.below)) ((HA.out.2.2.2.below HKc.out.below).more HKc.out.below.size) HB.out.1 HB.out.2.1 hnb (RdT.more HKc.out.below.size _ (RdT.below HB.out.2.2.1 HKc.out.below)) ((HB.out.2.2.2.below HKc.out.below).more HKc.out.below.size) HK.out.1 HK.out.2 HJ.out.ctx rfl HL.out).mono ?_)
 rintro e v2 ⟨Re, rn, rc, Rk, rm, rd, Rc, rq, re, rfl, hrd, hb9⟩
 have HRD : Hid (RdP v2 ⟨kx, ⟨Re, rn, rc⟩, ⟨Rk, rm, rd⟩, ⟨Rc, rq, re⟩⟩) := by have h := hrd; rw [← HJ.out.tree] at h; exact h
 have HKc := Lib.hid (HKc.out.later hb9)
 clear hrd hb9
 refine hK.out _ _ ?_ (fun hHeld2 => ?_)
 ·exact ⟨HKc.out.c0, HKc.out.c1, HKc.out.c2, HKc.out.c3, HKc.out.c4, HKc.out.c5⟩
 clear hK K hHeld
 have hHeld := hHeld2
 clear hHeld2
 try simp only [Act.put, List.setIfInBounds_toArray, List.set_cons_zero, List.set_cons_succ]
 refine wpAnyH_ready (rs := [4]) (by kernel_rfl) (by simp) ?_
 refine AllReadyH.cons (o := ⟨some 9, _, _, _, _, _⟩) rfl (fun K hK => ?_) AllReadyH.nil
 go_simp
 (go_at_call 19; refine (refsameK_any kx.1 u kx.2 ds Re Rk Rc Be Bk Cb rn rm rc rd rq re me mk de dk nb cb9 v2 z HZ.out HNX.out HRD.out.len (by have h1 := HRD.out.len; have h2 := HL.out; dsimp only at h1; omega) HRD.out.tree HRD.out.ctx HB.out.2.1 (RdT.more HKc.out.below.size _ (RdT.below HB.out.2.2.1 HKc.out.below)) ((HB.out.2.2.2.below HKc.out.below).more HKc.out.below.size)).mono ?_)
 rintro e v3 ⟨rfl, hb9⟩
 have HKc := Lib.hid (HKc.out.later hb9)
 clear hb9
 refine hK.out _ _ ?_ (fun hHeld2 => ?_)
 ·exact ⟨HKc.out.c0, HKc.out.c1, HKc.out.c2, HKc.out.c3, HKc.out.c4, HKc.out.c5⟩
 clear hK K hHeld
 have hHeld := hHeld2
 clear hHeld2
 try simp only [Act.put, List.setIfInBounds_toArray, List.set_cons_zero, List.set_cons_succ]
 refine Tk 5 4 ?_
 refine wpAnyH_done (by kernel_rfl) ?_ _
 clear hHeld
 go_wp2_with fail
 go_ret
 exact ⟨rfl, HKc.out.below⟩
end Cs
end Go.Proofs.YtcbclefemcmhpaaGreat
