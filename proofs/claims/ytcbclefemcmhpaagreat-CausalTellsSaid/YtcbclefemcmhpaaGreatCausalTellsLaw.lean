/- CausalTells: a law of layer 9, walked, and proved. -/
import Derived.Test.YtcbclefemcmhpaaGreatG00
import Derived.Test.YtcbclefemcmhpaaGreatG120
import Derived.Test.YtcbclefemcmhpaaGreatCauKit
import Derived.Test.YtcbclefemcmhpaaGreatCauRefLeq
open Go.ChangeShapes Go.WideShapes Go.ChangeAt Go.RowKit
namespace Go.Proofs.YtcbclefemcmhpaaGreat
namespace lawCausalTells
open Tr Cx Cs Sp Rw Classical
theorem boxL (w : World) (Ae Ak Ac : Option Addr) (ae1 ak1 ae2 ak2 ac1 ac2 : Nat) (Be Bk Bc : Option Addr) (be1 bk1 be2 bk2 bc1 bc2 : Nat) : ∃ (W : World) (p q : Nat), Hid (W = ((w.alloc (.cells #[.slice Ae ae1 ae2, .slice Ak ak1 ak2, .slice Ac ac1 ac2] 29)).alloc (.cells #[.slice Be be1 be2, .slice Bk bk1 bk2, .slice Bc bc1 bc2] 29))) ∧ Hid (p = w.heap.size) ∧ Hid (q = p + 1) ∧ Hid (Kept [(⟨p, 0, none⟩, .slice Ae ae1 ae2), (⟨p, 1, none⟩, .slice Ak ak1 ak2), (⟨p, 2, none⟩, .slice Ac ac1 ac2), (⟨q, 0, none⟩, .slice Be be1 be2), (⟨q, 1, none⟩, .slice Bk bk1 bk2), (⟨q, 2, none⟩, .slice Bc bc1 bc2)] w W) := by
 refine ⟨_, _, _, rfl, rfl, rfl, ?_⟩
 have h0 := Kept.nil_of (show Below w.heap.size w (((w.alloc (.cells #[.slice Ae ae1 ae2, .slice Ak ak1 ak2, .slice Ac ac1 ac2] 29)).alloc (.cells #[.slice Be be1 be2, .slice Bk bk1 bk2, .slice Bc bc1 bc2] 29))) from ((Below.refl _ _).alloc (Nat.le_refl _) _).alloc (by simp) _)
 refine ((((((h0).cons_of ?_).cons_of ?_).cons_of ?_).cons_of ?_).cons_of ?_).cons_of ?_ <;> go_simp
set_option maxRecDepth 100000 in
set_option maxHeartbeats 4000000 in
theorem walk_any (ta : T) (sa : List S3) (Ae Ak Ac : Option Addr) (ae1 ak1 ae2 ak2 ac1 ac2 : Nat) (tb : T) (sb : List S3) (Be Bk Bc : Option Addr) (be1 bk1 be2 bk2 bc1 bc2 : Nat)  (w : World) (hra : RdP w ⟨(ta, sa), ⟨Ae, ae1, ae2⟩, ⟨Ak, ak1, ak2⟩, ⟨Ac, ac1, ac2⟩⟩) (hla : LenT reachBytes ta) (hrb : RdP w ⟨(tb, sb), ⟨Be, be1, be2⟩, ⟨Bk, bk1, bk2⟩, ⟨Bc, bc1, bc2⟩⟩) (hlb : LenT reachBytes tb)  :
  Calls Tryz.prog 8 #[.agg #[.slice Ae ae1 ae2, .slice Ak ak1 ak2, .slice Ac ac1 ac2], .agg #[.slice Be be1 be2, .slice Bk bk1 bk2, .slice Bc bc1 bc2]] w fun e w' => e = .returned (.bool true) ∧ Below w.heap.size w w' := by
 obtain ⟨W, p, q, HW, HP, HQ, HKc⟩ := boxL w Ae Ak Ac ae1 ak1 ae2 ak2 ac1 ac2 Be Bk Bc be1 bk1 be2 bk2 bc1 bc2
 have Ra := Lib.hid (hra.later HKc.out.below)
 have La := Lib.hid hla
 have Rb := Lib.hid (hrb.later HKc.out.below)
 have Lb := Lib.hid hlb
 clear hra hla hrb hlb
 have c0 := HKc.out.c0
 have c1 := HKc.out.c1
 have c2 := HKc.out.c2
 have c3 := HKc.out.c3
 have c4 := HKc.out.c4
 have c5 := HKc.out.c5
 go_enter Tryz.func8, Tryz.ntmps8
 go_wp2_with fail
 rw [← HW.out, ← HP.out, ← HQ.out]
 refine (awake_any W).mono ?_
 rintro e v1 ⟨rfl, hb9⟩
 have Ra := Lib.hid (Ra.out.later hb9)
 have Rb := Lib.hid (Rb.out.later hb9)
 have HKc := Lib.hid (HKc.out.later hb9)
 clear hb9
 clear c0 c1 c2 c3 c4 c5
 have c0 := HKc.out.c0
 have c1 := HKc.out.c1
 have c2 := HKc.out.c2
 have c3 := HKc.out.c3
 have c4 := HKc.out.c4
 have c5 := HKc.out.c5
 obtain ⟨g2, hg2⟩ : ∃ g, g = v1.heap.size := ⟨_, rfl⟩
 obtain ⟨v2, hv2⟩ : ∃ W, W = v1.alloc (.cells #[.slice Ae ae1 ae2, .slice Ak ak1 ak2, .slice Ac ac1 ac2, .slice Be be1 be2, .slice Bk bk1 bk2, .slice Bc bc1 bc2] 29) := ⟨_, rfl⟩
 have hb9 : Below v1.heap.size v1 v2 := by rw [hv2]; exact Dt.box_below _ _ _
 have HCP : Hid (CellsP v2 g2 [⟨(ta, sa), ⟨Ae, ae1, ae2⟩, ⟨Ak, ak1, ak2⟩, ⟨Ac, ac1, ac2⟩⟩, ⟨(tb, sb), ⟨Be, be1, be2⟩, ⟨Bk, bk1, bk2⟩, ⟨Bc, bc1, bc2⟩⟩]) := by
  intro k hk
  simp at hk
  rcases (by omega : k = 0 ∨ k = 1) with rfl | rfl <;> refine ⟨?_, ?_, ?_⟩ <;> (rw [hv2, hg2]; go_simp)
 have Hg2 := Lib.hid hg2
 have Hv2 := Lib.hid hv2
 clear hg2 hv2
 have Ra := Lib.hid (Ra.out.later hb9)
 have Rb := Lib.hid (Rb.out.later hb9)
 have HKc := Lib.hid (HKc.out.later hb9)
 clear hb9
 have HPS : Hid (∀ p ∈ ([⟨(ta, sa), ⟨Ae, ae1, ae2⟩, ⟨Ak, ak1, ak2⟩, ⟨Ac, ac1, ac2⟩⟩, ⟨(tb, sb), ⟨Be, be1, be2⟩, ⟨Bk, bk1, bk2⟩, ⟨Bc, bc1, bc2⟩⟩] : List CP), RdP v2 p) := by
  intro p hp
  simp at hp
  rcases hp with rfl | rfl
  ·exact Ra.out
  ·exact Rb.out
 have HLT : Hid (∀ p ∈ ([⟨(ta, sa), ⟨Ae, ae1, ae2⟩, ⟨Ak, ak1, ak2⟩, ⟨Ac, ac1, ac2⟩⟩, ⟨(tb, sb), ⟨Be, be1, be2⟩, ⟨Bk, bk1, bk2⟩, ⟨Bc, bc1, bc2⟩⟩] : List CP), LenT reachBytes p.k.1) := by
  intro p hp
  simp at hp
  rcases hp with rfl | rfl
  ·exact La.out
  ·exact Lb.out
 have HSM := Lib.hid (small_any9 [⟨(ta, sa), ⟨Ae, ae1, ae2⟩, ⟨Ak, ak1, ak2⟩, ⟨Ac, ac1, ac2⟩⟩, ⟨(tb, sb), ⟨Be, be1, be2⟩, ⟨Bk, bk1, bk2⟩, ⟨Bc, bc1, bc2⟩⟩] 2 g2 2 v2 rfl (by omega) HCP.out HPS.out HLT.out)
 clear HCP HPS HLT
 go_wp2_with fail
 rw [← Hv2.out, ← Hg2.out]
 refine HSM.out.mono ?_
 rintro e v3 ⟨b, rfl, hsm, hb9⟩
 have Ra := Lib.hid (Ra.out.later hb9)
 have Rb := Lib.hid (Rb.out.later hb9)
 have HKc := Lib.hid (HKc.out.later hb9)
 clear hb9
 clear c0 c1 c2 c3 c4 c5 HSM
 cases b with
 | false =>
  clear hsm
  go_wp2_with fail
  refine (awake_any _).mono ?_
  rintro e v9 ⟨rfl, hb9⟩
  have HKc := Lib.hid (HKc.out.later hb9)
  clear hb9
  go_wp2_with fail
  go_ret
  exact ⟨rfl, HKc.out.below⟩
 | true =>
  have hsa := hsm rfl ⟨(ta, sa), ⟨Ae, ae1, ae2⟩, ⟨Ak, ak1, ak2⟩, ⟨Ac, ac1, ac2⟩⟩ (by simp)
  have Na : Hid (nodes ta ≤ 40) := hsa.1
  have Qa : Hid (ac1 ≤ 40) := hsa.2
  have hsb := hsm rfl ⟨(tb, sb), ⟨Be, be1, be2⟩, ⟨Bk, bk1, bk2⟩, ⟨Bc, bc1, bc2⟩⟩ (by simp)
  have Nb : Hid (nodes tb ≤ 40) := hsb.1
  have Qb : Hid (bc1 ≤ 40) := hsb.2
  clear hsm hsa hsb
  have c0 := HKc.out.c0
  have c1 := HKc.out.c1
  have c2 := HKc.out.c2
  have c3 := HKc.out.c3
  have c4 := HKc.out.c4
  have c5 := HKc.out.c5
  obtain ⟨g4, hg4⟩ : ∃ g, g = v3.heap.size := ⟨_, rfl⟩
  obtain ⟨v4, hv4⟩ : ∃ W, W = v3.alloc (.cells #[.slice Ae ae1 ae2, .slice Ak ak1 ak2, .slice Ac ac1 ac2, .slice Be be1 be2, .slice Bk bk1 bk2, .slice Bc bc1 bc2] 29) := ⟨_, rfl⟩
  have hb9 : Below v3.heap.size v3 v4 := by rw [hv4]; exact Dt.box_below _ _ _
  have HCP : Hid (CellsP v4 g4 [⟨(ta, sa), ⟨Ae, ae1, ae2⟩, ⟨Ak, ak1, ak2⟩, ⟨Ac, ac1, ac2⟩⟩, ⟨(tb, sb), ⟨Be, be1, be2⟩, ⟨Bk, bk1, bk2⟩, ⟨Bc, bc1, bc2⟩⟩]) := by
   intro k hk
   simp at hk
   rcases (by omega : k = 0 ∨ k = 1) with rfl | rfl <;> refine ⟨?_, ?_, ?_⟩ <;> (rw [hv4, hg4]; go_simp)
  have Hg4 := Lib.hid hg4
  have Hv4 := Lib.hid hv4
  clear hg4 hv4
  have Ra := Lib.hid (Ra.out.later hb9)
  have Rb := Lib.hid (Rb.out.later hb9)
  have HKc := Lib.hid (HKc.out.later hb9)
  clear hb9
  have HPS : Hid (∀ p ∈ ([⟨(ta, sa), ⟨Ae, ae1, ae2⟩, ⟨Ak, ak1, ak2⟩, ⟨Ac, ac1, ac2⟩⟩, ⟨(tb, sb), ⟨Be, be1, be2⟩, ⟨Bk, bk1, bk2⟩, ⟨Bc, bc1, bc2⟩⟩] : List CP), RdP v4 p) := by
   intro p hp
   simp at hp
   rcases hp with rfl | rfl
   ·exact Ra.out
   ·exact Rb.out
  have HLT : Hid (∀ p ∈ ([⟨(ta, sa), ⟨Ae, ae1, ae2⟩, ⟨Ak, ak1, ak2⟩, ⟨Ac, ac1, ac2⟩⟩, ⟨(tb, sb), ⟨Be, be1, be2⟩, ⟨Bk, bk1, bk2⟩, ⟨Bc, bc1, bc2⟩⟩] : List CP), nodes p.k.1 ≤ 200 ∧ p.c.n ≤ 1000) := by
   intro p hp
   simp at hp
   rcases hp with rfl | rfl
   ·exact ⟨by have := Na.out; show nodes ta ≤ 200; omega, by have := Qa.out; show ac1 ≤ 1000; omega⟩
   ·exact ⟨by have := Nb.out; show nodes tb ≤ 200; omega, by have := Qb.out; show bc1 ≤ 1000; omega⟩
  obtain ⟨z, hz⟩ : ∃ z, ([⟨(ta, sa), ⟨Ae, ae1, ae2⟩, ⟨Ak, ak1, ak2⟩, ⟨Ac, ac1, ac2⟩⟩, ⟨(tb, sb), ⟨Be, be1, be2⟩, ⟨Bk, bk1, bk2⟩, ⟨Bc, bc1, bc2⟩⟩] : List CP).all (fun p => rightKB p.k) = z := ⟨_, rfl⟩
  have HRT := Lib.hid (right_any9 [⟨(ta, sa), ⟨Ae, ae1, ae2⟩, ⟨Ak, ak1, ak2⟩, ⟨Ac, ac1, ac2⟩⟩, ⟨(tb, sb), ⟨Be, be1, be2⟩, ⟨Bk, bk1, bk2⟩, ⟨Bc, bc1, bc2⟩⟩] 2 g4 2 v4 rfl (by omega) HCP.out HPS.out HLT.out z hz)
  have hzz : z = true ↔ RK (ta, sa) ∧ RK (tb, sb) := by
   rw [← hz, ← rightKB_iff, ← rightKB_iff]
   simp
  have HZZ := Lib.hid hzz
  clear HCP HPS HLT hz hzz
  go_wp2_with fail
  rw [← Hv4.out, ← Hg4.out]
  refine HRT.out.mono ?_
  rintro e v7 ⟨rfl, hb9⟩
  have Ra := Lib.hid (Ra.out.later hb9)
  have Rb := Lib.hid (Rb.out.later hb9)
  have HKc := Lib.hid (HKc.out.later hb9)
  clear hb9
  clear c0 c1 c2 c3 c4 c5 HRT
  have c0 := HKc.out.c0
  have c1 := HKc.out.c1
  have c2 := HKc.out.c2
  have c3 := HKc.out.c3
  have c4 := HKc.out.c4
  have c5 := HKc.out.c5
  cases z with
  | false =>
   have hno : ¬ (RK (ta, sa) ∧ RK (tb, sb)) := fun h => by have h2 := HZZ.out.2 h; cases h2
   have h1 : (rightKB (ta, sa) && rightKB (tb, sb) && leqB (ta, sa) (tb, sb)) = false := by
    cases h1 : rightKB (ta, sa) with
    | false => rfl
    | true =>
     cases h2 : rightKB (tb, sb) with
     | false => rfl
     | true => exact absurd ⟨rightKB_iff.1 h1, rightKB_iff.1 h2⟩ hno
   have h2 : sameKB (ta, sa) (tb, sb) = false := by
    unfold sameKB
    cases h1 : rightKB (ta, sa) with
    | false => rfl
    | true =>
     rw [decide_eq_false fun h => hno ⟨rightKB_iff.1 h1, by rw [← h]; exact rightKB_iff.1 h1⟩]
     rfl
   have HSM := Lib.hid h2
   have HLQ := Lib.hid (leqK_any ta tb sa sb Ae Ak Ac Be Bk Bc ae1 ak1 ae2 ak2 ac1 ac2 be1 bk1 be2 bk2 bc1 bc2 v7 (by have := Na.out; omega) Ra.out.len (by have := Qa.out; omega) Ra.out.tree Ra.out.ctx (by have := Nb.out; omega) Rb.out.len (by have := Qb.out; omega) Rb.out.tree Rb.out.ctx (by have := Na.out; have := Nb.out; omega) (by have := Qa.out; have := Qb.out; omega) false h1)
   clear hno h1 h2
   go_wp2_with fail
   refine HLQ.out.mono ?_
   rintro e v8 ⟨rfl, hb9⟩
   have Ra := Lib.hid (Ra.out.later hb9)
   have Rb := Lib.hid (Rb.out.later hb9)
   have HKc := Lib.hid (HKc.out.later hb9)
   clear hb9
   clear c0 c1 c2 c3 c4 c5
   have c0 := HKc.out.c0
   have c1 := HKc.out.c1
   have c2 := HKc.out.c2
   have c3 := HKc.out.c3
   have c4 := HKc.out.c4
   have c5 := HKc.out.c5
   have HS := Lib.hid (sameK_any ta tb sa sb Ae Ak Ac Be Bk Bc ae1 ak1 ae2 ak2 ac1 ac2 be1 bk1 be2 bk2 bc1 bc2 v8 (by have := Na.out; omega) Ra.out.len (by have := Qa.out; omega) Ra.out.tree Ra.out.ctx (by have := Nb.out; omega) Rb.out.len (by have := Qb.out; omega) Rb.out.tree Rb.out.ctx)
   rw [show sameKB (ta, sa) (tb, sb) = false from HSM.out] at HS
   go_wp2_with fail
   refine HS.out.mono ?_
   rintro e v9 ⟨rfl, hb9⟩
   have HKc := Lib.hid (HKc.out.later hb9)
   clear hb9 c0 c1 c2 c3 c4 c5
   go_wp2_with fail
   go_ret
   exact ⟨by first | rfl | simp, HKc.out.below⟩
  | true =>
   obtain ⟨hka, hkb⟩ := HZZ.out.1 rfl
   have Ka := Lib.hid hka
   have Kb := Lib.hid hkb
   clear hka hkb
   obtain ⟨z1, hz1⟩ : ∃ z, leqB (ta, sa) (tb, sb) = z := ⟨_, rfl⟩
   obtain ⟨z2, hz2⟩ : ∃ z, decide ((ta, sa) = (tb, sb)) = z := ⟨_, rfl⟩
   have HZ1 := Lib.hid hz1
   have HZ2 := Lib.hid hz2
   have HZ3 : Hid (sameKB (ta, sa) (tb, sb) = z2) := by unfold Hid sameKB; rw [rightKB_iff.2 Ka.out, hz2]; rfl
   have e1 : (z1 == z1) = true := by cases z1 <;> rfl
   have e2 : (z2 == z2) = true := by cases z2 <;> rfl
   clear hz1 hz2
   go_wp2_with fail
   refine wp_region_held_drew (S := fun W => W.cell? ⟨p, 0, none⟩ = some (.slice Ae ae1 ae2) ∧ W.cell? ⟨p, 1, none⟩ = some (.slice Ak ak1 ak2) ∧ W.cell? ⟨p, 2, none⟩ = some (.slice Ac ac1 ac2) ∧ W.cell? ⟨q, 0, none⟩ = some (.slice Be be1 be2) ∧ W.cell? ⟨q, 1, none⟩ = some (.slice Bk bk1 bk2) ∧ W.cell? ⟨q, 2, none⟩ = some (.slice Bc bc1 bc2)) (by kernel_rfl) (by have h9 := HKc.out.drew; exact ⟨h9.c0, h9.c1, h9.c2, h9.c3, h9.c4, h9.c5⟩) (fun hHeld => ?_)
   obtain ⟨w1, hw1⟩ : ∃ v, v = v7.drew := ⟨_, rfl⟩
   have HKc : Hid (Kept [(⟨p, 0, none⟩, .slice Ae ae1 ae2), (⟨p, 1, none⟩, .slice Ak ak1 ak2), (⟨p, 2, none⟩, .slice Ac ac1 ac2), (⟨q, 0, none⟩, .slice Be be1 be2), (⟨q, 1, none⟩, .slice Bk bk1 bk2), (⟨q, 2, none⟩, .slice Bc bc1 bc2)] w w1) := by unfold Hid; rw [hw1]; exact HKc.out.drew
   have Ra : Hid (RdP w1 ⟨(ta, sa), ⟨Ae, ae1, ae2⟩, ⟨Ak, ak1, ak2⟩, ⟨Ac, ac1, ac2⟩⟩) := by unfold Hid; rw [hw1]; exact Ra.out.later ((Below.refl _ _).drew)
   have Rb : Hid (RdP w1 ⟨(tb, sb), ⟨Be, be1, be2⟩, ⟨Bk, bk1, bk2⟩, ⟨Bc, bc1, bc2⟩⟩) := by unfold Hid; rw [hw1]; exact Rb.out.later ((Below.refl _ _).drew)
   rw [← hw1] at hHeld ⊢
   clear hw1
   refine Tk 0 30 ?_
   refine Tk 1 31 ?_
   refine Tk 3 33 ?_
   refine Tk 4 34 ?_
   refine wpAnyH_ready (rs := [2]) (by kernel_rfl) (by simp) ?_
   refine AllReadyH.cons (o := ⟨some 32, _, _, _, _, _⟩) rfl (fun K hK => ?_) AllReadyH.nil
   go_simp
   (go_at_call 23; refine (leqK_any ta tb sa sb Ae Ak Ac Be Bk Bc ae1 ak1 ae2 ak2 ac1 ac2 be1 bk1 be2 bk2 bc1 bc2 _ (by have := Na.out; omega) Ra.out.len (by have := Qa.out; omega) Ra.out.tree Ra.out.ctx (by have := Nb.out; omega) Rb.out.len (by have := Qb.out; omega) Rb.out.tree Rb.out.ctx (by have := Na.out; have := Nb.out; omega) (by have := Qa.out; have := Qb.out; omega) z1 (by rw [show rightKB (ta, sa) = true from rightKB_iff.2 Ka.out]; (try rw [show rightKB (tb, sb) = true from rightKB_iff.2 Kb.out]); exact HZ1.out)).mono ?_)
   rintro e y1 ⟨rfl, hb9⟩
   have Ra := Lib.hid (Ra.out.later hb9)
   have Rb := Lib.hid (Rb.out.later hb9)
   have HKc := Lib.hid (HKc.out.later hb9)
   clear hb9
   refine hK.out _ _ ?_ (fun hHeld2 => ?_)
   ·exact ⟨HKc.out.c0, HKc.out.c1, HKc.out.c2, HKc.out.c3, HKc.out.c4, HKc.out.c5⟩
   clear hK K hHeld
   have hHeld := hHeld2
   clear hHeld2
   try simp only [Act.put, List.setIfInBounds_toArray, List.set_cons_zero, List.set_cons_succ]
   refine wpAnyH_ready (rs := [5]) (by kernel_rfl) (by simp) ?_
   refine AllReadyH.cons (o := ⟨some 35, _, _, _, _, _⟩) rfl (fun K hK => ?_) AllReadyH.nil
   go_simp
   (go_at_call 24; refine (refleqK_any ta tb sa sb Ae Ak Ac Be Bk Bc ae1 ak1 ae2 ak2 ac1 ac2 be1 bk1 be2 bk2 bc1 bc2 _ (by have := Na.out; omega) Ra.out.len (by have := Qa.out; omega) Ra.out.tree Ra.out.ctx (by have := Nb.out; omega) Rb.out.len (by have := Qb.out; omega) Rb.out.tree Rb.out.ctx Ka.out Kb.out z1 HZ1.out).mono ?_)
   rintro e y2 ⟨rfl, hb9⟩
   have Ra := Lib.hid (Ra.out.later hb9)
   have Rb := Lib.hid (Rb.out.later hb9)
   have HKc := Lib.hid (HKc.out.later hb9)
   clear hb9
   refine hK.out _ _ ?_ (fun hHeld2 => ?_)
   ·exact ⟨HKc.out.c0, HKc.out.c1, HKc.out.c2, HKc.out.c3, HKc.out.c4, HKc.out.c5⟩
   clear hK K hHeld
   have hHeld := hHeld2
   clear hHeld2
   try simp only [Act.put, List.setIfInBounds_toArray, List.set_cons_zero, List.set_cons_succ]
   refine Tk 6 36 ?_
   refine Tk 7 37 ?_
   refine Tk 8 38 ?_
   refine Tk 9 39 ?_
   refine Tk 11 41 ?_
   refine Tk 12 42 ?_
   refine wpAnyH_ready (rs := [10]) (by kernel_rfl) (by simp) ?_
   refine AllReadyH.cons (o := ⟨some 40, _, _, _, _, _⟩) rfl (fun K hK => ?_) AllReadyH.nil
   go_simp
   (go_at_call 21; refine (sameK_any ta tb sa sb Ae Ak Ac Be Bk Bc ae1 ak1 ae2 ak2 ac1 ac2 be1 bk1 be2 bk2 bc1 bc2 _ (by have := Na.out; omega) Ra.out.len (by have := Qa.out; omega) Ra.out.tree Ra.out.ctx (by have := Nb.out; omega) Rb.out.len (by have := Qb.out; omega) Rb.out.tree Rb.out.ctx).mono ?_)
   rw [show sameKB (ta, sa) (tb, sb) = z2 from HZ3.out]
   rintro e y3 ⟨rfl, hb9⟩
   have Ra := Lib.hid (Ra.out.later hb9)
   have Rb := Lib.hid (Rb.out.later hb9)
   have HKc := Lib.hid (HKc.out.later hb9)
   clear hb9
   refine hK.out _ _ ?_ (fun hHeld2 => ?_)
   ·exact ⟨HKc.out.c0, HKc.out.c1, HKc.out.c2, HKc.out.c3, HKc.out.c4, HKc.out.c5⟩
   clear hK K hHeld
   have hHeld := hHeld2
   clear hHeld2
   try simp only [Act.put, List.setIfInBounds_toArray, List.set_cons_zero, List.set_cons_succ]
   refine wpAnyH_ready (rs := [13]) (by kernel_rfl) (by simp) ?_
   refine AllReadyH.cons (o := ⟨some 43, _, _, _, _, _⟩) rfl (fun K hK => ?_) AllReadyH.nil
   go_simp
   (go_at_call 19; refine (refsameK_any ta tb sa sb Ae Ak Ac Be Bk Bc ae1 ak1 ae2 ak2 ac1 ac2 be1 bk1 be2 bk2 bc1 bc2 _ z2 HZ2.out (by have := Na.out; omega) Ra.out.len (by have := Qa.out; omega) Ra.out.tree Ra.out.ctx Rb.out.len Rb.out.tree Rb.out.ctx).mono ?_)
   rintro e y4 ⟨rfl, hb9⟩
   have Ra := Lib.hid (Ra.out.later hb9)
   have Rb := Lib.hid (Rb.out.later hb9)
   have HKc := Lib.hid (HKc.out.later hb9)
   clear hb9
   refine hK.out _ _ ?_ (fun hHeld2 => ?_)
   ·exact ⟨HKc.out.c0, HKc.out.c1, HKc.out.c2, HKc.out.c3, HKc.out.c4, HKc.out.c5⟩
   clear hK K hHeld
   have hHeld := hHeld2
   clear hHeld2
   try simp only [Act.put, List.setIfInBounds_toArray, List.set_cons_zero, List.set_cons_succ]
   refine Tk 14 44 ?_
   refine Tk 15 45 ?_
   refine Tk 16 4 ?_
   refine wpAnyH_done (by kernel_rfl) ?_ _
   clear hHeld
   go_wp2_with fail
   go_ret
   exact ⟨by first | rfl | simp, HKc.out.below⟩
set_option maxRecDepth 100000 in
theorem lifted (os : Os) (started : os.Started) (H : Type) (enc : TypeId × Value → H) :
  ReturnsInHanded {} Tryz.checked os 8 .any (Rows.causalTellsSpec.pre6 enc Tryz.prog Tryz.f8 Rows.causalTellsRow.domain false) (Rows.causalTellsSpec.post enc Tryz.prog Tryz.f8 false true false false) := by
 refine returnsInHanded_of_change_sized (C := Tryz.checked) own started (by kernel_rfl) Tryz.func8
  (ChangeSpec.witness6 (enc := enc) (C := Tryz.checked) false ⟨#[], #[.agg #[.slice none 0 0, .slice none 0 0, .slice none 0 0], .agg #[.slice none 0 0, .slice none 0 0, .slice none 0 0]], []⟩ 8 (by kernel_rfl) (by kernel_rfl) (by kernel_rfl) (by kernel_rfl)) ?_
 intro W base args ds gs before hval0 hW _ hsz0 _
 have hval : ∀ (j : Nat) t v, Tryz.f8.params[j]? = some t → args[j]? = some v → Value.okWide Tryz.prog W .any base t v := hval0
 have hW' := hW
 obtain ⟨p, q, hA0, hV, rfl, hfz, hnd⟩ := hW
 have hA : DataW.TrodAll enc Tryz.prog W 0 (fun _ => true) true Tryz.f8.params.toList args.toList ds p := hA0
 rw [Tryz.params8] at hA hval
 obtain ⟨v0, v1, d0, d1, p0, p1, rfl, rfl, rfl, h0, h1⟩ := trodAll_two hA
 obtain ⟨rfl, rfl⟩ := trodVars_none hV
 have hsz : (DataW.weightsEach Tryz.prog (29 :: 29 :: _) (d0 :: d1 :: _)).all (· ≤ reachBytes) = true := hsz0
 obtain ⟨hw0, hsz⟩ := Tr.weights_head hsz
 obtain ⟨hw1, hsz⟩ := Tr.weights_head hsz
 obtain ⟨t0, s0, A0, B0, C0, n0, m0, ne0, nk0, nc0, nd0, rfl, hr0, hl0⟩ := Cs.cauV_of_trod (hval 0 29 v0 rfl rfl) h0 hw0
 obtain ⟨t1, s1, A1, B1, C1, n1, m1, ne1, nk1, nc1, nd1, rfl, hr1, hl1⟩ := Cs.cauV_of_trod (hval 1 29 v1 rfl rfl) h1 hw1
 refine (walk_any t0 s0 A0 B0 C0 n0 m0 ne0 nk0 nc0 nd0 t1 s1 A1 B1 C1 n1 m1 ne1 nk1 nc1 nd1 W hr0 hl0 hr1 hl1).mono fun e W' ⟨he, hb⟩ => ?_
 subst he
 exact ⟨_, rfl, law_post hW' (by kernel_rfl) rfl rfl rfl hb⟩
theorem proved : Rows.CausalTellsSaid :=
 OpenClaim.holds_of_wide 8 Tryz.f8 rfl rfl rfl rfl rfl rfl rfl ⟨rfl, rfl, rfl, rfl, rfl⟩ rfl rfl rfl rfl rfl (by kernel_rfl) Tryz.func8 (by kernel_rfl)
  (of_decide_eq_true (by kernel_rfl)) (by unfold Func.isWrapper; first | (rw [if_pos (by decide +kernel)]; kernel_rfl) | (rw [if_neg (by decide +kernel)]; exact ⟨rfl, rfl⟩))
  (fun os started H enc _ => lifted os started H enc)
#print axioms proved
end lawCausalTells
end Go.Proofs.YtcbclefemcmhpaaGreat
