/- CausalOwn: a law of layer 9, walked, and proved. -/
import Derived.Test.YtcbclefemcmhpaaGreatG00
import Derived.Test.YtcbclefemcmhpaaGreatG120
import Derived.Test.YtcbclefemcmhpaaGreatCauKit
import Derived.Test.YtcbclefemcmhpaaGreatCauOwnRef
import Derived.Deep.DeepCutAuto
open Go.ChangeShapes Go.WideShapes Go.ChangeAt Go.RowKit
namespace Go.Proofs.YtcbclefemcmhpaaGreat
namespace lawCausalOwn
open Tr Cx Cs Sp Rw Classical
theorem keep_sum9 (f : ByteArray → Bool) (ks : List (ByteArray × T)) : ((keepK f ks).map fun k => nodes k.2).sum ≤ (ks.map fun k => nodes k.2).sum := by
 induction ks with
 | nil => exact Nat.le_refl _
 | cons k ks ih =>
  unfold keepK at ih ⊢
  rw [List.filter_cons]
  split
  ·rw [List.map_cons, List.map_cons, List.sum_cons, List.sum_cons]; omega
  ·rw [List.map_cons, List.sum_cons]; omega
theorem nodes_only (l : List ByteArray) (t : T) : nodes (onlyT l t) ≤ nodes t := by
 have e : nodes t = t.es.length + t.ks.length + (t.ks.map fun k => nodes k.2).sum := by
  conv => lhs; rw [← T.eta t]
  exact nodes_mk _ _
 unfold onlyT
 rw [nodes_mk, e]
 have h1 := keep_sum9 (fun k => inB l k == true) t.ks
 have h2 : (keepK (fun k => inB l k == true) t.ks).length ≤ t.ks.length := List.length_filter_le _ _
 simp only [List.length_nil]
 omega
theorem boxL (w : World) (Ae Ak Ac : Option Addr) (ae1 ak1 ae2 ak2 ac1 ac2 : Nat) (Be Bk Bc : Option Addr) (be1 bk1 be2 bk2 bc1 bc2 : Nat) : ∃ (W : World) (p q : Nat), Hid (W = ((w.alloc (.cells #[.slice Ae ae1 ae2, .slice Ak ak1 ak2, .slice Ac ac1 ac2] 29)).alloc (.cells #[.slice Be be1 be2, .slice Bk bk1 bk2, .slice Bc bc1 bc2] 29))) ∧ Hid (p = w.heap.size) ∧ Hid (q = p + 1) ∧ Hid (Kept [(⟨p, 0, none⟩, .slice Ae ae1 ae2), (⟨p, 1, none⟩, .slice Ak ak1 ak2), (⟨p, 2, none⟩, .slice Ac ac1 ac2), (⟨q, 0, none⟩, .slice Be be1 be2), (⟨q, 1, none⟩, .slice Bk bk1 bk2), (⟨q, 2, none⟩, .slice Bc bc1 bc2)] w W) := by
 refine ⟨_, _, _, rfl, rfl, rfl, ?_⟩
 have h0 := Kept.nil_of (show Below w.heap.size w (((w.alloc (.cells #[.slice Ae ae1 ae2, .slice Ak ak1 ak2, .slice Ac ac1 ac2] 29)).alloc (.cells #[.slice Be be1 be2, .slice Bk bk1 bk2, .slice Bc bc1 bc2] 29))) from ((Below.refl _ _).alloc (Nat.le_refl _) _).alloc (by simp) _)
 refine ((((((h0).cons_of ?_).cons_of ?_).cons_of ?_).cons_of ?_).cons_of ?_).cons_of ?_ <;> go_simp
set_option maxRecDepth 100000 in
set_option maxHeartbeats 4000000 in
theorem walk_any (ta : T) (sa : List S3) (Ae Ak Ac : Option Addr) (ae1 ak1 ae2 ak2 ac1 ac2 : Nat) (tb : T) (sb : List S3) (Be Bk Bc : Option Addr) (be1 bk1 be2 bk2 bc1 bc2 : Nat) (l : List ByteArray) (nl : Nat) (Al : Option Addr) (cl : Nat)  (w : World) (hra : RdP w ⟨(ta, sa), ⟨Ae, ae1, ae2⟩, ⟨Ak, ak1, ak2⟩, ⟨Ac, ac1, ac2⟩⟩) (hla : LenT reachBytes ta) (hrb : RdP w ⟨(tb, sb), ⟨Be, be1, be2⟩, ⟨Bk, bk1, bk2⟩, ⟨Bc, bc1, bc2⟩⟩) (hlb : LenT reachBytes tb) (hnl : l.length = nl) (hsl : Rd w w.heap.size 1 Al nl cl (Tr.strs l))  :
  Calls Tryz.prog 12 #[.agg #[.slice Ae ae1 ae2, .slice Ak ak1 ak2, .slice Ac ac1 ac2], .agg #[.slice Be be1 be2, .slice Bk bk1 bk2, .slice Bc bc1 bc2], .slice Al nl cl] w fun e w' => e = .returned (.bool true) ∧ Below w.heap.size w w' := by
 obtain ⟨W, p, q, HW, HP, HQ, HKc⟩ := boxL w Ae Ak Ac ae1 ak1 ae2 ak2 ac1 ac2 Be Bk Bc be1 bk1 be2 bk2 bc1 bc2
 have Ra := Lib.hid (hra.later HKc.out.below)
 have La := Lib.hid hla
 have Rb := Lib.hid (hrb.later HKc.out.below)
 have Lb := Lib.hid hlb
 clear hra hla hrb hlb
 have Rl := Lib.hid (hsl.later HKc.out.below)
 have HNl := Lib.hid hnl
 clear hsl hnl
 have c0 := HKc.out.c0
 have c1 := HKc.out.c1
 have c2 := HKc.out.c2
 have c3 := HKc.out.c3
 have c4 := HKc.out.c4
 have c5 := HKc.out.c5
 go_enter Tryz.func12, Tryz.ntmps12
 go_wp2_with fail
 rw [← HW.out, ← HP.out, ← HQ.out]
 refine (awake_any W).mono ?_
 rintro e v1 ⟨rfl, hb9⟩
 have Ra := Lib.hid (Ra.out.later hb9)
 have Rb := Lib.hid (Rb.out.later hb9)
 have Rl := Lib.hid (Rl.out.later hb9)
 have HKc := Lib.hid (HKc.out.later hb9)
 clear hb9
 clear c0 c1 c2 c3 c4 c5
 have c0 := HKc.out.c0
 have c1 := HKc.out.c1
 have c2 := HKc.out.c2
 have c3 := HKc.out.c3
 have c4 := HKc.out.c4
 have c5 := HKc.out.c5
 obtain ⟨g2, hg2⟩ : ∃ g, g = v1.heap.size := ⟨_, rfl⟩
 obtain ⟨v2, hv2⟩ : ∃ W, W = v1.alloc (.cells #[.slice Ae ae1 ae2, .slice Ak ak1 ak2, .slice Ac ac1 ac2, .slice Be be1 be2, .slice Bk bk1 bk2, .slice Bc bc1 bc2] 29) := ⟨_, rfl⟩
 have hb9 : Below v1.heap.size v1 v2 := by rw [hv2]; exact Dt.box_below _ _ _
 have HCP : Hid (CellsP v2 g2 [⟨(ta, sa), ⟨Ae, ae1, ae2⟩, ⟨Ak, ak1, ak2⟩, ⟨Ac, ac1, ac2⟩⟩, ⟨(tb, sb), ⟨Be, be1, be2⟩, ⟨Bk, bk1, bk2⟩, ⟨Bc, bc1, bc2⟩⟩]) := by
  intro k hk
  simp at hk
  rcases (by omega : k = 0 ∨ k = 1) with rfl | rfl <;> refine ⟨?_, ?_, ?_⟩ <;> (rw [hv2, hg2]; go_simp)
 have Hg2 := Lib.hid hg2
 have Hv2 := Lib.hid hv2
 clear hg2 hv2
 have Ra := Lib.hid (Ra.out.later hb9)
 have Rb := Lib.hid (Rb.out.later hb9)
 have Rl := Lib.hid (Rl.out.later hb9)
 have HKc := Lib.hid (HKc.out.later hb9)
 clear hb9
 have HPS : Hid (∀ p ∈ ([⟨(ta, sa), ⟨Ae, ae1, ae2⟩, ⟨Ak, ak1, ak2⟩, ⟨Ac, ac1, ac2⟩⟩, ⟨(tb, sb), ⟨Be, be1, be2⟩, ⟨Bk, bk1, bk2⟩, ⟨Bc, bc1, bc2⟩⟩] : List CP), RdP v2 p) := by
  intro p hp
  simp at hp
  rcases hp with rfl | rfl
  ·exact Ra.out
  ·exact Rb.out
 have HLT : Hid (∀ p ∈ ([⟨(ta, sa), ⟨Ae, ae1, ae2⟩, ⟨Ak, ak1, ak2⟩, ⟨Ac, ac1, ac2⟩⟩, ⟨(tb, sb), ⟨Be, be1, be2⟩, ⟨Bk, bk1, bk2⟩, ⟨Bc, bc1, bc2⟩⟩] : List CP), LenT reachBytes p.k.1) := by
  intro p hp
  simp at hp
  rcases hp with rfl | rfl
  ·exact La.out
  ·exact Lb.out
 have HSM := Lib.hid (small_any9 [⟨(ta, sa), ⟨Ae, ae1, ae2⟩, ⟨Ak, ak1, ak2⟩, ⟨Ac, ac1, ac2⟩⟩, ⟨(tb, sb), ⟨Be, be1, be2⟩, ⟨Bk, bk1, bk2⟩, ⟨Bc, bc1, bc2⟩⟩] 2 g2 2 v2 rfl (by omega) HCP.out HPS.out HLT.out)
 clear HCP HPS HLT
 go_wp2_with fail
 rw [← Hv2.out, ← Hg2.out]
 refine HSM.out.mono ?_
 rintro e v3 ⟨b, rfl, hsm, hb9⟩
 have Ra := Lib.hid (Ra.out.later hb9)
 have Rb := Lib.hid (Rb.out.later hb9)
 have Rl := Lib.hid (Rl.out.later hb9)
 have HKc := Lib.hid (HKc.out.later hb9)
 clear hb9
 clear c0 c1 c2 c3 c4 c5 HSM
 cases b with
 | false =>
  clear hsm
  go_wp2_with fail
  refine (awake_any _).mono ?_
  rintro e v9 ⟨rfl, hb9⟩
  have HKc := Lib.hid (HKc.out.later hb9)
  clear hb9
  go_wp2_with fail
  go_ret
  exact ⟨rfl, HKc.out.below⟩
 | true =>
  have hsa := hsm rfl ⟨(ta, sa), ⟨Ae, ae1, ae2⟩, ⟨Ak, ak1, ak2⟩, ⟨Ac, ac1, ac2⟩⟩ (by simp)
  have Na : Hid (nodes ta ≤ 40) := hsa.1
  have Qa : Hid (ac1 ≤ 40) := hsa.2
  have hsb := hsm rfl ⟨(tb, sb), ⟨Be, be1, be2⟩, ⟨Bk, bk1, bk2⟩, ⟨Bc, bc1, bc2⟩⟩ (by simp)
  have Nb : Hid (nodes tb ≤ 40) := hsb.1
  have Qb : Hid (bc1 ≤ 40) := hsb.2
  clear hsm hsa hsb
  have c0 := HKc.out.c0
  have c1 := HKc.out.c1
  have c2 := HKc.out.c2
  have c3 := HKc.out.c3
  have c4 := HKc.out.c4
  have c5 := HKc.out.c5
  by_cases hk20 : nl ≤ 20
  ·have f20 : decide ((20 : Int) < (nl : Int)) = false := decide_eq_false (by omega)
   have hwv : w.heap.size ≤ v3.heap.size := HKc.out.below.size
   have hpv3 : p < v3.heap.size := World.block_lt_of_cell? v3 _ HKc.out.c0
   have hqv3 : q < v3.heap.size := World.block_lt_of_cell? v3 _ HKc.out.c3
   clear c0 c1 c2 c3 c4 c5
   go_wp2_with fail
   go_cut [7, 8] (fun s7 s8 wx => ∃ (gp gq : Nat) (p9 q9 : CP), s7 = .pointer (some ⟨gp, 0, none⟩) ∧ s8 = .pointer (some ⟨gq, 0, none⟩) ∧ Hid (MidO v3 gp gq p9 q9 (ta, sa) (tb, sb) wx))
   case first =>
    refine wp_region_held_drew (S := fun W => W.cell? ⟨p, 0, none⟩ = some (.slice Ae ae1 ae2) ∧ W.cell? ⟨p, 1, none⟩ = some (.slice Ak ak1 ak2) ∧ W.cell? ⟨p, 2, none⟩ = some (.slice Ac ac1 ac2) ∧ W.cell? ⟨q, 0, none⟩ = some (.slice Be be1 be2) ∧ W.cell? ⟨q, 1, none⟩ = some (.slice Bk bk1 bk2) ∧ W.cell? ⟨q, 2, none⟩ = some (.slice Bc bc1 bc2)) (by kernel_rfl) (by have h9 := HKc.out.drew; exact ⟨h9.c0, h9.c1, h9.c2, h9.c3, h9.c4, h9.c5⟩) (fun hHeld => ?_)
    obtain ⟨w1, hw1⟩ : ∃ v, v = v3.drew := ⟨_, rfl⟩
    have HBV : Hid (Below v3.heap.size v3 w1) := by unfold Hid; rw [hw1]; exact (Below.refl _ _).drew
    have HKc : Hid (Kept [(⟨p, 0, none⟩, .slice Ae ae1 ae2), (⟨p, 1, none⟩, .slice Ak ak1 ak2), (⟨p, 2, none⟩, .slice Ac ac1 ac2), (⟨q, 0, none⟩, .slice Be be1 be2), (⟨q, 1, none⟩, .slice Bk bk1 bk2), (⟨q, 2, none⟩, .slice Bc bc1 bc2)] w w1) := by unfold Hid; rw [hw1]; exact HKc.out.drew
    rw [← hw1] at hHeld ⊢
    clear hw1
    refine Tk 0 30 ?_
    refine Tk 2 32 ?_
    refine wpAnyH_ready (rs := [1, 4, 5]) (by kernel_rfl) (by simp) ?_
    refine AllReadyH.cons (o := ⟨some 31, _, _, _, _, _⟩) rfl (fun K hK => ?_) (AllReadyH.cons (o := ⟨some 7, _, _, _, _, _⟩) rfl (fun K hK => ?_) (AllReadyH.cons (o := ⟨some 8, _, _, _, _, _⟩) rfl (fun K hK => ?_) (AllReadyH.nil)))
    ·go_simp
     (go_at_call 30; refine (refcloneK_any ta sa Ae Ak Ac ae1 ak1 ae2 ak2 ac1 ac2 w1 (by have := Na.out; omega) Ra.out.len (by have := Qa.out; omega) (RdP.later Ra.out HBV.out).tree (RdP.later Ra.out HBV.out).ctx).mono ?_)
     rintro e x1 ⟨Pe, pe1, pe2, Pk, pk1, pk2, Pc, pc1, pc2, rfl, how, hb9⟩
     have HNp : Hid (NoC x1 (fun b => True) ⟨(ta, sa), ⟨Pe, pe1, pe2⟩, ⟨Pk, pk1, pk2⟩, ⟨Pc, pc1, pc2⟩⟩) := NoC.of_own how (fun b hb _ => trivial)
     clear how
     have HKc := Lib.hid (HKc.out.later hb9)
     have HBV := Lib.hid (HBV.out.trans (hb9.mono HBV.out.size))
     clear hb9
     refine hK.out _ _ ?_ (fun hHeld2 => ?_)
     ·exact ⟨HKc.out.c0, HKc.out.c1, HKc.out.c2, HKc.out.c3, HKc.out.c4, HKc.out.c5⟩
     clear hK K hHeld
     have hHeld := hHeld2
     clear hHeld2
     try simp only [Act.put, List.setIfInBounds_toArray, List.set_cons_zero, List.set_cons_succ]
     refine wpAnyH_ready (rs := [3, 4, 5]) (by kernel_rfl) (by simp) ?_
     refine AllReadyH.cons (o := ⟨some 33, _, _, _, _, _⟩) rfl (fun K hK => ?_) (AllReadyH.cons (o := ⟨some 7, _, _, _, _, _⟩) rfl (fun K hK => ?_) (AllReadyH.cons (o := ⟨some 8, _, _, _, _, _⟩) rfl (fun K hK => ?_) (AllReadyH.nil)))
     ·go_simp
      (go_at_call 30; refine (refcloneK_any tb sb Be Bk Bc be1 bk1 be2 bk2 bc1 bc2 x1 (by have := Nb.out; omega) Rb.out.len (by have := Qb.out; omega) (RdP.later Rb.out HBV.out).tree (RdP.later Rb.out HBV.out).ctx).mono ?_)
      rintro e x13 ⟨Qe, qe1, qe2, Qk, qk1, qk2, Qc, qc1, qc2, rfl, how, hb9⟩
      have HNq : Hid (NoC x13 (fun b => True) ⟨(tb, sb), ⟨Qe, qe1, qe2⟩, ⟨Qk, qk1, qk2⟩, ⟨Qc, qc1, qc2⟩⟩) := NoC.of_own how (fun b hb _ => trivial)
      clear how
      have HKc := Lib.hid (HKc.out.later hb9)
      have HBV := Lib.hid (HBV.out.trans (hb9.mono HBV.out.size))
      have HNp := Lib.hid (HNp.out.later hb9)
      clear hb9
      refine hK.out _ _ ?_ (fun hHeld2 => ?_)
      ·exact ⟨HKc.out.c0, HKc.out.c1, HKc.out.c2, HKc.out.c3, HKc.out.c4, HKc.out.c5⟩
      clear hK K hHeld
      have hHeld := hHeld2
      clear hHeld2
      try simp only [Act.put, List.setIfInBounds_toArray, List.set_cons_zero, List.set_cons_succ]
      refine wpAnyH_ready (rs := [4, 5]) (by kernel_rfl) (by simp) ?_
      refine AllReadyH.cons (o := ⟨some 7, _, _, _, _, _⟩) rfl (fun K hK => ?_) (AllReadyH.cons (o := ⟨some 8, _, _, _, _, _⟩) rfl (fun K hK => ?_) (AllReadyH.nil))
      ·go_simp
       refine hK.out _ _ ?_ (fun hHeld2 => ?_)
       ·exact ⟨(HKc.out.alloc _).c0, (HKc.out.alloc _).c1, (HKc.out.alloc _).c2, (HKc.out.alloc _).c3, (HKc.out.alloc _).c4, (HKc.out.alloc _).c5⟩
       clear hK K hHeld
       have hHeld := hHeld2
       clear hHeld2
       obtain ⟨gp, hgp⟩ : ∃ g, g = x13.heap.size := ⟨_, rfl⟩
       obtain ⟨x134, hx134⟩ : ∃ W, W = x13.alloc (.cells #[.slice none 0 0, .slice none 0 0, .slice none 0 0] 29) := ⟨_, rfl⟩
       have HBX : Hid (v3.heap.size ≤ x13.heap.size) := HBV.out.size
       have hb9 : Below x13.heap.size x13 x134 := by rw [hx134]; exact Dt.box_below _ _ _
       have e0 : x134.cell? ⟨gp, 0, none⟩ = some (.slice none 0 0) := by rw [hx134, hgp]; go_simp
       have e1 : x134.cell? ⟨gp, 1, none⟩ = some (.slice none 0 0) := by rw [hx134, hgp]; go_simp
       have e2 : x134.cell? ⟨gp, 2, none⟩ = some (.slice none 0 0) := by rw [hx134, hgp]; go_simp
       have HNp := Lib.hid ((HNp.out.mono (ok' := fun b => b ≠ gp) (fun b hb hlt => by omega)).later hb9)
       have HNq := Lib.hid ((HNq.out.mono (ok' := fun b => b ≠ gp) (fun b hb hlt => by omega)).later hb9)
       have HKc := Lib.hid (HKc.out.later hb9)
       have HBV := Lib.hid (HBV.out.trans (hb9.mono HBV.out.size))
       have HZp : Hid (Kept [(⟨gp, 0, none⟩, .slice none 0 0), (⟨gp, 1, none⟩, .slice none 0 0), (⟨gp, 2, none⟩, .slice none 0 0)] v3 x134) := (((Kept.nil_of HBV.out).cons_of e2).cons_of e1).cons_of e0
       have HFp : Hid (Free gp x134) := ⟨by rw [hx134, hgp]; simp, fun j => by rw [hx134, hgp]; go_simp⟩
       have hltp : gp < x134.heap.size := HFp.out.1
       have hvp : v3.heap.size ≤ gp := by rw [hgp]; exact (Nat.le_trans HBX.out (Nat.le_refl _))
       (try rw [← hx134] at hHeld)
       rw [← hgp, ← hx134]
       clear hgp hx134 hb9 e0 e1 e2
       try simp only [Act.put, List.setIfInBounds_toArray, List.set_cons_zero, List.set_cons_succ]
       refine wpAnyH_ready (rs := [5]) (by kernel_rfl) (by simp) ?_
       refine AllReadyH.cons (o := ⟨some 8, _, _, _, _, _⟩) rfl (fun K hK => ?_) AllReadyH.nil
       go_simp
       refine hK.out _ _ ?_ (fun hHeld2 => ?_)
       ·exact ⟨(HKc.out.alloc _).c0, (HKc.out.alloc _).c1, (HKc.out.alloc _).c2, (HKc.out.alloc _).c3, (HKc.out.alloc _).c4, (HKc.out.alloc _).c5⟩
       clear hK K hHeld
       have hHeld := hHeld2
       clear hHeld2
       obtain ⟨gq, hgq⟩ : ∃ g, g = x134.heap.size := ⟨_, rfl⟩
       obtain ⟨x1345, hx1345⟩ : ∃ W, W = x134.alloc (.cells #[.slice none 0 0, .slice none 0 0, .slice none 0 0] 29) := ⟨_, rfl⟩
       have HBX : Hid (v3.heap.size ≤ x134.heap.size) := HBV.out.size
       have hb9 : Below x134.heap.size x134 x1345 := by rw [hx1345]; exact Dt.box_below _ _ _
       have e0 : x1345.cell? ⟨gq, 0, none⟩ = some (.slice none 0 0) := by rw [hx1345, hgq]; go_simp
       have e1 : x1345.cell? ⟨gq, 1, none⟩ = some (.slice none 0 0) := by rw [hx1345, hgq]; go_simp
       have e2 : x1345.cell? ⟨gq, 2, none⟩ = some (.slice none 0 0) := by rw [hx1345, hgq]; go_simp
       have HNp := Lib.hid ((HNp.out.mono (ok' := fun b => b ≠ gp ∧ b ≠ gq) (fun b hb hlt => ⟨hb, by omega⟩)).later hb9)
       have HNq := Lib.hid ((HNq.out.mono (ok' := fun b => b ≠ gp ∧ b ≠ gq) (fun b hb hlt => ⟨hb, by omega⟩)).later hb9)
       have HKc := Lib.hid (HKc.out.later hb9)
       have HBV := Lib.hid (HBV.out.trans (hb9.mono HBV.out.size))
       have HZp := Lib.hid (HZp.out.later hb9)
       have HFp := Lib.hid (HFp.out.later hb9)
       have hltp : gp < x1345.heap.size := HFp.out.1
       have HZq : Hid (Kept [(⟨gq, 0, none⟩, .slice none 0 0), (⟨gq, 1, none⟩, .slice none 0 0), (⟨gq, 2, none⟩, .slice none 0 0)] v3 x1345) := (((Kept.nil_of HBV.out).cons_of e2).cons_of e1).cons_of e0
       have HFq : Hid (Free gq x1345) := ⟨by rw [hx1345, hgq]; simp, fun j => by rw [hx1345, hgq]; go_simp⟩
       have hltq : gq < x1345.heap.size := HFq.out.1
       have hvq : v3.heap.size ≤ gq := by rw [hgq]; exact (Nat.le_trans HBX.out (Nat.le_refl _))
       have hne1 : ¬ gp = gq := by omega
       have hne2 : ¬ gq = gp := by omega
       (try rw [← hx1345] at hHeld)
       rw [← hgq, ← hx1345]
       clear hgq hx1345 hb9 e0 e1 e2
       have zp0 := HZp.out.c0
       have mp0 := HFp.out.2 0
       have zp1 := HZp.out.c1
       have mp1 := HFp.out.2 1
       have zp2 := HZp.out.c2
       have mp2 := HFp.out.2 2
       have zq0 := HZq.out.c0
       have mq0 := HFq.out.2 0
       have zq1 := HZq.out.c1
       have mq1 := HFq.out.2 1
       have zq2 := HZq.out.c2
       have mq2 := HFq.out.2 2
       try simp only [Act.put, List.setIfInBounds_toArray, List.set_cons_zero, List.set_cons_succ]
       refine wpAnyH_ready (rs := [6]) (by kernel_rfl) (by simp) ?_
       refine AllReadyH.cons (o := ⟨none, _, _, _, _, _⟩) rfl (fun K hK => ?_) AllReadyH.nil
       go_simp
       refine hK.out _ _ ?_ (fun hHeld2 => ?_)
       ·(try dsimp only)
        have h9 := HKc.out
        have h9 := h9.set (a := ⟨gp, 0, none⟩) (Nat.le_trans hwv hvp) (fun x hx => by simp at hx; rcases hx with rfl | rfl | rfl | rfl | rfl | rfl <;> (dsimp only; omega)) (.slice Pe pe1 pe2)
        have h9 := h9.set (a := ⟨gp, 1, none⟩) (Nat.le_trans hwv hvp) (fun x hx => by simp at hx; rcases hx with rfl | rfl | rfl | rfl | rfl | rfl <;> (dsimp only; omega)) (.slice Pk pk1 pk2)
        have h9 := h9.set (a := ⟨gp, 2, none⟩) (Nat.le_trans hwv hvp) (fun x hx => by simp at hx; rcases hx with rfl | rfl | rfl | rfl | rfl | rfl <;> (dsimp only; omega)) (.slice Pc pc1 pc2)
        exact ⟨h9.c0, h9.c1, h9.c2, h9.c3, h9.c4, h9.c5⟩
       clear hK K hHeld
       have hHeld := hHeld2
       clear hHeld2
       try simp only [Act.put, List.setIfInBounds_toArray, List.set_cons_zero, List.set_cons_succ]
       refine wpAnyH_ready (rs := [7]) (by kernel_rfl) (by simp) ?_
       refine AllReadyH.cons (o := ⟨none, _, _, _, _, _⟩) rfl (fun K hK => ?_) AllReadyH.nil
       go_simp
       refine hK.out _ _ ?_ (fun hHeld2 => ?_)
       ·(try dsimp only)
        have h9 := HKc.out
        have h9 := h9.set (a := ⟨gp, 0, none⟩) (Nat.le_trans hwv hvp) (fun x hx => by simp at hx; rcases hx with rfl | rfl | rfl | rfl | rfl | rfl <;> (dsimp only; omega)) (.slice Pe pe1 pe2)
        have h9 := h9.set (a := ⟨gp, 1, none⟩) (Nat.le_trans hwv hvp) (fun x hx => by simp at hx; rcases hx with rfl | rfl | rfl | rfl | rfl | rfl <;> (dsimp only; omega)) (.slice Pk pk1 pk2)
        have h9 := h9.set (a := ⟨gp, 2, none⟩) (Nat.le_trans hwv hvp) (fun x hx => by simp at hx; rcases hx with rfl | rfl | rfl | rfl | rfl | rfl <;> (dsimp only; omega)) (.slice Pc pc1 pc2)
        have h9 := h9.set (a := ⟨gq, 0, none⟩) (Nat.le_trans hwv hvq) (fun x hx => by simp at hx; rcases hx with rfl | rfl | rfl | rfl | rfl | rfl <;> (dsimp only; omega)) (.slice Qe qe1 qe2)
        have h9 := h9.set (a := ⟨gq, 1, none⟩) (Nat.le_trans hwv hvq) (fun x hx => by simp at hx; rcases hx with rfl | rfl | rfl | rfl | rfl | rfl <;> (dsimp only; omega)) (.slice Qk qk1 qk2)
        have h9 := h9.set (a := ⟨gq, 2, none⟩) (Nat.le_trans hwv hvq) (fun x hx => by simp at hx; rcases hx with rfl | rfl | rfl | rfl | rfl | rfl <;> (dsimp only; omega)) (.slice Qc qc1 qc2)
        exact ⟨h9.c0, h9.c1, h9.c2, h9.c3, h9.c4, h9.c5⟩
       clear hK K hHeld
       have hHeld := hHeld2
       clear hHeld2
       try simp only [Act.put, List.setIfInBounds_toArray, List.set_cons_zero, List.set_cons_succ]
       refine wpAnyH_done (by kernel_rfl) ?_ _
       clear hHeld
       have HMID : Hid (MidO v3 gp gq ⟨(ta, sa), ⟨Pe, pe1, pe2⟩, ⟨Pk, pk1, pk2⟩, ⟨Pc, pc1, pc2⟩⟩ ⟨(tb, sb), ⟨Qe, qe1, qe2⟩, ⟨Qk, qk1, qk2⟩, ⟨Qc, qc1, qc2⟩⟩ (ta, sa) (tb, sb) ((((((x1345.setCell ⟨gp, 0, none⟩ (.slice Pe pe1 pe2)).setCell ⟨gp, 1, none⟩ (.slice Pk pk1 pk2)).setCell ⟨gp, 2, none⟩ (.slice Pc pc1 pc2)).setCell ⟨gq, 0, none⟩ (.slice Qe qe1 qe2)).setCell ⟨gq, 1, none⟩ (.slice Qk qk1 qk2)).setCell ⟨gq, 2, none⟩ (.slice Qc qc1 qc2))) := by
        obtain ⟨W9, hW9⟩ : ∃ W, W = ((((((x1345.setCell ⟨gp, 0, none⟩ (.slice Pe pe1 pe2)).setCell ⟨gp, 1, none⟩ (.slice Pk pk1 pk2)).setCell ⟨gp, 2, none⟩ (.slice Pc pc1 pc2)).setCell ⟨gq, 0, none⟩ (.slice Qe qe1 qe2)).setCell ⟨gq, 1, none⟩ (.slice Qk qk1 qk2)).setCell ⟨gq, 2, none⟩ (.slice Qc qc1 qc2)) := ⟨_, rfl⟩
        rw [← hW9]
        have hk : ∀ b, (b ≠ gp ∧ b ≠ gq) → b < x1345.heap.size → W9.heap[b]? = x1345.heap[b]? := fun b hb _ => by
         rw [hW9]
         exact (((((Below.heap_setCell _ ⟨gq, 2, none⟩ _ b (fun e => hb.2 e)).trans (Below.heap_setCell _ ⟨gq, 1, none⟩ _ b (fun e => hb.2 e))).trans (Below.heap_setCell _ ⟨gq, 0, none⟩ _ b (fun e => hb.2 e))).trans (Below.heap_setCell _ ⟨gp, 2, none⟩ _ b (fun e => hb.1 e))).trans (Below.heap_setCell _ ⟨gp, 1, none⟩ _ b (fun e => hb.1 e))).trans (Below.heap_setCell _ ⟨gp, 0, none⟩ _ b (fun e => hb.1 e))
        have hs : x1345.heap.size ≤ W9.heap.size := by rw [hW9]; simp [World.setCell]
        have hb : Below v3.heap.size v3 W9 := by
         rw [hW9]
         exact (((((HBV.out.setCell (p := ⟨gp, 0, none⟩) hvp _).setCell (p := ⟨gp, 1, none⟩) hvp _).setCell (p := ⟨gp, 2, none⟩) hvp _).setCell (p := ⟨gq, 0, none⟩) hvq _).setCell (p := ⟨gq, 1, none⟩) hvq _).setCell (p := ⟨gq, 2, none⟩) hvq _
        refine ⟨rfl, rfl, (HNp.out.keep hs hk).rd, (HNq.out.keep hs hk).rd, ?_⟩
        refine ((((((Kept.nil_of hb).cons_of ?_).cons_of ?_).cons_of ?_).cons_of ?_).cons_of ?_).cons_of ?_ <;> (rw [hW9]; go_simp)
       clear zp0 mp0 zp1 mp1 zp2 mp2 zq0 mq0 zq1 mq1 zq2 mq2
       go_wp2_with fail
       go_meet
       exact ⟨gp, gq, ⟨(ta, sa), ⟨Pe, pe1, pe2⟩, ⟨Pk, pk1, pk2⟩, ⟨Pc, pc1, pc2⟩⟩, ⟨(tb, sb), ⟨Qe, qe1, qe2⟩, ⟨Qk, qk1, qk2⟩, ⟨Qc, qc1, qc2⟩⟩, rfl, rfl, HMID.out⟩
      ·go_simp
       refine hK.out _ _ ?_ (fun hHeld2 => ?_)
       ·exact ⟨(HKc.out.alloc _).c0, (HKc.out.alloc _).c1, (HKc.out.alloc _).c2, (HKc.out.alloc _).c3, (HKc.out.alloc _).c4, (HKc.out.alloc _).c5⟩
       clear hK K hHeld
       have hHeld := hHeld2
       clear hHeld2
       obtain ⟨gq, hgq⟩ : ∃ g, g = x13.heap.size := ⟨_, rfl⟩
       obtain ⟨x135, hx135⟩ : ∃ W, W = x13.alloc (.cells #[.slice none 0 0, .slice none 0 0, .slice none 0 0] 29) := ⟨_, rfl⟩
       have HBX : Hid (v3.heap.size ≤ x13.heap.size) := HBV.out.size
       have hb9 : Below x13.heap.size x13 x135 := by rw [hx135]; exact Dt.box_below _ _ _
       have e0 : x135.cell? ⟨gq, 0, none⟩ = some (.slice none 0 0) := by rw [hx135, hgq]; go_simp
       have e1 : x135.cell? ⟨gq, 1, none⟩ = some (.slice none 0 0) := by rw [hx135, hgq]; go_simp
       have e2 : x135.cell? ⟨gq, 2, none⟩ = some (.slice none 0 0) := by rw [hx135, hgq]; go_simp
       have HNp := Lib.hid ((HNp.out.mono (ok' := fun b => b ≠ gq) (fun b hb hlt => by omega)).later hb9)
       have HNq := Lib.hid ((HNq.out.mono (ok' := fun b => b ≠ gq) (fun b hb hlt => by omega)).later hb9)
       have HKc := Lib.hid (HKc.out.later hb9)
       have HBV := Lib.hid (HBV.out.trans (hb9.mono HBV.out.size))
       have HZq : Hid (Kept [(⟨gq, 0, none⟩, .slice none 0 0), (⟨gq, 1, none⟩, .slice none 0 0), (⟨gq, 2, none⟩, .slice none 0 0)] v3 x135) := (((Kept.nil_of HBV.out).cons_of e2).cons_of e1).cons_of e0
       have HFq : Hid (Free gq x135) := ⟨by rw [hx135, hgq]; simp, fun j => by rw [hx135, hgq]; go_simp⟩
       have hltq : gq < x135.heap.size := HFq.out.1
       have hvq : v3.heap.size ≤ gq := by rw [hgq]; exact (Nat.le_trans HBX.out (Nat.le_refl _))
       (try rw [← hx135] at hHeld)
       rw [← hgq, ← hx135]
       clear hgq hx135 hb9 e0 e1 e2
       try simp only [Act.put, List.setIfInBounds_toArray, List.set_cons_zero, List.set_cons_succ]
       refine wpAnyH_ready (rs := [4]) (by kernel_rfl) (by simp) ?_
       refine AllReadyH.cons (o := ⟨some 7, _, _, _, _, _⟩) rfl (fun K hK => ?_) AllReadyH.nil
       go_simp
       refine hK.out _ _ ?_ (fun hHeld2 => ?_)
       ·exact ⟨(HKc.out.alloc _).c0, (HKc.out.alloc _).c1, (HKc.out.alloc _).c2, (HKc.out.alloc _).c3, (HKc.out.alloc _).c4, (HKc.out.alloc _).c5⟩
       clear hK K hHeld
       have hHeld := hHeld2
       clear hHeld2
       obtain ⟨gp, hgp⟩ : ∃ g, g = x135.heap.size := ⟨_, rfl⟩
       obtain ⟨x1354, hx1354⟩ : ∃ W, W = x135.alloc (.cells #[.slice none 0 0, .slice none 0 0, .slice none 0 0] 29) := ⟨_, rfl⟩
       have HBX : Hid (v3.heap.size ≤ x135.heap.size) := HBV.out.size
       have hb9 : Below x135.heap.size x135 x1354 := by rw [hx1354]; exact Dt.box_below _ _ _
       have e0 : x1354.cell? ⟨gp, 0, none⟩ = some (.slice none 0 0) := by rw [hx1354, hgp]; go_simp
       have e1 : x1354.cell? ⟨gp, 1, none⟩ = some (.slice none 0 0) := by rw [hx1354, hgp]; go_simp
       have e2 : x1354.cell? ⟨gp, 2, none⟩ = some (.slice none 0 0) := by rw [hx1354, hgp]; go_simp
       have HNp := Lib.hid ((HNp.out.mono (ok' := fun b => b ≠ gp ∧ b ≠ gq) (fun b hb hlt => ⟨by omega, hb⟩)).later hb9)
       have HNq := Lib.hid ((HNq.out.mono (ok' := fun b => b ≠ gp ∧ b ≠ gq) (fun b hb hlt => ⟨by omega, hb⟩)).later hb9)
       have HKc := Lib.hid (HKc.out.later hb9)
       have HBV := Lib.hid (HBV.out.trans (hb9.mono HBV.out.size))
       have HZq := Lib.hid (HZq.out.later hb9)
       have HFq := Lib.hid (HFq.out.later hb9)
       have hltq : gq < x1354.heap.size := HFq.out.1
       have HZp : Hid (Kept [(⟨gp, 0, none⟩, .slice none 0 0), (⟨gp, 1, none⟩, .slice none 0 0), (⟨gp, 2, none⟩, .slice none 0 0)] v3 x1354) := (((Kept.nil_of HBV.out).cons_of e2).cons_of e1).cons_of e0
       have HFp : Hid (Free gp x1354) := ⟨by rw [hx1354, hgp]; simp, fun j => by rw [hx1354, hgp]; go_simp⟩
       have hltp : gp < x1354.heap.size := HFp.out.1
       have hvp : v3.heap.size ≤ gp := by rw [hgp]; exact (Nat.le_trans HBX.out (Nat.le_refl _))
       have hne1 : ¬ gp = gq := by omega
       have hne2 : ¬ gq = gp := by omega
       (try rw [← hx1354] at hHeld)
       rw [← hgp, ← hx1354]
       clear hgp hx1354 hb9 e0 e1 e2
       have zp0 := HZp.out.c0
       have mp0 := HFp.out.2 0
       have zp1 := HZp.out.c1
       have mp1 := HFp.out.2 1
       have zp2 := HZp.out.c2
       have mp2 := HFp.out.2 2
       have zq0 := HZq.out.c0
       have mq0 := HFq.out.2 0
       have zq1 := HZq.out.c1
       have mq1 := HFq.out.2 1
       have zq2 := HZq.out.c2
       have mq2 := HFq.out.2 2
       try simp only [Act.put, List.setIfInBounds_toArray, List.set_cons_zero, List.set_cons_succ]
       refine wpAnyH_ready (rs := [6]) (by kernel_rfl) (by simp) ?_
       refine AllReadyH.cons (o := ⟨none, _, _, _, _, _⟩) rfl (fun K hK => ?_) AllReadyH.nil
       go_simp
       refine hK.out _ _ ?_ (fun hHeld2 => ?_)
       ·(try dsimp only)
        have h9 := HKc.out
        have h9 := h9.set (a := ⟨gp, 0, none⟩) (Nat.le_trans hwv hvp) (fun x hx => by simp at hx; rcases hx with rfl | rfl | rfl | rfl | rfl | rfl <;> (dsimp only; omega)) (.slice Pe pe1 pe2)
        have h9 := h9.set (a := ⟨gp, 1, none⟩) (Nat.le_trans hwv hvp) (fun x hx => by simp at hx; rcases hx with rfl | rfl | rfl | rfl | rfl | rfl <;> (dsimp only; omega)) (.slice Pk pk1 pk2)
        have h9 := h9.set (a := ⟨gp, 2, none⟩) (Nat.le_trans hwv hvp) (fun x hx => by simp at hx; rcases hx with rfl | rfl | rfl | rfl | rfl | rfl <;> (dsimp only; omega)) (.slice Pc pc1 pc2)
        exact ⟨h9.c0, h9.c1, h9.c2, h9.c3, h9.c4, h9.c5⟩
       clear hK K hHeld
       have hHeld := hHeld2
       clear hHeld2
       try simp only [Act.put, List.setIfInBounds_toArray, List.set_cons_zero, List.set_cons_succ]
       refine wpAnyH_ready (rs := [7]) (by kernel_rfl) (by simp) ?_
       refine AllReadyH.cons (o := ⟨none, _, _, _, _, _⟩) rfl (fun K hK => ?_) AllReadyH.nil
       go_simp
       refine hK.out _ _ ?_ (fun hHeld2 => ?_)
       ·(try dsimp only)
        have h9 := HKc.out
        have h9 := h9.set (a := ⟨gp, 0, none⟩) (Nat.le_trans hwv hvp) (fun x hx => by simp at hx; rcases hx with rfl | rfl | rfl | rfl | rfl | rfl <;> (dsimp only; omega)) (.slice Pe pe1 pe2)
        have h9 := h9.set (a := ⟨gp, 1, none⟩) (Nat.le_trans hwv hvp) (fun x hx => by simp at hx; rcases hx with rfl | rfl | rfl | rfl | rfl | rfl <;> (dsimp only; omega)) (.slice Pk pk1 pk2)
        have h9 := h9.set (a := ⟨gp, 2, none⟩) (Nat.le_trans hwv hvp) (fun x hx => by simp at hx; rcases hx with rfl | rfl | rfl | rfl | rfl | rfl <;> (dsimp only; omega)) (.slice Pc pc1 pc2)
        have h9 := h9.set (a := ⟨gq, 0, none⟩) (Nat.le_trans hwv hvq) (fun x hx => by simp at hx; rcases hx with rfl | rfl | rfl | rfl | rfl | rfl <;> (dsimp only; omega)) (.slice Qe qe1 qe2)
        have h9 := h9.set (a := ⟨gq, 1, none⟩) (Nat.le_trans hwv hvq) (fun x hx => by simp at hx; rcases hx with rfl | rfl | rfl | rfl | rfl | rfl <;> (dsimp only; omega)) (.slice Qk qk1 qk2)
        have h9 := h9.set (a := ⟨gq, 2, none⟩) (Nat.le_trans hwv hvq) (fun x hx => by simp at hx; rcases hx with rfl | rfl | rfl | rfl | rfl | rfl <;> (dsimp only; omega)) (.slice Qc qc1 qc2)
        exact ⟨h9.c0, h9.c1, h9.c2, h9.c3, h9.c4, h9.c5⟩
       clear hK K hHeld
       have hHeld := hHeld2
       clear hHeld2
       try simp only [Act.put, List.setIfInBounds_toArray, List.set_cons_zero, List.set_cons_succ]
       refine wpAnyH_done (by kernel_rfl) ?_ _
       clear hHeld
       have HMID : Hid (MidO v3 gp gq ⟨(ta, sa), ⟨Pe, pe1, pe2⟩, ⟨Pk, pk1, pk2⟩, ⟨Pc, pc1, pc2⟩⟩ ⟨(tb, sb), ⟨Qe, qe1, qe2⟩, ⟨Qk, qk1, qk2⟩, ⟨Qc, qc1, qc2⟩⟩ (ta, sa) (tb, sb) ((((((x1354.setCell ⟨gp, 0, none⟩ (.slice Pe pe1 pe2)).setCell ⟨gp, 1, none⟩ (.slice Pk pk1 pk2)).setCell ⟨gp, 2, none⟩ (.slice Pc pc1 pc2)).setCell ⟨gq, 0, none⟩ (.slice Qe qe1 qe2)).setCell ⟨gq, 1, none⟩ (.slice Qk qk1 qk2)).setCell ⟨gq, 2, none⟩ (.slice Qc qc1 qc2))) := by
        obtain ⟨W9, hW9⟩ : ∃ W, W = ((((((x1354.setCell ⟨gp, 0, none⟩ (.slice Pe pe1 pe2)).setCell ⟨gp, 1, none⟩ (.slice Pk pk1 pk2)).setCell ⟨gp, 2, none⟩ (.slice Pc pc1 pc2)).setCell ⟨gq, 0, none⟩ (.slice Qe qe1 qe2)).setCell ⟨gq, 1, none⟩ (.slice Qk qk1 qk2)).setCell ⟨gq, 2, none⟩ (.slice Qc qc1 qc2)) := ⟨_, rfl⟩
        rw [← hW9]
        have hk : ∀ b, (b ≠ gp ∧ b ≠ gq) → b < x1354.heap.size → W9.heap[b]? = x1354.heap[b]? := fun b hb _ => by
         rw [hW9]
         exact (((((Below.heap_setCell _ ⟨gq, 2, none⟩ _ b (fun e => hb.2 e)).trans (Below.heap_setCell _ ⟨gq, 1, none⟩ _ b (fun e => hb.2 e))).trans (Below.heap_setCell _ ⟨gq, 0, none⟩ _ b (fun e => hb.2 e))).trans (Below.heap_setCell _ ⟨gp, 2, none⟩ _ b (fun e => hb.1 e))).trans (Below.heap_setCell _ ⟨gp, 1, none⟩ _ b (fun e => hb.1 e))).trans (Below.heap_setCell _ ⟨gp, 0, none⟩ _ b (fun e => hb.1 e))
        have hs : x1354.heap.size ≤ W9.heap.size := by rw [hW9]; simp [World.setCell]
        have hb : Below v3.heap.size v3 W9 := by
         rw [hW9]
         exact (((((HBV.out.setCell (p := ⟨gp, 0, none⟩) hvp _).setCell (p := ⟨gp, 1, none⟩) hvp _).setCell (p := ⟨gp, 2, none⟩) hvp _).setCell (p := ⟨gq, 0, none⟩) hvq _).setCell (p := ⟨gq, 1, none⟩) hvq _).setCell (p := ⟨gq, 2, none⟩) hvq _
        refine ⟨rfl, rfl, (HNp.out.keep hs hk).rd, (HNq.out.keep hs hk).rd, ?_⟩
        refine ((((((Kept.nil_of hb).cons_of ?_).cons_of ?_).cons_of ?_).cons_of ?_).cons_of ?_).cons_of ?_ <;> (rw [hW9]; go_simp)
       clear zp0 mp0 zp1 mp1 zp2 mp2 zq0 mq0 zq1 mq1 zq2 mq2
       go_wp2_with fail
       go_meet
       exact ⟨gp, gq, ⟨(ta, sa), ⟨Pe, pe1, pe2⟩, ⟨Pk, pk1, pk2⟩, ⟨Pc, pc1, pc2⟩⟩, ⟨(tb, sb), ⟨Qe, qe1, qe2⟩, ⟨Qk, qk1, qk2⟩, ⟨Qc, qc1, qc2⟩⟩, rfl, rfl, HMID.out⟩
     ·go_simp
      refine hK.out _ _ ?_ (fun hHeld2 => ?_)
      ·exact ⟨(HKc.out.alloc _).c0, (HKc.out.alloc _).c1, (HKc.out.alloc _).c2, (HKc.out.alloc _).c3, (HKc.out.alloc _).c4, (HKc.out.alloc _).c5⟩
      clear hK K hHeld
      have hHeld := hHeld2
      clear hHeld2
      obtain ⟨gp, hgp⟩ : ∃ g, g = x1.heap.size := ⟨_, rfl⟩
      obtain ⟨x14, hx14⟩ : ∃ W, W = x1.alloc (.cells #[.slice none 0 0, .slice none 0 0, .slice none 0 0] 29) := ⟨_, rfl⟩
      have HBX : Hid (v3.heap.size ≤ x1.heap.size) := HBV.out.size
      have hb9 : Below x1.heap.size x1 x14 := by rw [hx14]; exact Dt.box_below _ _ _
      have e0 : x14.cell? ⟨gp, 0, none⟩ = some (.slice none 0 0) := by rw [hx14, hgp]; go_simp
      have e1 : x14.cell? ⟨gp, 1, none⟩ = some (.slice none 0 0) := by rw [hx14, hgp]; go_simp
      have e2 : x14.cell? ⟨gp, 2, none⟩ = some (.slice none 0 0) := by rw [hx14, hgp]; go_simp
      have HNp := Lib.hid ((HNp.out.mono (ok' := fun b => b ≠ gp) (fun b hb hlt => by omega)).later hb9)
      have HKc := Lib.hid (HKc.out.later hb9)
      have HBV := Lib.hid (HBV.out.trans (hb9.mono HBV.out.size))
      have HZp : Hid (Kept [(⟨gp, 0, none⟩, .slice none 0 0), (⟨gp, 1, none⟩, .slice none 0 0), (⟨gp, 2, none⟩, .slice none 0 0)] v3 x14) := (((Kept.nil_of HBV.out).cons_of e2).cons_of e1).cons_of e0
      have HFp : Hid (Free gp x14) := ⟨by rw [hx14, hgp]; simp, fun j => by rw [hx14, hgp]; go_simp⟩
      have hltp : gp < x14.heap.size := HFp.out.1
      have hvp : v3.heap.size ≤ gp := by rw [hgp]; exact (Nat.le_trans HBX.out (Nat.le_refl _))
      (try rw [← hx14] at hHeld)
      rw [← hgp, ← hx14]
      clear hgp hx14 hb9 e0 e1 e2
      try simp only [Act.put, List.setIfInBounds_toArray, List.set_cons_zero, List.set_cons_succ]
      refine wpAnyH_ready (rs := [3, 5]) (by kernel_rfl) (by simp) ?_
      refine AllReadyH.cons (o := ⟨some 33, _, _, _, _, _⟩) rfl (fun K hK => ?_) (AllReadyH.cons (o := ⟨some 8, _, _, _, _, _⟩) rfl (fun K hK => ?_) (AllReadyH.nil))
      ·go_simp
       (go_at_call 30; refine (refcloneK_any tb sb Be Bk Bc be1 bk1 be2 bk2 bc1 bc2 x14 (by have := Nb.out; omega) Rb.out.len (by have := Qb.out; omega) (RdP.later Rb.out HBV.out).tree (RdP.later Rb.out HBV.out).ctx).mono ?_)
       rintro e x143 ⟨Qe, qe1, qe2, Qk, qk1, qk2, Qc, qc1, qc2, rfl, how, hb9⟩
       have HNq : Hid (NoC x143 (fun b => b ≠ gp) ⟨(tb, sb), ⟨Qe, qe1, qe2⟩, ⟨Qk, qk1, qk2⟩, ⟨Qc, qc1, qc2⟩⟩) := NoC.of_own how (fun b hb _ => by omega)
       clear how
       have HKc := Lib.hid (HKc.out.later hb9)
       have HBV := Lib.hid (HBV.out.trans (hb9.mono HBV.out.size))
       have HNp := Lib.hid (HNp.out.later hb9)
       have HZp := Lib.hid (HZp.out.later hb9)
       have HFp := Lib.hid (HFp.out.later hb9)
       have hltp : gp < x143.heap.size := HFp.out.1
       clear hb9
       refine hK.out _ _ ?_ (fun hHeld2 => ?_)
       ·exact ⟨HKc.out.c0, HKc.out.c1, HKc.out.c2, HKc.out.c3, HKc.out.c4, HKc.out.c5⟩
       clear hK K hHeld
       have hHeld := hHeld2
       clear hHeld2
       try simp only [Act.put, List.setIfInBounds_toArray, List.set_cons_zero, List.set_cons_succ]
       refine wpAnyH_ready (rs := [5]) (by kernel_rfl) (by simp) ?_
       refine AllReadyH.cons (o := ⟨some 8, _, _, _, _, _⟩) rfl (fun K hK => ?_) AllReadyH.nil
       go_simp
       refine hK.out _ _ ?_ (fun hHeld2 => ?_)
       ·exact ⟨(HKc.out.alloc _).c0, (HKc.out.alloc _).c1, (HKc.out.alloc _).c2, (HKc.out.alloc _).c3, (HKc.out.alloc _).c4, (HKc.out.alloc _).c5⟩
       clear hK K hHeld
       have hHeld := hHeld2
       clear hHeld2
       obtain ⟨gq, hgq⟩ : ∃ g, g = x143.heap.size := ⟨_, rfl⟩
       obtain ⟨x1435, hx1435⟩ : ∃ W, W = x143.alloc (.cells #[.slice none 0 0, .slice none 0 0, .slice none 0 0] 29) := ⟨_, rfl⟩
       have HBX : Hid (v3.heap.size ≤ x143.heap.size) := HBV.out.size
       have hb9 : Below x143.heap.size x143 x1435 := by rw [hx1435]; exact Dt.box_below _ _ _
       have e0 : x1435.cell? ⟨gq, 0, none⟩ = some (.slice none 0 0) := by rw [hx1435, hgq]; go_simp
       have e1 : x1435.cell? ⟨gq, 1, none⟩ = some (.slice none 0 0) := by rw [hx1435, hgq]; go_simp
       have e2 : x1435.cell? ⟨gq, 2, none⟩ = some (.slice none 0 0) := by rw [hx1435, hgq]; go_simp
       have HNp := Lib.hid ((HNp.out.mono (ok' := fun b => b ≠ gp ∧ b ≠ gq) (fun b hb hlt => ⟨hb, by omega⟩)).later hb9)
       have HNq := Lib.hid ((HNq.out.mono (ok' := fun b => b ≠ gp ∧ b ≠ gq) (fun b hb hlt => ⟨hb, by omega⟩)).later hb9)
       have HKc := Lib.hid (HKc.out.later hb9)
       have HBV := Lib.hid (HBV.out.trans (hb9.mono HBV.out.size))
       have HZp := Lib.hid (HZp.out.later hb9)
       have HFp := Lib.hid (HFp.out.later hb9)
       have hltp : gp < x1435.heap.size := HFp.out.1
       have HZq : Hid (Kept [(⟨gq, 0, none⟩, .slice none 0 0), (⟨gq, 1, none⟩, .slice none 0 0), (⟨gq, 2, none⟩, .slice none 0 0)] v3 x1435) := (((Kept.nil_of HBV.out).cons_of e2).cons_of e1).cons_of e0
       have HFq : Hid (Free gq x1435) := ⟨by rw [hx1435, hgq]; simp, fun j => by rw [hx1435, hgq]; go_simp⟩
       have hltq : gq < x1435.heap.size := HFq.out.1
       have hvq : v3.heap.size ≤ gq := by rw [hgq]; exact (Nat.le_trans HBX.out (Nat.le_refl _))
       have hne1 : ¬ gp = gq := by omega
       have hne2 : ¬ gq = gp := by omega
       (try rw [← hx1435] at hHeld)
       rw [← hgq, ← hx1435]
       clear hgq hx1435 hb9 e0 e1 e2
       have zp0 := HZp.out.c0
       have mp0 := HFp.out.2 0
       have zp1 := HZp.out.c1
       have mp1 := HFp.out.2 1
       have zp2 := HZp.out.c2
       have mp2 := HFp.out.2 2
       have zq0 := HZq.out.c0
       have mq0 := HFq.out.2 0
       have zq1 := HZq.out.c1
       have mq1 := HFq.out.2 1
       have zq2 := HZq.out.c2
       have mq2 := HFq.out.2 2
       try simp only [Act.put, List.setIfInBounds_toArray, List.set_cons_zero, List.set_cons_succ]
       refine wpAnyH_ready (rs := [6]) (by kernel_rfl) (by simp) ?_
       refine AllReadyH.cons (o := ⟨none, _, _, _, _, _⟩) rfl (fun K hK => ?_) AllReadyH.nil
       go_simp
       refine hK.out _ _ ?_ (fun hHeld2 => ?_)
       ·(try dsimp only)
        have h9 := HKc.out
        have h9 := h9.set (a := ⟨gp, 0, none⟩) (Nat.le_trans hwv hvp) (fun x hx => by simp at hx; rcases hx with rfl | rfl | rfl | rfl | rfl | rfl <;> (dsimp only; omega)) (.slice Pe pe1 pe2)
        have h9 := h9.set (a := ⟨gp, 1, none⟩) (Nat.le_trans hwv hvp) (fun x hx => by simp at hx; rcases hx with rfl | rfl | rfl | rfl | rfl | rfl <;> (dsimp only; omega)) (.slice Pk pk1 pk2)
        have h9 := h9.set (a := ⟨gp, 2, none⟩) (Nat.le_trans hwv hvp) (fun x hx => by simp at hx; rcases hx with rfl | rfl | rfl | rfl | rfl | rfl <;> (dsimp only; omega)) (.slice Pc pc1 pc2)
        exact ⟨h9.c0, h9.c1, h9.c2, h9.c3, h9.c4, h9.c5⟩
       clear hK K hHeld
       have hHeld := hHeld2
       clear hHeld2
       try simp only [Act.put, List.setIfInBounds_toArray, List.set_cons_zero, List.set_cons_succ]
       refine wpAnyH_ready (rs := [7]) (by kernel_rfl) (by simp) ?_
       refine AllReadyH.cons (o := ⟨none, _, _, _, _, _⟩) rfl (fun K hK => ?_) AllReadyH.nil
       go_simp
       refine hK.out _ _ ?_ (fun hHeld2 => ?_)
       ·(try dsimp only)
        have h9 := HKc.out
        have h9 := h9.set (a := ⟨gp, 0, none⟩) (Nat.le_trans hwv hvp) (fun x hx => by simp at hx; rcases hx with rfl | rfl | rfl | rfl | rfl | rfl <;> (dsimp only; omega)) (.slice Pe pe1 pe2)
        have h9 := h9.set (a := ⟨gp, 1, none⟩) (Nat.le_trans hwv hvp) (fun x hx => by simp at hx; rcases hx with rfl | rfl | rfl | rfl | rfl | rfl <;> (dsimp only; omega)) (.slice Pk pk1 pk2)
        have h9 := h9.set (a := ⟨gp, 2, none⟩) (Nat.le_trans hwv hvp) (fun x hx => by simp at hx; rcases hx with rfl | rfl | rfl | rfl | rfl | rfl <;> (dsimp only; omega)) (.slice Pc pc1 pc2)
        have h9 := h9.set (a := ⟨gq, 0, none⟩) (Nat.le_trans hwv hvq) (fun x hx => by simp at hx; rcases hx with rfl | rfl | rfl | rfl | rfl | rfl <;> (dsimp only; omega)) (.slice Qe qe1 qe2)
        have h9 := h9.set (a := ⟨gq, 1, none⟩) (Nat.le_trans hwv hvq) (fun x hx => by simp at hx; rcases hx with rfl | rfl | rfl | rfl | rfl | rfl <;> (dsimp only; omega)) (.slice Qk qk1 qk2)
        have h9 := h9.set (a := ⟨gq, 2, none⟩) (Nat.le_trans hwv hvq) (fun x hx => by simp at hx; rcases hx with rfl | rfl | rfl | rfl | rfl | rfl <;> (dsimp only; omega)) (.slice Qc qc1 qc2)
        exact ⟨h9.c0, h9.c1, h9.c2, h9.c3, h9.c4, h9.c5⟩
       clear hK K hHeld
       have hHeld := hHeld2
       clear hHeld2
       try simp only [Act.put, List.setIfInBounds_toArray, List.set_cons_zero, List.set_cons_succ]
       refine wpAnyH_done (by kernel_rfl) ?_ _
       clear hHeld
       have HMID : Hid (MidO v3 gp gq ⟨(ta, sa), ⟨Pe, pe1, pe2⟩, ⟨Pk, pk1, pk2⟩, ⟨Pc, pc1, pc2⟩⟩ ⟨(tb, sb), ⟨Qe, qe1, qe2⟩, ⟨Qk, qk1, qk2⟩, ⟨Qc, qc1, qc2⟩⟩ (ta, sa) (tb, sb) ((((((x1435.setCell ⟨gp, 0, none⟩ (.slice Pe pe1 pe2)).setCell ⟨gp, 1, none⟩ (.slice Pk pk1 pk2)).setCell ⟨gp, 2, none⟩ (.slice Pc pc1 pc2)).setCell ⟨gq, 0, none⟩ (.slice Qe qe1 qe2)).setCell ⟨gq, 1, none⟩ (.slice Qk qk1 qk2)).setCell ⟨gq, 2, none⟩ (.slice Qc qc1 qc2))) := by
        obtain ⟨W9, hW9⟩ : ∃ W, W = ((((((x1435.setCell ⟨gp, 0, none⟩ (.slice Pe pe1 pe2)).setCell ⟨gp, 1, none⟩ (.slice Pk pk1 pk2)).setCell ⟨gp, 2, none⟩ (.slice Pc pc1 pc2)).setCell ⟨gq, 0, none⟩ (.slice Qe qe1 qe2)).setCell ⟨gq, 1, none⟩ (.slice Qk qk1 qk2)).setCell ⟨gq, 2, none⟩ (.slice Qc qc1 qc2)) := ⟨_, rfl⟩
        rw [← hW9]
        have hk : ∀ b, (b ≠ gp ∧ b ≠ gq) → b < x1435.heap.size → W9.heap[b]? = x1435.heap[b]? := fun b hb _ => by
         rw [hW9]
         exact (((((Below.heap_setCell _ ⟨gq, 2, none⟩ _ b (fun e => hb.2 e)).trans (Below.heap_setCell _ ⟨gq, 1, none⟩ _ b (fun e => hb.2 e))).trans (Below.heap_setCell _ ⟨gq, 0, none⟩ _ b (fun e => hb.2 e))).trans (Below.heap_setCell _ ⟨gp, 2, none⟩ _ b (fun e => hb.1 e))).trans (Below.heap_setCell _ ⟨gp, 1, none⟩ _ b (fun e => hb.1 e))).trans (Below.heap_setCell _ ⟨gp, 0, none⟩ _ b (fun e => hb.1 e))
        have hs : x1435.heap.size ≤ W9.heap.size := by rw [hW9]; simp [World.setCell]
        have hb : Below v3.heap.size v3 W9 := by
         rw [hW9]
         exact (((((HBV.out.setCell (p := ⟨gp, 0, none⟩) hvp _).setCell (p := ⟨gp, 1, none⟩) hvp _).setCell (p := ⟨gp, 2, none⟩) hvp _).setCell (p := ⟨gq, 0, none⟩) hvq _).setCell (p := ⟨gq, 1, none⟩) hvq _).setCell (p := ⟨gq, 2, none⟩) hvq _
        refine ⟨rfl, rfl, (HNp.out.keep hs hk).rd, (HNq.out.keep hs hk).rd, ?_⟩
        refine ((((((Kept.nil_of hb).cons_of ?_).cons_of ?_).cons_of ?_).cons_of ?_).cons_of ?_).cons_of ?_ <;> (rw [hW9]; go_simp)
       clear zp0 mp0 zp1 mp1 zp2 mp2 zq0 mq0 zq1 mq1 zq2 mq2
       go_wp2_with fail
       go_meet
       exact ⟨gp, gq, ⟨(ta, sa), ⟨Pe, pe1, pe2⟩, ⟨Pk, pk1, pk2⟩, ⟨Pc, pc1, pc2⟩⟩, ⟨(tb, sb), ⟨Qe, qe1, qe2⟩, ⟨Qk, qk1, qk2⟩, ⟨Qc, qc1, qc2⟩⟩, rfl, rfl, HMID.out⟩
      ·go_simp
       refine hK.out _ _ ?_ (fun hHeld2 => ?_)
       ·exact ⟨(HKc.out.alloc _).c0, (HKc.out.alloc _).c1, (HKc.out.alloc _).c2, (HKc.out.alloc _).c3, (HKc.out.alloc _).c4, (HKc.out.alloc _).c5⟩
       clear hK K hHeld
       have hHeld := hHeld2
       clear hHeld2
       obtain ⟨gq, hgq⟩ : ∃ g, g = x14.heap.size := ⟨_, rfl⟩
       obtain ⟨x145, hx145⟩ : ∃ W, W = x14.alloc (.cells #[.slice none 0 0, .slice none 0 0, .slice none 0 0] 29) := ⟨_, rfl⟩
       have HBX : Hid (v3.heap.size ≤ x14.heap.size) := HBV.out.size
       have hb9 : Below x14.heap.size x14 x145 := by rw [hx145]; exact Dt.box_below _ _ _
       have e0 : x145.cell? ⟨gq, 0, none⟩ = some (.slice none 0 0) := by rw [hx145, hgq]; go_simp
       have e1 : x145.cell? ⟨gq, 1, none⟩ = some (.slice none 0 0) := by rw [hx145, hgq]; go_simp
       have e2 : x145.cell? ⟨gq, 2, none⟩ = some (.slice none 0 0) := by rw [hx145, hgq]; go_simp
       have HNp := Lib.hid ((HNp.out.mono (ok' := fun b => b ≠ gp ∧ b ≠ gq) (fun b hb hlt => ⟨hb, by omega⟩)).later hb9)
       have HKc := Lib.hid (HKc.out.later hb9)
       have HBV := Lib.hid (HBV.out.trans (hb9.mono HBV.out.size))
       have HZp := Lib.hid (HZp.out.later hb9)
       have HFp := Lib.hid (HFp.out.later hb9)
       have hltp : gp < x145.heap.size := HFp.out.1
       have HZq : Hid (Kept [(⟨gq, 0, none⟩, .slice none 0 0), (⟨gq, 1, none⟩, .slice none 0 0), (⟨gq, 2, none⟩, .slice none 0 0)] v3 x145) := (((Kept.nil_of HBV.out).cons_of e2).cons_of e1).cons_of e0
       have HFq : Hid (Free gq x145) := ⟨by rw [hx145, hgq]; simp, fun j => by rw [hx145, hgq]; go_simp⟩
       have hltq : gq < x145.heap.size := HFq.out.1
       have hvq : v3.heap.size ≤ gq := by rw [hgq]; exact (Nat.le_trans HBX.out (Nat.le_refl _))
       have hne1 : ¬ gp = gq := by omega
       have hne2 : ¬ gq = gp := by omega
       (try rw [← hx145] at hHeld)
       rw [← hgq, ← hx145]
       clear hgq hx145 hb9 e0 e1 e2
       try simp only [Act.put, List.setIfInBounds_toArray, List.set_cons_zero, List.set_cons_succ]
       refine wpAnyH_ready (rs := [3]) (by kernel_rfl) (by simp) ?_
       refine AllReadyH.cons (o := ⟨some 33, _, _, _, _, _⟩) rfl (fun K hK => ?_) AllReadyH.nil
       go_simp
       (go_at_call 30; refine (refcloneK_any tb sb Be Bk Bc be1 bk1 be2 bk2 bc1 bc2 x145 (by have := Nb.out; omega) Rb.out.len (by have := Qb.out; omega) (RdP.later Rb.out HBV.out).tree (RdP.later Rb.out HBV.out).ctx).mono ?_)
       rintro e x1453 ⟨Qe, qe1, qe2, Qk, qk1, qk2, Qc, qc1, qc2, rfl, how, hb9⟩
       have HNq : Hid (NoC x1453 (fun b => b ≠ gp ∧ b ≠ gq) ⟨(tb, sb), ⟨Qe, qe1, qe2⟩, ⟨Qk, qk1, qk2⟩, ⟨Qc, qc1, qc2⟩⟩) := NoC.of_own how (fun b hb _ => ⟨by omega, by omega⟩)
       clear how
       have HKc := Lib.hid (HKc.out.later hb9)
       have HBV := Lib.hid (HBV.out.trans (hb9.mono HBV.out.size))
       have HNp := Lib.hid (HNp.out.later hb9)
       have HZp := Lib.hid (HZp.out.later hb9)
       have HFp := Lib.hid (HFp.out.later hb9)
       have hltp : gp < x1453.heap.size := HFp.out.1
       have HZq := Lib.hid (HZq.out.later hb9)
       have HFq := Lib.hid (HFq.out.later hb9)
       have hltq : gq < x1453.heap.size := HFq.out.1
       clear hb9
       have zp0 := HZp.out.c0
       have mp0 := HFp.out.2 0
       have zp1 := HZp.out.c1
       have mp1 := HFp.out.2 1
       have zp2 := HZp.out.c2
       have mp2 := HFp.out.2 2
       have zq0 := HZq.out.c0
       have mq0 := HFq.out.2 0
       have zq1 := HZq.out.c1
       have mq1 := HFq.out.2 1
       have zq2 := HZq.out.c2
       have mq2 := HFq.out.2 2
       refine hK.out _ _ ?_ (fun hHeld2 => ?_)
       ·exact ⟨HKc.out.c0, HKc.out.c1, HKc.out.c2, HKc.out.c3, HKc.out.c4, HKc.out.c5⟩
       clear hK K hHeld
       have hHeld := hHeld2
       clear hHeld2
       try simp only [Act.put, List.setIfInBounds_toArray, List.set_cons_zero, List.set_cons_succ]
       refine wpAnyH_ready (rs := [6]) (by kernel_rfl) (by simp) ?_
       refine AllReadyH.cons (o := ⟨none, _, _, _, _, _⟩) rfl (fun K hK => ?_) AllReadyH.nil
       go_simp
       refine hK.out _ _ ?_ (fun hHeld2 => ?_)
       ·(try dsimp only)
        have h9 := HKc.out
        have h9 := h9.set (a := ⟨gp, 0, none⟩) (Nat.le_trans hwv hvp) (fun x hx => by simp at hx; rcases hx with rfl | rfl | rfl | rfl | rfl | rfl <;> (dsimp only; omega)) (.slice Pe pe1 pe2)
        have h9 := h9.set (a := ⟨gp, 1, none⟩) (Nat.le_trans hwv hvp) (fun x hx => by simp at hx; rcases hx with rfl | rfl | rfl | rfl | rfl | rfl <;> (dsimp only; omega)) (.slice Pk pk1 pk2)
        have h9 := h9.set (a := ⟨gp, 2, none⟩) (Nat.le_trans hwv hvp) (fun x hx => by simp at hx; rcases hx with rfl | rfl | rfl | rfl | rfl | rfl <;> (dsimp only; omega)) (.slice Pc pc1 pc2)
        exact ⟨h9.c0, h9.c1, h9.c2, h9.c3, h9.c4, h9.c5⟩
       clear hK K hHeld
       have hHeld := hHeld2
       clear hHeld2
       try simp only [Act.put, List.setIfInBounds_toArray, List.set_cons_zero, List.set_cons_succ]
       refine wpAnyH_ready (rs := [7]) (by kernel_rfl) (by simp) ?_
       refine AllReadyH.cons (o := ⟨none, _, _, _, _, _⟩) rfl (fun K hK => ?_) AllReadyH.nil
       go_simp
       refine hK.out _ _ ?_ (fun hHeld2 => ?_)
       ·(try dsimp only)
        have h9 := HKc.out
        have h9 := h9.set (a := ⟨gp, 0, none⟩) (Nat.le_trans hwv hvp) (fun x hx => by simp at hx; rcases hx with rfl | rfl | rfl | rfl | rfl | rfl <;> (dsimp only; omega)) (.slice Pe pe1 pe2)
        have h9 := h9.set (a := ⟨gp, 1, none⟩) (Nat.le_trans hwv hvp) (fun x hx => by simp at hx; rcases hx with rfl | rfl | rfl | rfl | rfl | rfl <;> (dsimp only; omega)) (.slice Pk pk1 pk2)
        have h9 := h9.set (a := ⟨gp, 2, none⟩) (Nat.le_trans hwv hvp) (fun x hx => by simp at hx; rcases hx with rfl | rfl | rfl | rfl | rfl | rfl <;> (dsimp only; omega)) (.slice Pc pc1 pc2)
        have h9 := h9.set (a := ⟨gq, 0, none⟩) (Nat.le_trans hwv hvq) (fun x hx => by simp at hx; rcases hx with rfl | rfl | rfl | rfl | rfl | rfl <;> (dsimp only; omega)) (.slice Qe qe1 qe2)
        have h9 := h9.set (a := ⟨gq, 1, none⟩) (Nat.le_trans hwv hvq) (fun x hx => by simp at hx; rcases hx with rfl | rfl | rfl | rfl | rfl | rfl <;> (dsimp only; omega)) (.slice Qk qk1 qk2)
        have h9 := h9.set (a := ⟨gq, 2, none⟩) (Nat.le_trans hwv hvq) (fun x hx => by simp at hx; rcases hx with rfl | rfl | rfl | rfl | rfl | rfl <;> (dsimp only; omega)) (.slice Qc qc1 qc2)
        exact ⟨h9.c0, h9.c1, h9.c2, h9.c3, h9.c4, h9.c5⟩
       clear hK K hHeld
       have hHeld := hHeld2
       clear hHeld2
       try simp only [Act.put, List.setIfInBounds_toArray, List.set_cons_zero, List.set_cons_succ]
       refine wpAnyH_done (by kernel_rfl) ?_ _
       clear hHeld
       have HMID : Hid (MidO v3 gp gq ⟨(ta, sa), ⟨Pe, pe1, pe2⟩, ⟨Pk, pk1, pk2⟩, ⟨Pc, pc1, pc2⟩⟩ ⟨(tb, sb), ⟨Qe, qe1, qe2⟩, ⟨Qk, qk1, qk2⟩, ⟨Qc, qc1, qc2⟩⟩ (ta, sa) (tb, sb) ((((((x1453.setCell ⟨gp, 0, none⟩ (.slice Pe pe1 pe2)).setCell ⟨gp, 1, none⟩ (.slice Pk pk1 pk2)).setCell ⟨gp, 2, none⟩ (.slice Pc pc1 pc2)).setCell ⟨gq, 0, none⟩ (.slice Qe qe1 qe2)).setCell ⟨gq, 1, none⟩ (.slice Qk qk1 qk2)).setCell ⟨gq, 2, none⟩ (.slice Qc qc1 qc2))) := by
        obtain ⟨W9, hW9⟩ : ∃ W, W = ((((((x1453.setCell ⟨gp, 0, none⟩ (.slice Pe pe1 pe2)).setCell ⟨gp, 1, none⟩ (.slice Pk pk1 pk2)).setCell ⟨gp, 2, none⟩ (.slice Pc pc1 pc2)).setCell ⟨gq, 0, none⟩ (.slice Qe qe1 qe2)).setCell ⟨gq, 1, none⟩ (.slice Qk qk1 qk2)).setCell ⟨gq, 2, none⟩ (.slice Qc qc1 qc2)) := ⟨_, rfl⟩
        rw [← hW9]
        have hk : ∀ b, (b ≠ gp ∧ b ≠ gq) → b < x1453.heap.size → W9.heap[b]? = x1453.heap[b]? := fun b hb _ => by
         rw [hW9]
         exact (((((Below.heap_setCell _ ⟨gq, 2, none⟩ _ b (fun e => hb.2 e)).trans (Below.heap_setCell _ ⟨gq, 1, none⟩ _ b (fun e => hb.2 e))).trans (Below.heap_setCell _ ⟨gq, 0, none⟩ _ b (fun e => hb.2 e))).trans (Below.heap_setCell _ ⟨gp, 2, none⟩ _ b (fun e => hb.1 e))).trans (Below.heap_setCell _ ⟨gp, 1, none⟩ _ b (fun e => hb.1 e))).trans (Below.heap_setCell _ ⟨gp, 0, none⟩ _ b (fun e => hb.1 e))
        have hs : x1453.heap.size ≤ W9.heap.size := by rw [hW9]; simp [World.setCell]
        have hb : Below v3.heap.size v3 W9 := by
         rw [hW9]
         exact (((((HBV.out.setCell (p := ⟨gp, 0, none⟩) hvp _).setCell (p := ⟨gp, 1, none⟩) hvp _).setCell (p := ⟨gp, 2, none⟩) hvp _).setCell (p := ⟨gq, 0, none⟩) hvq _).setCell (p := ⟨gq, 1, none⟩) hvq _).setCell (p := ⟨gq, 2, none⟩) hvq _
        refine ⟨rfl, rfl, (HNp.out.keep hs hk).rd, (HNq.out.keep hs hk).rd, ?_⟩
        refine ((((((Kept.nil_of hb).cons_of ?_).cons_of ?_).cons_of ?_).cons_of ?_).cons_of ?_).cons_of ?_ <;> (rw [hW9]; go_simp)
       clear zp0 mp0 zp1 mp1 zp2 mp2 zq0 mq0 zq1 mq1 zq2 mq2
       go_wp2_with fail
       go_meet
       exact ⟨gp, gq, ⟨(ta, sa), ⟨Pe, pe1, pe2⟩, ⟨Pk, pk1, pk2⟩, ⟨Pc, pc1, pc2⟩⟩, ⟨(tb, sb), ⟨Qe, qe1, qe2⟩, ⟨Qk, qk1, qk2⟩, ⟨Qc, qc1, qc2⟩⟩, rfl, rfl, HMID.out⟩
     ·go_simp
      refine hK.out _ _ ?_ (fun hHeld2 => ?_)
      ·exact ⟨(HKc.out.alloc _).c0, (HKc.out.alloc _).c1, (HKc.out.alloc _).c2, (HKc.out.alloc _).c3, (HKc.out.alloc _).c4, (HKc.out.alloc _).c5⟩
      clear hK K hHeld
      have hHeld := hHeld2
      clear hHeld2
      obtain ⟨gq, hgq⟩ : ∃ g, g = x1.heap.size := ⟨_, rfl⟩
      obtain ⟨x15, hx15⟩ : ∃ W, W = x1.alloc (.cells #[.slice none 0 0, .slice none 0 0, .slice none 0 0] 29) := ⟨_, rfl⟩
      have HBX : Hid (v3.heap.size ≤ x1.heap.size) := HBV.out.size
      have hb9 : Below x1.heap.size x1 x15 := by rw [hx15]; exact Dt.box_below _ _ _
      have e0 : x15.cell? ⟨gq, 0, none⟩ = some (.slice none 0 0) := by rw [hx15, hgq]; go_simp
      have e1 : x15.cell? ⟨gq, 1, none⟩ = some (.slice none 0 0) := by rw [hx15, hgq]; go_simp
      have e2 : x15.cell? ⟨gq, 2, none⟩ = some (.slice none 0 0) := by rw [hx15, hgq]; go_simp
      have HNp := Lib.hid ((HNp.out.mono (ok' := fun b => b ≠ gq) (fun b hb hlt => by omega)).later hb9)
      have HKc := Lib.hid (HKc.out.later hb9)
      have HBV := Lib.hid (HBV.out.trans (hb9.mono HBV.out.size))
      have HZq : Hid (Kept [(⟨gq, 0, none⟩, .slice none 0 0), (⟨gq, 1, none⟩, .slice none 0 0), (⟨gq, 2, none⟩, .slice none 0 0)] v3 x15) := (((Kept.nil_of HBV.out).cons_of e2).cons_of e1).cons_of e0
      have HFq : Hid (Free gq x15) := ⟨by rw [hx15, hgq]; simp, fun j => by rw [hx15, hgq]; go_simp⟩
      have hltq : gq < x15.heap.size := HFq.out.1
      have hvq : v3.heap.size ≤ gq := by rw [hgq]; exact (Nat.le_trans HBX.out (Nat.le_refl _))
      (try rw [← hx15] at hHeld)
      rw [← hgq, ← hx15]
      clear hgq hx15 hb9 e0 e1 e2
      try simp only [Act.put, List.setIfInBounds_toArray, List.set_cons_zero, List.set_cons_succ]
      refine wpAnyH_ready (rs := [3, 4]) (by kernel_rfl) (by simp) ?_
      refine AllReadyH.cons (o := ⟨some 33, _, _, _, _, _⟩) rfl (fun K hK => ?_) (AllReadyH.cons (o := ⟨some 7, _, _, _, _, _⟩) rfl (fun K hK => ?_) (AllReadyH.nil))
      ·go_simp
       (go_at_call 30; refine (refcloneK_any tb sb Be Bk Bc be1 bk1 be2 bk2 bc1 bc2 x15 (by have := Nb.out; omega) Rb.out.len (by have := Qb.out; omega) (RdP.later Rb.out HBV.out).tree (RdP.later Rb.out HBV.out).ctx).mono ?_)
       rintro e x153 ⟨Qe, qe1, qe2, Qk, qk1, qk2, Qc, qc1, qc2, rfl, how, hb9⟩
       have HNq : Hid (NoC x153 (fun b => b ≠ gq) ⟨(tb, sb), ⟨Qe, qe1, qe2⟩, ⟨Qk, qk1, qk2⟩, ⟨Qc, qc1, qc2⟩⟩) := NoC.of_own how (fun b hb _ => by omega)
       clear how
       have HKc := Lib.hid (HKc.out.later hb9)
       have HBV := Lib.hid (HBV.out.trans (hb9.mono HBV.out.size))
       have HNp := Lib.hid (HNp.out.later hb9)
       have HZq := Lib.hid (HZq.out.later hb9)
       have HFq := Lib.hid (HFq.out.later hb9)
       have hltq : gq < x153.heap.size := HFq.out.1
       clear hb9
       refine hK.out _ _ ?_ (fun hHeld2 => ?_)
       ·exact ⟨HKc.out.c0, HKc.out.c1, HKc.out.c2, HKc.out.c3, HKc.out.c4, HKc.out.c5⟩
       clear hK K hHeld
       have hHeld := hHeld2
       clear hHeld2
       try simp only [Act.put, List.setIfInBounds_toArray, List.set_cons_zero, List.set_cons_succ]
       refine wpAnyH_ready (rs := [4]) (by kernel_rfl) (by simp) ?_
       refine AllReadyH.cons (o := ⟨some 7, _, _, _, _, _⟩) rfl (fun K hK => ?_) AllReadyH.nil
       go_simp
       refine hK.out _ _ ?_ (fun hHeld2 => ?_)
       ·exact ⟨(HKc.out.alloc _).c0, (HKc.out.alloc _).c1, (HKc.out.alloc _).c2, (HKc.out.alloc _).c3, (HKc.out.alloc _).c4, (HKc.out.alloc _).c5⟩
       clear hK K hHeld
       have hHeld := hHeld2
       clear hHeld2
       obtain ⟨gp, hgp⟩ : ∃ g, g = x153.heap.size := ⟨_, rfl⟩
       obtain ⟨x1534, hx1534⟩ : ∃ W, W = x153.alloc (.cells #[.slice none 0 0, .slice none 0 0, .slice none 0 0] 29) := ⟨_, rfl⟩
       have HBX : Hid (v3.heap.size ≤ x153.heap.size) := HBV.out.size
       have hb9 : Below x153.heap.size x153 x1534 := by rw [hx1534]; exact Dt.box_below _ _ _
       have e0 : x1534.cell? ⟨gp, 0, none⟩ = some (.slice none 0 0) := by rw [hx1534, hgp]; go_simp
       have e1 : x1534.cell? ⟨gp, 1, none⟩ = some (.slice none 0 0) := by rw [hx1534, hgp]; go_simp
       have e2 : x1534.cell? ⟨gp, 2, none⟩ = some (.slice none 0 0) := by rw [hx1534, hgp]; go_simp
       have HNp := Lib.hid ((HNp.out.mono (ok' := fun b => b ≠ gp ∧ b ≠ gq) (fun b hb hlt => ⟨by omega, hb⟩)).later hb9)
       have HNq := Lib.hid ((HNq.out.mono (ok' := fun b => b ≠ gp ∧ b ≠ gq) (fun b hb hlt => ⟨by omega, hb⟩)).later hb9)
       have HKc := Lib.hid (HKc.out.later hb9)
       have HBV := Lib.hid (HBV.out.trans (hb9.mono HBV.out.size))
       have HZq := Lib.hid (HZq.out.later hb9)
       have HFq := Lib.hid (HFq.out.later hb9)
       have hltq : gq < x1534.heap.size := HFq.out.1
       have HZp : Hid (Kept [(⟨gp, 0, none⟩, .slice none 0 0), (⟨gp, 1, none⟩, .slice none 0 0), (⟨gp, 2, none⟩, .slice none 0 0)] v3 x1534) := (((Kept.nil_of HBV.out).cons_of e2).cons_of e1).cons_of e0
       have HFp : Hid (Free gp x1534) := ⟨by rw [hx1534, hgp]; simp, fun j => by rw [hx1534, hgp]; go_simp⟩
       have hltp : gp < x1534.heap.size := HFp.out.1
       have hvp : v3.heap.size ≤ gp := by rw [hgp]; exact (Nat.le_trans HBX.out (Nat.le_refl _))
       have hne1 : ¬ gp = gq := by omega
       have hne2 : ¬ gq = gp := by omega
       (try rw [← hx1534] at hHeld)
       rw [← hgp, ← hx1534]
       clear hgp hx1534 hb9 e0 e1 e2
       have zp0 := HZp.out.c0
       have mp0 := HFp.out.2 0
       have zp1 := HZp.out.c1
       have mp1 := HFp.out.2 1
       have zp2 := HZp.out.c2
       have mp2 := HFp.out.2 2
       have zq0 := HZq.out.c0
       have mq0 := HFq.out.2 0
       have zq1 := HZq.out.c1
       have mq1 := HFq.out.2 1
       have zq2 := HZq.out.c2
       have mq2 := HFq.out.2 2
       try simp only [Act.put, List.setIfInBounds_toArray, List.set_cons_zero, List.set_cons_succ]
       refine wpAnyH_ready (rs := [6]) (by kernel_rfl) (by simp) ?_
       refine AllReadyH.cons (o := ⟨none, _, _, _, _, _⟩) rfl (fun K hK => ?_) AllReadyH.nil
       go_simp
       refine hK.out _ _ ?_ (fun hHeld2 => ?_)
       ·(try dsimp only)
        have h9 := HKc.out
        have h9 := h9.set (a := ⟨gp, 0, none⟩) (Nat.le_trans hwv hvp) (fun x hx => by simp at hx; rcases hx with rfl | rfl | rfl | rfl | rfl | rfl <;> (dsimp only; omega)) (.slice Pe pe1 pe2)
        have h9 := h9.set (a := ⟨gp, 1, none⟩) (Nat.le_trans hwv hvp) (fun x hx => by simp at hx; rcases hx with rfl | rfl | rfl | rfl | rfl | rfl <;> (dsimp only; omega)) (.slice Pk pk1 pk2)
        have h9 := h9.set (a := ⟨gp, 2, none⟩) (Nat.le_trans hwv hvp) (fun x hx => by simp at hx; rcases hx with rfl | rfl | rfl | rfl | rfl | rfl <;> (dsimp only; omega)) (.slice Pc pc1 pc2)
        exact ⟨h9.c0, h9.c1, h9.c2, h9.c3, h9.c4, h9.c5⟩
       clear hK K hHeld
       have hHeld := hHeld2
       clear hHeld2
       try simp only [Act.put, List.setIfInBounds_toArray, List.set_cons_zero, List.set_cons_succ]
       refine wpAnyH_ready (rs := [7]) (by kernel_rfl) (by simp) ?_
       refine AllReadyH.cons (o := ⟨none, _, _, _, _, _⟩) rfl (fun K hK => ?_) AllReadyH.nil
       go_simp
       refine hK.out _ _ ?_ (fun hHeld2 => ?_)
       ·(try dsimp only)
        have h9 := HKc.out
        have h9 := h9.set (a := ⟨gp, 0, none⟩) (Nat.le_trans hwv hvp) (fun x hx => by simp at hx; rcases hx with rfl | rfl | rfl | rfl | rfl | rfl <;> (dsimp only; omega)) (.slice Pe pe1 pe2)
        have h9 := h9.set (a := ⟨gp, 1, none⟩) (Nat.le_trans hwv hvp) (fun x hx => by simp at hx; rcases hx with rfl | rfl | rfl | rfl | rfl | rfl <;> (dsimp only; omega)) (.slice Pk pk1 pk2)
        have h9 := h9.set (a := ⟨gp, 2, none⟩) (Nat.le_trans hwv hvp) (fun x hx => by simp at hx; rcases hx with rfl | rfl | rfl | rfl | rfl | rfl <;> (dsimp only; omega)) (.slice Pc pc1 pc2)
        have h9 := h9.set (a := ⟨gq, 0, none⟩) (Nat.le_trans hwv hvq) (fun x hx => by simp at hx; rcases hx with rfl | rfl | rfl | rfl | rfl | rfl <;> (dsimp only; omega)) (.slice Qe qe1 qe2)
        have h9 := h9.set (a := ⟨gq, 1, none⟩) (Nat.le_trans hwv hvq) (fun x hx => by simp at hx; rcases hx with rfl | rfl | rfl | rfl | rfl | rfl <;> (dsimp only; omega)) (.slice Qk qk1 qk2)
        have h9 := h9.set (a := ⟨gq, 2, none⟩) (Nat.le_trans hwv hvq) (fun x hx => by simp at hx; rcases hx with rfl | rfl | rfl | rfl | rfl | rfl <;> (dsimp only; omega)) (.slice Qc qc1 qc2)
        exact ⟨h9.c0, h9.c1, h9.c2, h9.c3, h9.c4, h9.c5⟩
       clear hK K hHeld
       have hHeld := hHeld2
       clear hHeld2
       try simp only [Act.put, List.setIfInBounds_toArray, List.set_cons_zero, List.set_cons_succ]
       refine wpAnyH_done (by kernel_rfl) ?_ _
       clear hHeld
       have HMID : Hid (MidO v3 gp gq ⟨(ta, sa), ⟨Pe, pe1, pe2⟩, ⟨Pk, pk1, pk2⟩, ⟨Pc, pc1, pc2⟩⟩ ⟨(tb, sb), ⟨Qe, qe1, qe2⟩, ⟨Qk, qk1, qk2⟩, ⟨Qc, qc1, qc2⟩⟩ (ta, sa) (tb, sb) ((((((x1534.setCell ⟨gp, 0, none⟩ (.slice Pe pe1 pe2)).setCell ⟨gp, 1, none⟩ (.slice Pk pk1 pk2)).setCell ⟨gp, 2, none⟩ (.slice Pc pc1 pc2)).setCell ⟨gq, 0, none⟩ (.slice Qe qe1 qe2)).setCell ⟨gq, 1, none⟩ (.slice Qk qk1 qk2)).setCell ⟨gq, 2, none⟩ (.slice Qc qc1 qc2))) := by
        obtain ⟨W9, hW9⟩ : ∃ W, W = ((((((x1534.setCell ⟨gp, 0, none⟩ (.slice Pe pe1 pe2)).setCell ⟨gp, 1, none⟩ (.slice Pk pk1 pk2)).setCell ⟨gp, 2, none⟩ (.slice Pc pc1 pc2)).setCell ⟨gq, 0, none⟩ (.slice Qe qe1 qe2)).setCell ⟨gq, 1, none⟩ (.slice Qk qk1 qk2)).setCell ⟨gq, 2, none⟩ (.slice Qc qc1 qc2)) := ⟨_, rfl⟩
        rw [← hW9]
        have hk : ∀ b, (b ≠ gp ∧ b ≠ gq) → b < x1534.heap.size → W9.heap[b]? = x1534.heap[b]? := fun b hb _ => by
         rw [hW9]
         exact (((((Below.heap_setCell _ ⟨gq, 2, none⟩ _ b (fun e => hb.2 e)).trans (Below.heap_setCell _ ⟨gq, 1, none⟩ _ b (fun e => hb.2 e))).trans (Below.heap_setCell _ ⟨gq, 0, none⟩ _ b (fun e => hb.2 e))).trans (Below.heap_setCell _ ⟨gp, 2, none⟩ _ b (fun e => hb.1 e))).trans (Below.heap_setCell _ ⟨gp, 1, none⟩ _ b (fun e => hb.1 e))).trans (Below.heap_setCell _ ⟨gp, 0, none⟩ _ b (fun e => hb.1 e))
        have hs : x1534.heap.size ≤ W9.heap.size := by rw [hW9]; simp [World.setCell]
        have hb : Below v3.heap.size v3 W9 := by
         rw [hW9]
         exact (((((HBV.out.setCell (p := ⟨gp, 0, none⟩) hvp _).setCell (p := ⟨gp, 1, none⟩) hvp _).setCell (p := ⟨gp, 2, none⟩) hvp _).setCell (p := ⟨gq, 0, none⟩) hvq _).setCell (p := ⟨gq, 1, none⟩) hvq _).setCell (p := ⟨gq, 2, none⟩) hvq _
        refine ⟨rfl, rfl, (HNp.out.keep hs hk).rd, (HNq.out.keep hs hk).rd, ?_⟩
        refine ((((((Kept.nil_of hb).cons_of ?_).cons_of ?_).cons_of ?_).cons_of ?_).cons_of ?_).cons_of ?_ <;> (rw [hW9]; go_simp)
       clear zp0 mp0 zp1 mp1 zp2 mp2 zq0 mq0 zq1 mq1 zq2 mq2
       go_wp2_with fail
       go_meet
       exact ⟨gp, gq, ⟨(ta, sa), ⟨Pe, pe1, pe2⟩, ⟨Pk, pk1, pk2⟩, ⟨Pc, pc1, pc2⟩⟩, ⟨(tb, sb), ⟨Qe, qe1, qe2⟩, ⟨Qk, qk1, qk2⟩, ⟨Qc, qc1, qc2⟩⟩, rfl, rfl, HMID.out⟩
      ·go_simp
       refine hK.out _ _ ?_ (fun hHeld2 => ?_)
       ·exact ⟨(HKc.out.alloc _).c0, (HKc.out.alloc _).c1, (HKc.out.alloc _).c2, (HKc.out.alloc _).c3, (HKc.out.alloc _).c4, (HKc.out.alloc _).c5⟩
       clear hK K hHeld
       have hHeld := hHeld2
       clear hHeld2
       obtain ⟨gp, hgp⟩ : ∃ g, g = x15.heap.size := ⟨_, rfl⟩
       obtain ⟨x154, hx154⟩ : ∃ W, W = x15.alloc (.cells #[.slice none 0 0, .slice none 0 0, .slice none 0 0] 29) := ⟨_, rfl⟩
       have HBX : Hid (v3.heap.size ≤ x15.heap.size) := HBV.out.size
       have hb9 : Below x15.heap.size x15 x154 := by rw [hx154]; exact Dt.box_below _ _ _
       have e0 : x154.cell? ⟨gp, 0, none⟩ = some (.slice none 0 0) := by rw [hx154, hgp]; go_simp
       have e1 : x154.cell? ⟨gp, 1, none⟩ = some (.slice none 0 0) := by rw [hx154, hgp]; go_simp
       have e2 : x154.cell? ⟨gp, 2, none⟩ = some (.slice none 0 0) := by rw [hx154, hgp]; go_simp
       have HNp := Lib.hid ((HNp.out.mono (ok' := fun b => b ≠ gp ∧ b ≠ gq) (fun b hb hlt => ⟨by omega, hb⟩)).later hb9)
       have HKc := Lib.hid (HKc.out.later hb9)
       have HBV := Lib.hid (HBV.out.trans (hb9.mono HBV.out.size))
       have HZq := Lib.hid (HZq.out.later hb9)
       have HFq := Lib.hid (HFq.out.later hb9)
       have hltq : gq < x154.heap.size := HFq.out.1
       have HZp : Hid (Kept [(⟨gp, 0, none⟩, .slice none 0 0), (⟨gp, 1, none⟩, .slice none 0 0), (⟨gp, 2, none⟩, .slice none 0 0)] v3 x154) := (((Kept.nil_of HBV.out).cons_of e2).cons_of e1).cons_of e0
       have HFp : Hid (Free gp x154) := ⟨by rw [hx154, hgp]; simp, fun j => by rw [hx154, hgp]; go_simp⟩
       have hltp : gp < x154.heap.size := HFp.out.1
       have hvp : v3.heap.size ≤ gp := by rw [hgp]; exact (Nat.le_trans HBX.out (Nat.le_refl _))
       have hne1 : ¬ gp = gq := by omega
       have hne2 : ¬ gq = gp := by omega
       (try rw [← hx154] at hHeld)
       rw [← hgp, ← hx154]
       clear hgp hx154 hb9 e0 e1 e2
       try simp only [Act.put, List.setIfInBounds_toArray, List.set_cons_zero, List.set_cons_succ]
       refine wpAnyH_ready (rs := [3]) (by kernel_rfl) (by simp) ?_
       refine AllReadyH.cons (o := ⟨some 33, _, _, _, _, _⟩) rfl (fun K hK => ?_) AllReadyH.nil
       go_simp
       (go_at_call 30; refine (refcloneK_any tb sb Be Bk Bc be1 bk1 be2 bk2 bc1 bc2 x154 (by have := Nb.out; omega) Rb.out.len (by have := Qb.out; omega) (RdP.later Rb.out HBV.out).tree (RdP.later Rb.out HBV.out).ctx).mono ?_)
       rintro e x1543 ⟨Qe, qe1, qe2, Qk, qk1, qk2, Qc, qc1, qc2, rfl, how, hb9⟩
       have HNq : Hid (NoC x1543 (fun b => b ≠ gp ∧ b ≠ gq) ⟨(tb, sb), ⟨Qe, qe1, qe2⟩, ⟨Qk, qk1, qk2⟩, ⟨Qc, qc1, qc2⟩⟩) := NoC.of_own how (fun b hb _ => ⟨by omega, by omega⟩)
       clear how
       have HKc := Lib.hid (HKc.out.later hb9)
       have HBV := Lib.hid (HBV.out.trans (hb9.mono HBV.out.size))
       have HNp := Lib.hid (HNp.out.later hb9)
       have HZp := Lib.hid (HZp.out.later hb9)
       have HFp := Lib.hid (HFp.out.later hb9)
       have hltp : gp < x1543.heap.size := HFp.out.1
       have HZq := Lib.hid (HZq.out.later hb9)
       have HFq := Lib.hid (HFq.out.later hb9)
       have hltq : gq < x1543.heap.size := HFq.out.1
       clear hb9
       have zp0 := HZp.out.c0
       have mp0 := HFp.out.2 0
       have zp1 := HZp.out.c1
       have mp1 := HFp.out.2 1
       have zp2 := HZp.out.c2
       have mp2 := HFp.out.2 2
       have zq0 := HZq.out.c0
       have mq0 := HFq.out.2 0
       have zq1 := HZq.out.c1
       have mq1 := HFq.out.2 1
       have zq2 := HZq.out.c2
       have mq2 := HFq.out.2 2
       refine hK.out _ _ ?_ (fun hHeld2 => ?_)
       ·exact ⟨HKc.out.c0, HKc.out.c1, HKc.out.c2, HKc.out.c3, HKc.out.c4, HKc.out.c5⟩
       clear hK K hHeld
       have hHeld := hHeld2
       clear hHeld2
       try simp only [Act.put, List.setIfInBounds_toArray, List.set_cons_zero, List.set_cons_succ]
       refine wpAnyH_ready (rs := [6]) (by kernel_rfl) (by simp) ?_
       refine AllReadyH.cons (o := ⟨none, _, _, _, _, _⟩) rfl (fun K hK => ?_) AllReadyH.nil
       go_simp
       refine hK.out _ _ ?_ (fun hHeld2 => ?_)
       ·(try dsimp only)
        have h9 := HKc.out
        have h9 := h9.set (a := ⟨gp, 0, none⟩) (Nat.le_trans hwv hvp) (fun x hx => by simp at hx; rcases hx with rfl | rfl | rfl | rfl | rfl | rfl <;> (dsimp only; omega)) (.slice Pe pe1 pe2)
        have h9 := h9.set (a := ⟨gp, 1, none⟩) (Nat.le_trans hwv hvp) (fun x hx => by simp at hx; rcases hx with rfl | rfl | rfl | rfl | rfl | rfl <;> (dsimp only; omega)) (.slice Pk pk1 pk2)
        have h9 := h9.set (a := ⟨gp, 2, none⟩) (Nat.le_trans hwv hvp) (fun x hx => by simp at hx; rcases hx with rfl | rfl | rfl | rfl | rfl | rfl <;> (dsimp only; omega)) (.slice Pc pc1 pc2)
        exact ⟨h9.c0, h9.c1, h9.c2, h9.c3, h9.c4, h9.c5⟩
       clear hK K hHeld
       have hHeld := hHeld2
       clear hHeld2
       try simp only [Act.put, List.setIfInBounds_toArray, List.set_cons_zero, List.set_cons_succ]
       refine wpAnyH_ready (rs := [7]) (by kernel_rfl) (by simp) ?_
       refine AllReadyH.cons (o := ⟨none, _, _, _, _, _⟩) rfl (fun K hK => ?_) AllReadyH.nil
       go_simp
       refine hK.out _ _ ?_ (fun hHeld2 => ?_)
       ·(try dsimp only)
        have h9 := HKc.out
        have h9 := h9.set (a := ⟨gp, 0, none⟩) (Nat.le_trans hwv hvp) (fun x hx => by simp at hx; rcases hx with rfl | rfl | rfl | rfl | rfl | rfl <;> (dsimp only; omega)) (.slice Pe pe1 pe2)
        have h9 := h9.set (a := ⟨gp, 1, none⟩) (Nat.le_trans hwv hvp) (fun x hx => by simp at hx; rcases hx with rfl | rfl | rfl | rfl | rfl | rfl <;> (dsimp only; omega)) (.slice Pk pk1 pk2)
        have h9 := h9.set (a := ⟨gp, 2, none⟩) (Nat.le_trans hwv hvp) (fun x hx => by simp at hx; rcases hx with rfl | rfl | rfl | rfl | rfl | rfl <;> (dsimp only; omega)) (.slice Pc pc1 pc2)
        have h9 := h9.set (a := ⟨gq, 0, none⟩) (Nat.le_trans hwv hvq) (fun x hx => by simp at hx; rcases hx with rfl | rfl | rfl | rfl | rfl | rfl <;> (dsimp only; omega)) (.slice Qe qe1 qe2)
        have h9 := h9.set (a := ⟨gq, 1, none⟩) (Nat.le_trans hwv hvq) (fun x hx => by simp at hx; rcases hx with rfl | rfl | rfl | rfl | rfl | rfl <;> (dsimp only; omega)) (.slice Qk qk1 qk2)
        have h9 := h9.set (a := ⟨gq, 2, none⟩) (Nat.le_trans hwv hvq) (fun x hx => by simp at hx; rcases hx with rfl | rfl | rfl | rfl | rfl | rfl <;> (dsimp only; omega)) (.slice Qc qc1 qc2)
        exact ⟨h9.c0, h9.c1, h9.c2, h9.c3, h9.c4, h9.c5⟩
       clear hK K hHeld
       have hHeld := hHeld2
       clear hHeld2
       try simp only [Act.put, List.setIfInBounds_toArray, List.set_cons_zero, List.set_cons_succ]
       refine wpAnyH_done (by kernel_rfl) ?_ _
       clear hHeld
       have HMID : Hid (MidO v3 gp gq ⟨(ta, sa), ⟨Pe, pe1, pe2⟩, ⟨Pk, pk1, pk2⟩, ⟨Pc, pc1, pc2⟩⟩ ⟨(tb, sb), ⟨Qe, qe1, qe2⟩, ⟨Qk, qk1, qk2⟩, ⟨Qc, qc1, qc2⟩⟩ (ta, sa) (tb, sb) ((((((x1543.setCell ⟨gp, 0, none⟩ (.slice Pe pe1 pe2)).setCell ⟨gp, 1, none⟩ (.slice Pk pk1 pk2)).setCell ⟨gp, 2, none⟩ (.slice Pc pc1 pc2)).setCell ⟨gq, 0, none⟩ (.slice Qe qe1 qe2)).setCell ⟨gq, 1, none⟩ (.slice Qk qk1 qk2)).setCell ⟨gq, 2, none⟩ (.slice Qc qc1 qc2))) := by
        obtain ⟨W9, hW9⟩ : ∃ W, W = ((((((x1543.setCell ⟨gp, 0, none⟩ (.slice Pe pe1 pe2)).setCell ⟨gp, 1, none⟩ (.slice Pk pk1 pk2)).setCell ⟨gp, 2, none⟩ (.slice Pc pc1 pc2)).setCell ⟨gq, 0, none⟩ (.slice Qe qe1 qe2)).setCell ⟨gq, 1, none⟩ (.slice Qk qk1 qk2)).setCell ⟨gq, 2, none⟩ (.slice Qc qc1 qc2)) := ⟨_, rfl⟩
        rw [← hW9]
        have hk : ∀ b, (b ≠ gp ∧ b ≠ gq) → b < x1543.heap.size → W9.heap[b]? = x1543.heap[b]? := fun b hb _ => by
         rw [hW9]
         exact (((((Below.heap_setCell _ ⟨gq, 2, none⟩ _ b (fun e => hb.2 e)).trans (Below.heap_setCell _ ⟨gq, 1, none⟩ _ b (fun e => hb.2 e))).trans (Below.heap_setCell _ ⟨gq, 0, none⟩ _ b (fun e => hb.2 e))).trans (Below.heap_setCell _ ⟨gp, 2, none⟩ _ b (fun e => hb.1 e))).trans (Below.heap_setCell _ ⟨gp, 1, none⟩ _ b (fun e => hb.1 e))).trans (Below.heap_setCell _ ⟨gp, 0, none⟩ _ b (fun e => hb.1 e))
        have hs : x1543.heap.size ≤ W9.heap.size := by rw [hW9]; simp [World.setCell]
        have hb : Below v3.heap.size v3 W9 := by
         rw [hW9]
         exact (((((HBV.out.setCell (p := ⟨gp, 0, none⟩) hvp _).setCell (p := ⟨gp, 1, none⟩) hvp _).setCell (p := ⟨gp, 2, none⟩) hvp _).setCell (p := ⟨gq, 0, none⟩) hvq _).setCell (p := ⟨gq, 1, none⟩) hvq _).setCell (p := ⟨gq, 2, none⟩) hvq _
        refine ⟨rfl, rfl, (HNp.out.keep hs hk).rd, (HNq.out.keep hs hk).rd, ?_⟩
        refine ((((((Kept.nil_of hb).cons_of ?_).cons_of ?_).cons_of ?_).cons_of ?_).cons_of ?_).cons_of ?_ <;> (rw [hW9]; go_simp)
       clear zp0 mp0 zp1 mp1 zp2 mp2 zq0 mq0 zq1 mq1 zq2 mq2
       go_wp2_with fail
       go_meet
       exact ⟨gp, gq, ⟨(ta, sa), ⟨Pe, pe1, pe2⟩, ⟨Pk, pk1, pk2⟩, ⟨Pc, pc1, pc2⟩⟩, ⟨(tb, sb), ⟨Qe, qe1, qe2⟩, ⟨Qk, qk1, qk2⟩, ⟨Qc, qc1, qc2⟩⟩, rfl, rfl, HMID.out⟩
    ·go_simp
     refine hK.out _ _ ?_ (fun hHeld2 => ?_)
     ·exact ⟨(HKc.out.alloc _).c0, (HKc.out.alloc _).c1, (HKc.out.alloc _).c2, (HKc.out.alloc _).c3, (HKc.out.alloc _).c4, (HKc.out.alloc _).c5⟩
     clear hK K hHeld
     have hHeld := hHeld2
     clear hHeld2
     obtain ⟨gp, hgp⟩ : ∃ g, g = w1.heap.size := ⟨_, rfl⟩
     obtain ⟨x4, hx4⟩ : ∃ W, W = w1.alloc (.cells #[.slice none 0 0, .slice none 0 0, .slice none 0 0] 29) := ⟨_, rfl⟩
     have HBX : Hid (v3.heap.size ≤ w1.heap.size) := HBV.out.size
     have hb9 : Below w1.heap.size w1 x4 := by rw [hx4]; exact Dt.box_below _ _ _
     have e0 : x4.cell? ⟨gp, 0, none⟩ = some (.slice none 0 0) := by rw [hx4, hgp]; go_simp
     have e1 : x4.cell? ⟨gp, 1, none⟩ = some (.slice none 0 0) := by rw [hx4, hgp]; go_simp
     have e2 : x4.cell? ⟨gp, 2, none⟩ = some (.slice none 0 0) := by rw [hx4, hgp]; go_simp
     have HKc := Lib.hid (HKc.out.later hb9)
     have HBV := Lib.hid (HBV.out.trans (hb9.mono HBV.out.size))
     have HZp : Hid (Kept [(⟨gp, 0, none⟩, .slice none 0 0), (⟨gp, 1, none⟩, .slice none 0 0), (⟨gp, 2, none⟩, .slice none 0 0)] v3 x4) := (((Kept.nil_of HBV.out).cons_of e2).cons_of e1).cons_of e0
     have HFp : Hid (Free gp x4) := ⟨by rw [hx4, hgp]; simp, fun j => by rw [hx4, hgp]; go_simp⟩
     have hltp : gp < x4.heap.size := HFp.out.1
     have hvp : v3.heap.size ≤ gp := by rw [hgp]; exact (Nat.le_trans HBX.out (Nat.le_refl _))
     (try rw [← hx4] at hHeld)
     rw [← hgp, ← hx4]
     clear hgp hx4 hb9 e0 e1 e2
     try simp only [Act.put, List.setIfInBounds_toArray, List.set_cons_zero, List.set_cons_succ]
     refine wpAnyH_ready (rs := [1, 5]) (by kernel_rfl) (by simp) ?_
     refine AllReadyH.cons (o := ⟨some 31, _, _, _, _, _⟩) rfl (fun K hK => ?_) (AllReadyH.cons (o := ⟨some 8, _, _, _, _, _⟩) rfl (fun K hK => ?_) (AllReadyH.nil))
     ·go_simp
      (go_at_call 30; refine (refcloneK_any ta sa Ae Ak Ac ae1 ak1 ae2 ak2 ac1 ac2 x4 (by have := Na.out; omega) Ra.out.len (by have := Qa.out; omega) (RdP.later Ra.out HBV.out).tree (RdP.later Ra.out HBV.out).ctx).mono ?_)
      rintro e x41 ⟨Pe, pe1, pe2, Pk, pk1, pk2, Pc, pc1, pc2, rfl, how, hb9⟩
      have HNp : Hid (NoC x41 (fun b => b ≠ gp) ⟨(ta, sa), ⟨Pe, pe1, pe2⟩, ⟨Pk, pk1, pk2⟩, ⟨Pc, pc1, pc2⟩⟩) := NoC.of_own how (fun b hb _ => by omega)
      clear how
      have HKc := Lib.hid (HKc.out.later hb9)
      have HBV := Lib.hid (HBV.out.trans (hb9.mono HBV.out.size))
      have HZp := Lib.hid (HZp.out.later hb9)
      have HFp := Lib.hid (HFp.out.later hb9)
      have hltp : gp < x41.heap.size := HFp.out.1
      clear hb9
      refine hK.out _ _ ?_ (fun hHeld2 => ?_)
      ·exact ⟨HKc.out.c0, HKc.out.c1, HKc.out.c2, HKc.out.c3, HKc.out.c4, HKc.out.c5⟩
      clear hK K hHeld
      have hHeld := hHeld2
      clear hHeld2
      try simp only [Act.put, List.setIfInBounds_toArray, List.set_cons_zero, List.set_cons_succ]
      refine wpAnyH_ready (rs := [3, 5]) (by kernel_rfl) (by simp) ?_
      refine AllReadyH.cons (o := ⟨some 33, _, _, _, _, _⟩) rfl (fun K hK => ?_) (AllReadyH.cons (o := ⟨some 8, _, _, _, _, _⟩) rfl (fun K hK => ?_) (AllReadyH.nil))
      ·go_simp
       (go_at_call 30; refine (refcloneK_any tb sb Be Bk Bc be1 bk1 be2 bk2 bc1 bc2 x41 (by have := Nb.out; omega) Rb.out.len (by have := Qb.out; omega) (RdP.later Rb.out HBV.out).tree (RdP.later Rb.out HBV.out).ctx).mono ?_)
       rintro e x413 ⟨Qe, qe1, qe2, Qk, qk1, qk2, Qc, qc1, qc2, rfl, how, hb9⟩
       have HNq : Hid (NoC x413 (fun b => b ≠ gp) ⟨(tb, sb), ⟨Qe, qe1, qe2⟩, ⟨Qk, qk1, qk2⟩, ⟨Qc, qc1, qc2⟩⟩) := NoC.of_own how (fun b hb _ => by omega)
       clear how
       have HKc := Lib.hid (HKc.out.later hb9)
       have HBV := Lib.hid (HBV.out.trans (hb9.mono HBV.out.size))
       have HNp := Lib.hid (HNp.out.later hb9)
       have HZp := Lib.hid (HZp.out.later hb9)
       have HFp := Lib.hid (HFp.out.later hb9)
       have hltp : gp < x413.heap.size := HFp.out.1
       clear hb9
       refine hK.out _ _ ?_ (fun hHeld2 => ?_)
       ·exact ⟨HKc.out.c0, HKc.out.c1, HKc.out.c2, HKc.out.c3, HKc.out.c4, HKc.out.c5⟩
       clear hK K hHeld
       have hHeld := hHeld2
       clear hHeld2
       try simp only [Act.put, List.setIfInBounds_toArray, List.set_cons_zero, List.set_cons_succ]
       refine wpAnyH_ready (rs := [5]) (by kernel_rfl) (by simp) ?_
       refine AllReadyH.cons (o := ⟨some 8, _, _, _, _, _⟩) rfl (fun K hK => ?_) AllReadyH.nil
       go_simp
       refine hK.out _ _ ?_ (fun hHeld2 => ?_)
       ·exact ⟨(HKc.out.alloc _).c0, (HKc.out.alloc _).c1, (HKc.out.alloc _).c2, (HKc.out.alloc _).c3, (HKc.out.alloc _).c4, (HKc.out.alloc _).c5⟩
       clear hK K hHeld
       have hHeld := hHeld2
       clear hHeld2
       obtain ⟨gq, hgq⟩ : ∃ g, g = x413.heap.size := ⟨_, rfl⟩
       obtain ⟨x4135, hx4135⟩ : ∃ W, W = x413.alloc (.cells #[.slice none 0 0, .slice none 0 0, .slice none 0 0] 29) := ⟨_, rfl⟩
       have HBX : Hid (v3.heap.size ≤ x413.heap.size) := HBV.out.size
       have hb9 : Below x413.heap.size x413 x4135 := by rw [hx4135]; exact Dt.box_below _ _ _
       have e0 : x4135.cell? ⟨gq, 0, none⟩ = some (.slice none 0 0) := by rw [hx4135, hgq]; go_simp
       have e1 : x4135.cell? ⟨gq, 1, none⟩ = some (.slice none 0 0) := by rw [hx4135, hgq]; go_simp
       have e2 : x4135.cell? ⟨gq, 2, none⟩ = some (.slice none 0 0) := by rw [hx4135, hgq]; go_simp
       have HNp := Lib.hid ((HNp.out.mono (ok' := fun b => b ≠ gp ∧ b ≠ gq) (fun b hb hlt => ⟨hb, by omega⟩)).later hb9)
       have HNq := Lib.hid ((HNq.out.mono (ok' := fun b => b ≠ gp ∧ b ≠ gq) (fun b hb hlt => ⟨hb, by omega⟩)).later hb9)
       have HKc := Lib.hid (HKc.out.later hb9)
       have HBV := Lib.hid (HBV.out.trans (hb9.mono HBV.out.size))
       have HZp := Lib.hid (HZp.out.later hb9)
       have HFp := Lib.hid (HFp.out.later hb9)
       have hltp : gp < x4135.heap.size := HFp.out.1
       have HZq : Hid (Kept [(⟨gq, 0, none⟩, .slice none 0 0), (⟨gq, 1, none⟩, .slice none 0 0), (⟨gq, 2, none⟩, .slice none 0 0)] v3 x4135) := (((Kept.nil_of HBV.out).cons_of e2).cons_of e1).cons_of e0
       have HFq : Hid (Free gq x4135) := ⟨by rw [hx4135, hgq]; simp, fun j => by rw [hx4135, hgq]; go_simp⟩
       have hltq : gq < x4135.heap.size := HFq.out.1
       have hvq : v3.heap.size ≤ gq := by rw [hgq]; exact (Nat.le_trans HBX.out (Nat.le_refl _))
       have hne1 : ¬ gp = gq := by omega
       have hne2 : ¬ gq = gp := by omega
       (try rw [← hx4135] at hHeld)
       rw [← hgq, ← hx4135]
       clear hgq hx4135 hb9 e0 e1 e2
       have zp0 := HZp.out.c0
       have mp0 := HFp.out.2 0
       have zp1 := HZp.out.c1
       have mp1 := HFp.out.2 1
       have zp2 := HZp.out.c2
       have mp2 := HFp.out.2 2
       have zq0 := HZq.out.c0
       have mq0 := HFq.out.2 0
       have zq1 := HZq.out.c1
       have mq1 := HFq.out.2 1
       have zq2 := HZq.out.c2
       have mq2 := HFq.out.2 2
       try simp only [Act.put, List.setIfInBounds_toArray, List.set_cons_zero, List.set_cons_succ]
       refine wpAnyH_ready (rs := [6]) (by kernel_rfl) (by simp) ?_
       refine AllReadyH.cons (o := ⟨none, _, _, _, _, _⟩) rfl (fun K hK => ?_) AllReadyH.nil
       go_simp
       refine hK.out _ _ ?_ (fun hHeld2 => ?_)
       ·(try dsimp only)
        have h9 := HKc.out
        have h9 := h9.set (a := ⟨gp, 0, none⟩) (Nat.le_trans hwv hvp) (fun x hx => by simp at hx; rcases hx with rfl | rfl | rfl | rfl | rfl | rfl <;> (dsimp only; omega)) (.slice Pe pe1 pe2)
        have h9 := h9.set (a := ⟨gp, 1, none⟩) (Nat.le_trans hwv hvp) (fun x hx => by simp at hx; rcases hx with rfl | rfl | rfl | rfl | rfl | rfl <;> (dsimp only; omega)) (.slice Pk pk1 pk2)
        have h9 := h9.set (a := ⟨gp, 2, none⟩) (Nat.le_trans hwv hvp) (fun x hx => by simp at hx; rcases hx with rfl | rfl | rfl | rfl | rfl | rfl <;> (dsimp only; omega)) (.slice Pc pc1 pc2)
        exact ⟨h9.c0, h9.c1, h9.c2, h9.c3, h9.c4, h9.c5⟩
       clear hK K hHeld
       have hHeld := hHeld2
       clear hHeld2
       try simp only [Act.put, List.setIfInBounds_toArray, List.set_cons_zero, List.set_cons_succ]
       refine wpAnyH_ready (rs := [7]) (by kernel_rfl) (by simp) ?_
       refine AllReadyH.cons (o := ⟨none, _, _, _, _, _⟩) rfl (fun K hK => ?_) AllReadyH.nil
       go_simp
       refine hK.out _ _ ?_ (fun hHeld2 => ?_)
       ·(try dsimp only)
        have h9 := HKc.out
        have h9 := h9.set (a := ⟨gp, 0, none⟩) (Nat.le_trans hwv hvp) (fun x hx => by simp at hx; rcases hx with rfl | rfl | rfl | rfl | rfl | rfl <;> (dsimp only; omega)) (.slice Pe pe1 pe2)
        have h9 := h9.set (a := ⟨gp, 1, none⟩) (Nat.le_trans hwv hvp) (fun x hx => by simp at hx; rcases hx with rfl | rfl | rfl | rfl | rfl | rfl <;> (dsimp only; omega)) (.slice Pk pk1 pk2)
        have h9 := h9.set (a := ⟨gp, 2, none⟩) (Nat.le_trans hwv hvp) (fun x hx => by simp at hx; rcases hx with rfl | rfl | rfl | rfl | rfl | rfl <;> (dsimp only; omega)) (.slice Pc pc1 pc2)
        have h9 := h9.set (a := ⟨gq, 0, none⟩) (Nat.le_trans hwv hvq) (fun x hx => by simp at hx; rcases hx with rfl | rfl | rfl | rfl | rfl | rfl <;> (dsimp only; omega)) (.slice Qe qe1 qe2)
        have h9 := h9.set (a := ⟨gq, 1, none⟩) (Nat.le_trans hwv hvq) (fun x hx => by simp at hx; rcases hx with rfl | rfl | rfl | rfl | rfl | rfl <;> (dsimp only; omega)) (.slice Qk qk1 qk2)
        have h9 := h9.set (a := ⟨gq, 2, none⟩) (Nat.le_trans hwv hvq) (fun x hx => by simp at hx; rcases hx with rfl | rfl | rfl | rfl | rfl | rfl <;> (dsimp only; omega)) (.slice Qc qc1 qc2)
        exact ⟨h9.c0, h9.c1, h9.c2, h9.c3, h9.c4, h9.c5⟩
       clear hK K hHeld
       have hHeld := hHeld2
       clear hHeld2
       try simp only [Act.put, List.setIfInBounds_toArray, List.set_cons_zero, List.set_cons_succ]
       refine wpAnyH_done (by kernel_rfl) ?_ _
       clear hHeld
       have HMID : Hid (MidO v3 gp gq ⟨(ta, sa), ⟨Pe, pe1, pe2⟩, ⟨Pk, pk1, pk2⟩, ⟨Pc, pc1, pc2⟩⟩ ⟨(tb, sb), ⟨Qe, qe1, qe2⟩, ⟨Qk, qk1, qk2⟩, ⟨Qc, qc1, qc2⟩⟩ (ta, sa) (tb, sb) ((((((x4135.setCell ⟨gp, 0, none⟩ (.slice Pe pe1 pe2)).setCell ⟨gp, 1, none⟩ (.slice Pk pk1 pk2)).setCell ⟨gp, 2, none⟩ (.slice Pc pc1 pc2)).setCell ⟨gq, 0, none⟩ (.slice Qe qe1 qe2)).setCell ⟨gq, 1, none⟩ (.slice Qk qk1 qk2)).setCell ⟨gq, 2, none⟩ (.slice Qc qc1 qc2))) := by
        obtain ⟨W9, hW9⟩ : ∃ W, W = ((((((x4135.setCell ⟨gp, 0, none⟩ (.slice Pe pe1 pe2)).setCell ⟨gp, 1, none⟩ (.slice Pk pk1 pk2)).setCell ⟨gp, 2, none⟩ (.slice Pc pc1 pc2)).setCell ⟨gq, 0, none⟩ (.slice Qe qe1 qe2)).setCell ⟨gq, 1, none⟩ (.slice Qk qk1 qk2)).setCell ⟨gq, 2, none⟩ (.slice Qc qc1 qc2)) := ⟨_, rfl⟩
        rw [← hW9]
        have hk : ∀ b, (b ≠ gp ∧ b ≠ gq) → b < x4135.heap.size → W9.heap[b]? = x4135.heap[b]? := fun b hb _ => by
         rw [hW9]
         exact (((((Below.heap_setCell _ ⟨gq, 2, none⟩ _ b (fun e => hb.2 e)).trans (Below.heap_setCell _ ⟨gq, 1, none⟩ _ b (fun e => hb.2 e))).trans (Below.heap_setCell _ ⟨gq, 0, none⟩ _ b (fun e => hb.2 e))).trans (Below.heap_setCell _ ⟨gp, 2, none⟩ _ b (fun e => hb.1 e))).trans (Below.heap_setCell _ ⟨gp, 1, none⟩ _ b (fun e => hb.1 e))).trans (Below.heap_setCell _ ⟨gp, 0, none⟩ _ b (fun e => hb.1 e))
        have hs : x4135.heap.size ≤ W9.heap.size := by rw [hW9]; simp [World.setCell]
        have hb : Below v3.heap.size v3 W9 := by
         rw [hW9]
         exact (((((HBV.out.setCell (p := ⟨gp, 0, none⟩) hvp _).setCell (p := ⟨gp, 1, none⟩) hvp _).setCell (p := ⟨gp, 2, none⟩) hvp _).setCell (p := ⟨gq, 0, none⟩) hvq _).setCell (p := ⟨gq, 1, none⟩) hvq _).setCell (p := ⟨gq, 2, none⟩) hvq _
        refine ⟨rfl, rfl, (HNp.out.keep hs hk).rd, (HNq.out.keep hs hk).rd, ?_⟩
        refine ((((((Kept.nil_of hb).cons_of ?_).cons_of ?_).cons_of ?_).cons_of ?_).cons_of ?_).cons_of ?_ <;> (rw [hW9]; go_simp)
       clear zp0 mp0 zp1 mp1 zp2 mp2 zq0 mq0 zq1 mq1 zq2 mq2
       go_wp2_with fail
       go_meet
       exact ⟨gp, gq, ⟨(ta, sa), ⟨Pe, pe1, pe2⟩, ⟨Pk, pk1, pk2⟩, ⟨Pc, pc1, pc2⟩⟩, ⟨(tb, sb), ⟨Qe, qe1, qe2⟩, ⟨Qk, qk1, qk2⟩, ⟨Qc, qc1, qc2⟩⟩, rfl, rfl, HMID.out⟩
      ·go_simp
       refine hK.out _ _ ?_ (fun hHeld2 => ?_)
       ·exact ⟨(HKc.out.alloc _).c0, (HKc.out.alloc _).c1, (HKc.out.alloc _).c2, (HKc.out.alloc _).c3, (HKc.out.alloc _).c4, (HKc.out.alloc _).c5⟩
       clear hK K hHeld
       have hHeld := hHeld2
       clear hHeld2
       obtain ⟨gq, hgq⟩ : ∃ g, g = x41.heap.size := ⟨_, rfl⟩
       obtain ⟨x415, hx415⟩ : ∃ W, W = x41.alloc (.cells #[.slice none 0 0, .slice none 0 0, .slice none 0 0] 29) := ⟨_, rfl⟩
       have HBX : Hid (v3.heap.size ≤ x41.heap.size) := HBV.out.size
       have hb9 : Below x41.heap.size x41 x415 := by rw [hx415]; exact Dt.box_below _ _ _
       have e0 : x415.cell? ⟨gq, 0, none⟩ = some (.slice none 0 0) := by rw [hx415, hgq]; go_simp
       have e1 : x415.cell? ⟨gq, 1, none⟩ = some (.slice none 0 0) := by rw [hx415, hgq]; go_simp
       have e2 : x415.cell? ⟨gq, 2, none⟩ = some (.slice none 0 0) := by rw [hx415, hgq]; go_simp
       have HNp := Lib.hid ((HNp.out.mono (ok' := fun b => b ≠ gp ∧ b ≠ gq) (fun b hb hlt => ⟨hb, by omega⟩)).later hb9)
       have HKc := Lib.hid (HKc.out.later hb9)
       have HBV := Lib.hid (HBV.out.trans (hb9.mono HBV.out.size))
       have HZp := Lib.hid (HZp.out.later hb9)
       have HFp := Lib.hid (HFp.out.later hb9)
       have hltp : gp < x415.heap.size := HFp.out.1
       have HZq : Hid (Kept [(⟨gq, 0, none⟩, .slice none 0 0), (⟨gq, 1, none⟩, .slice none 0 0), (⟨gq, 2, none⟩, .slice none 0 0)] v3 x415) := (((Kept.nil_of HBV.out).cons_of e2).cons_of e1).cons_of e0
       have HFq : Hid (Free gq x415) := ⟨by rw [hx415, hgq]; simp, fun j => by rw [hx415, hgq]; go_simp⟩
       have hltq : gq < x415.heap.size := HFq.out.1
       have hvq : v3.heap.size ≤ gq := by rw [hgq]; exact (Nat.le_trans HBX.out (Nat.le_refl _))
       have hne1 : ¬ gp = gq := by omega
       have hne2 : ¬ gq = gp := by omega
       (try rw [← hx415] at hHeld)
       rw [← hgq, ← hx415]
       clear hgq hx415 hb9 e0 e1 e2
       try simp only [Act.put, List.setIfInBounds_toArray, List.set_cons_zero, List.set_cons_succ]
       refine wpAnyH_ready (rs := [3]) (by kernel_rfl) (by simp) ?_
       refine AllReadyH.cons (o := ⟨some 33, _, _, _, _, _⟩) rfl (fun K hK => ?_) AllReadyH.nil
       go_simp
       (go_at_call 30; refine (refcloneK_any tb sb Be Bk Bc be1 bk1 be2 bk2 bc1 bc2 x415 (by have := Nb.out; omega) Rb.out.len (by have := Qb.out; omega) (RdP.later Rb.out HBV.out).tree (RdP.later Rb.out HBV.out).ctx).mono ?_)
       rintro e x4153 ⟨Qe, qe1, qe2, Qk, qk1, qk2, Qc, qc1, qc2, rfl, how, hb9⟩
       have HNq : Hid (NoC x4153 (fun b => b ≠ gp ∧ b ≠ gq) ⟨(tb, sb), ⟨Qe, qe1, qe2⟩, ⟨Qk, qk1, qk2⟩, ⟨Qc, qc1, qc2⟩⟩) := NoC.of_own how (fun b hb _ => ⟨by omega, by omega⟩)
       clear how
       have HKc := Lib.hid (HKc.out.later hb9)
       have HBV := Lib.hid (HBV.out.trans (hb9.mono HBV.out.size))
       have HNp := Lib.hid (HNp.out.later hb9)
       have HZp := Lib.hid (HZp.out.later hb9)
       have HFp := Lib.hid (HFp.out.later hb9)
       have hltp : gp < x4153.heap.size := HFp.out.1
       have HZq := Lib.hid (HZq.out.later hb9)
       have HFq := Lib.hid (HFq.out.later hb9)
       have hltq : gq < x4153.heap.size := HFq.out.1
       clear hb9
       have zp0 := HZp.out.c0
       have mp0 := HFp.out.2 0
       have zp1 := HZp.out.c1
       have mp1 := HFp.out.2 1
       have zp2 := HZp.out.c2
       have mp2 := HFp.out.2 2
       have zq0 := HZq.out.c0
       have mq0 := HFq.out.2 0
       have zq1 := HZq.out.c1
       have mq1 := HFq.out.2 1
       have zq2 := HZq.out.c2
       have mq2 := HFq.out.2 2
       refine hK.out _ _ ?_ (fun hHeld2 => ?_)
       ·exact ⟨HKc.out.c0, HKc.out.c1, HKc.out.c2, HKc.out.c3, HKc.out.c4, HKc.out.c5⟩
       clear hK K hHeld
       have hHeld := hHeld2
       clear hHeld2
       try simp only [Act.put, List.setIfInBounds_toArray, List.set_cons_zero, List.set_cons_succ]
       refine wpAnyH_ready (rs := [6]) (by kernel_rfl) (by simp) ?_
       refine AllReadyH.cons (o := ⟨none, _, _, _, _, _⟩) rfl (fun K hK => ?_) AllReadyH.nil
       go_simp
       refine hK.out _ _ ?_ (fun hHeld2 => ?_)
       ·(try dsimp only)
        have h9 := HKc.out
        have h9 := h9.set (a := ⟨gp, 0, none⟩) (Nat.le_trans hwv hvp) (fun x hx => by simp at hx; rcases hx with rfl | rfl | rfl | rfl | rfl | rfl <;> (dsimp only; omega)) (.slice Pe pe1 pe2)
        have h9 := h9.set (a := ⟨gp, 1, none⟩) (Nat.le_trans hwv hvp) (fun x hx => by simp at hx; rcases hx with rfl | rfl | rfl | rfl | rfl | rfl <;> (dsimp only; omega)) (.slice Pk pk1 pk2)
        have h9 := h9.set (a := ⟨gp, 2, none⟩) (Nat.le_trans hwv hvp) (fun x hx => by simp at hx; rcases hx with rfl | rfl | rfl | rfl | rfl | rfl <;> (dsimp only; omega)) (.slice Pc pc1 pc2)
        exact ⟨h9.c0, h9.c1, h9.c2, h9.c3, h9.c4, h9.c5⟩
       clear hK K hHeld
       have hHeld := hHeld2
       clear hHeld2
       try simp only [Act.put, List.setIfInBounds_toArray, List.set_cons_zero, List.set_cons_succ]
       refine wpAnyH_ready (rs := [7]) (by kernel_rfl) (by simp) ?_
       refine AllReadyH.cons (o := ⟨none, _, _, _, _, _⟩) rfl (fun K hK => ?_) AllReadyH.nil
       go_simp
       refine hK.out _ _ ?_ (fun hHeld2 => ?_)
       ·(try dsimp only)
        have h9 := HKc.out
        have h9 := h9.set (a := ⟨gp, 0, none⟩) (Nat.le_trans hwv hvp) (fun x hx => by simp at hx; rcases hx with rfl | rfl | rfl | rfl | rfl | rfl <;> (dsimp only; omega)) (.slice Pe pe1 pe2)
        have h9 := h9.set (a := ⟨gp, 1, none⟩) (Nat.le_trans hwv hvp) (fun x hx => by simp at hx; rcases hx with rfl | rfl | rfl | rfl | rfl | rfl <;> (dsimp only; omega)) (.slice Pk pk1 pk2)
        have h9 := h9.set (a := ⟨gp, 2, none⟩) (Nat.le_trans hwv hvp) (fun x hx => by simp at hx; rcases hx with rfl | rfl | rfl | rfl | rfl | rfl <;> (dsimp only; omega)) (.slice Pc pc1 pc2)
        have h9 := h9.set (a := ⟨gq, 0, none⟩) (Nat.le_trans hwv hvq) (fun x hx => by simp at hx; rcases hx with rfl | rfl | rfl | rfl | rfl | rfl <;> (dsimp only; omega)) (.slice Qe qe1 qe2)
        have h9 := h9.set (a := ⟨gq, 1, none⟩) (Nat.le_trans hwv hvq) (fun x hx => by simp at hx; rcases hx with rfl | rfl | rfl | rfl | rfl | rfl <;> (dsimp only; omega)) (.slice Qk qk1 qk2)
        have h9 := h9.set (a := ⟨gq, 2, none⟩) (Nat.le_trans hwv hvq) (fun x hx => by simp at hx; rcases hx with rfl | rfl | rfl | rfl | rfl | rfl <;> (dsimp only; omega)) (.slice Qc qc1 qc2)
        exact ⟨h9.c0, h9.c1, h9.c2, h9.c3, h9.c4, h9.c5⟩
       clear hK K hHeld
       have hHeld := hHeld2
       clear hHeld2
       try simp only [Act.put, List.setIfInBounds_toArray, List.set_cons_zero, List.set_cons_succ]
       refine wpAnyH_done (by kernel_rfl) ?_ _
       clear hHeld
       have HMID : Hid (MidO v3 gp gq ⟨(ta, sa), ⟨Pe, pe1, pe2⟩, ⟨Pk, pk1, pk2⟩, ⟨Pc, pc1, pc2⟩⟩ ⟨(tb, sb), ⟨Qe, qe1, qe2⟩, ⟨Qk, qk1, qk2⟩, ⟨Qc, qc1, qc2⟩⟩ (ta, sa) (tb, sb) ((((((x4153.setCell ⟨gp, 0, none⟩ (.slice Pe pe1 pe2)).setCell ⟨gp, 1, none⟩ (.slice Pk pk1 pk2)).setCell ⟨gp, 2, none⟩ (.slice Pc pc1 pc2)).setCell ⟨gq, 0, none⟩ (.slice Qe qe1 qe2)).setCell ⟨gq, 1, none⟩ (.slice Qk qk1 qk2)).setCell ⟨gq, 2, none⟩ (.slice Qc qc1 qc2))) := by
        obtain ⟨W9, hW9⟩ : ∃ W, W = ((((((x4153.setCell ⟨gp, 0, none⟩ (.slice Pe pe1 pe2)).setCell ⟨gp, 1, none⟩ (.slice Pk pk1 pk2)).setCell ⟨gp, 2, none⟩ (.slice Pc pc1 pc2)).setCell ⟨gq, 0, none⟩ (.slice Qe qe1 qe2)).setCell ⟨gq, 1, none⟩ (.slice Qk qk1 qk2)).setCell ⟨gq, 2, none⟩ (.slice Qc qc1 qc2)) := ⟨_, rfl⟩
        rw [← hW9]
        have hk : ∀ b, (b ≠ gp ∧ b ≠ gq) → b < x4153.heap.size → W9.heap[b]? = x4153.heap[b]? := fun b hb _ => by
         rw [hW9]
         exact (((((Below.heap_setCell _ ⟨gq, 2, none⟩ _ b (fun e => hb.2 e)).trans (Below.heap_setCell _ ⟨gq, 1, none⟩ _ b (fun e => hb.2 e))).trans (Below.heap_setCell _ ⟨gq, 0, none⟩ _ b (fun e => hb.2 e))).trans (Below.heap_setCell _ ⟨gp, 2, none⟩ _ b (fun e => hb.1 e))).trans (Below.heap_setCell _ ⟨gp, 1, none⟩ _ b (fun e => hb.1 e))).trans (Below.heap_setCell _ ⟨gp, 0, none⟩ _ b (fun e => hb.1 e))
        have hs : x4153.heap.size ≤ W9.heap.size := by rw [hW9]; simp [World.setCell]
        have hb : Below v3.heap.size v3 W9 := by
         rw [hW9]
         exact (((((HBV.out.setCell (p := ⟨gp, 0, none⟩) hvp _).setCell (p := ⟨gp, 1, none⟩) hvp _).setCell (p := ⟨gp, 2, none⟩) hvp _).setCell (p := ⟨gq, 0, none⟩) hvq _).setCell (p := ⟨gq, 1, none⟩) hvq _).setCell (p := ⟨gq, 2, none⟩) hvq _
        refine ⟨rfl, rfl, (HNp.out.keep hs hk).rd, (HNq.out.keep hs hk).rd, ?_⟩
        refine ((((((Kept.nil_of hb).cons_of ?_).cons_of ?_).cons_of ?_).cons_of ?_).cons_of ?_).cons_of ?_ <;> (rw [hW9]; go_simp)
       clear zp0 mp0 zp1 mp1 zp2 mp2 zq0 mq0 zq1 mq1 zq2 mq2
       go_wp2_with fail
       go_meet
       exact ⟨gp, gq, ⟨(ta, sa), ⟨Pe, pe1, pe2⟩, ⟨Pk, pk1, pk2⟩, ⟨Pc, pc1, pc2⟩⟩, ⟨(tb, sb), ⟨Qe, qe1, qe2⟩, ⟨Qk, qk1, qk2⟩, ⟨Qc, qc1, qc2⟩⟩, rfl, rfl, HMID.out⟩
     ·go_simp
      refine hK.out _ _ ?_ (fun hHeld2 => ?_)
      ·exact ⟨(HKc.out.alloc _).c0, (HKc.out.alloc _).c1, (HKc.out.alloc _).c2, (HKc.out.alloc _).c3, (HKc.out.alloc _).c4, (HKc.out.alloc _).c5⟩
      clear hK K hHeld
      have hHeld := hHeld2
      clear hHeld2
      obtain ⟨gq, hgq⟩ : ∃ g, g = x4.heap.size := ⟨_, rfl⟩
      obtain ⟨x45, hx45⟩ : ∃ W, W = x4.alloc (.cells #[.slice none 0 0, .slice none 0 0, .slice none 0 0] 29) := ⟨_, rfl⟩
      have HBX : Hid (v3.heap.size ≤ x4.heap.size) := HBV.out.size
      have hb9 : Below x4.heap.size x4 x45 := by rw [hx45]; exact Dt.box_below _ _ _
      have e0 : x45.cell? ⟨gq, 0, none⟩ = some (.slice none 0 0) := by rw [hx45, hgq]; go_simp
      have e1 : x45.cell? ⟨gq, 1, none⟩ = some (.slice none 0 0) := by rw [hx45, hgq]; go_simp
      have e2 : x45.cell? ⟨gq, 2, none⟩ = some (.slice none 0 0) := by rw [hx45, hgq]; go_simp
      have HKc := Lib.hid (HKc.out.later hb9)
      have HBV := Lib.hid (HBV.out.trans (hb9.mono HBV.out.size))
      have HZp := Lib.hid (HZp.out.later hb9)
      have HFp := Lib.hid (HFp.out.later hb9)
      have hltp : gp < x45.heap.size := HFp.out.1
      have HZq : Hid (Kept [(⟨gq, 0, none⟩, .slice none 0 0), (⟨gq, 1, none⟩, .slice none 0 0), (⟨gq, 2, none⟩, .slice none 0 0)] v3 x45) := (((Kept.nil_of HBV.out).cons_of e2).cons_of e1).cons_of e0
      have HFq : Hid (Free gq x45) := ⟨by rw [hx45, hgq]; simp, fun j => by rw [hx45, hgq]; go_simp⟩
      have hltq : gq < x45.heap.size := HFq.out.1
      have hvq : v3.heap.size ≤ gq := by rw [hgq]; exact (Nat.le_trans HBX.out (Nat.le_refl _))
      have hne1 : ¬ gp = gq := by omega
      have hne2 : ¬ gq = gp := by omega
      (try rw [← hx45] at hHeld)
      rw [← hgq, ← hx45]
      clear hgq hx45 hb9 e0 e1 e2
      try simp only [Act.put, List.setIfInBounds_toArray, List.set_cons_zero, List.set_cons_succ]
      refine wpAnyH_ready (rs := [1]) (by kernel_rfl) (by simp) ?_
      refine AllReadyH.cons (o := ⟨some 31, _, _, _, _, _⟩) rfl (fun K hK => ?_) AllReadyH.nil
      go_simp
      (go_at_call 30; refine (refcloneK_any ta sa Ae Ak Ac ae1 ak1 ae2 ak2 ac1 ac2 x45 (by have := Na.out; omega) Ra.out.len (by have := Qa.out; omega) (RdP.later Ra.out HBV.out).tree (RdP.later Ra.out HBV.out).ctx).mono ?_)
      rintro e x451 ⟨Pe, pe1, pe2, Pk, pk1, pk2, Pc, pc1, pc2, rfl, how, hb9⟩
      have HNp : Hid (NoC x451 (fun b => b ≠ gp ∧ b ≠ gq) ⟨(ta, sa), ⟨Pe, pe1, pe2⟩, ⟨Pk, pk1, pk2⟩, ⟨Pc, pc1, pc2⟩⟩) := NoC.of_own how (fun b hb _ => ⟨by omega, by omega⟩)
      clear how
      have HKc := Lib.hid (HKc.out.later hb9)
      have HBV := Lib.hid (HBV.out.trans (hb9.mono HBV.out.size))
      have HZp := Lib.hid (HZp.out.later hb9)
      have HFp := Lib.hid (HFp.out.later hb9)
      have hltp : gp < x451.heap.size := HFp.out.1
      have HZq := Lib.hid (HZq.out.later hb9)
      have HFq := Lib.hid (HFq.out.later hb9)
      have hltq : gq < x451.heap.size := HFq.out.1
      clear hb9
      refine hK.out _ _ ?_ (fun hHeld2 => ?_)
      ·exact ⟨HKc.out.c0, HKc.out.c1, HKc.out.c2, HKc.out.c3, HKc.out.c4, HKc.out.c5⟩
      clear hK K hHeld
      have hHeld := hHeld2
      clear hHeld2
      try simp only [Act.put, List.setIfInBounds_toArray, List.set_cons_zero, List.set_cons_succ]
      refine wpAnyH_ready (rs := [3]) (by kernel_rfl) (by simp) ?_
      refine AllReadyH.cons (o := ⟨some 33, _, _, _, _, _⟩) rfl (fun K hK => ?_) AllReadyH.nil
      go_simp
      (go_at_call 30; refine (refcloneK_any tb sb Be Bk Bc be1 bk1 be2 bk2 bc1 bc2 x451 (by have := Nb.out; omega) Rb.out.len (by have := Qb.out; omega) (RdP.later Rb.out HBV.out).tree (RdP.later Rb.out HBV.out).ctx).mono ?_)
      rintro e x4513 ⟨Qe, qe1, qe2, Qk, qk1, qk2, Qc, qc1, qc2, rfl, how, hb9⟩
      have HNq : Hid (NoC x4513 (fun b => b ≠ gp ∧ b ≠ gq) ⟨(tb, sb), ⟨Qe, qe1, qe2⟩, ⟨Qk, qk1, qk2⟩, ⟨Qc, qc1, qc2⟩⟩) := NoC.of_own how (fun b hb _ => ⟨by omega, by omega⟩)
      clear how
      have HKc := Lib.hid (HKc.out.later hb9)
      have HBV := Lib.hid (HBV.out.trans (hb9.mono HBV.out.size))
      have HNp := Lib.hid (HNp.out.later hb9)
      have HZp := Lib.hid (HZp.out.later hb9)
      have HFp := Lib.hid (HFp.out.later hb9)
      have hltp : gp < x4513.heap.size := HFp.out.1
      have HZq := Lib.hid (HZq.out.later hb9)
      have HFq := Lib.hid (HFq.out.later hb9)
      have hltq : gq < x4513.heap.size := HFq.out.1
      clear hb9
      have zp0 := HZp.out.c0
      have mp0 := HFp.out.2 0
      have zp1 := HZp.out.c1
      have mp1 := HFp.out.2 1
      have zp2 := HZp.out.c2
      have mp2 := HFp.out.2 2
      have zq0 := HZq.out.c0
      have mq0 := HFq.out.2 0
      have zq1 := HZq.out.c1
      have mq1 := HFq.out.2 1
      have zq2 := HZq.out.c2
      have mq2 := HFq.out.2 2
      refine hK.out _ _ ?_ (fun hHeld2 => ?_)
      ·exact ⟨HKc.out.c0, HKc.out.c1, HKc.out.c2, HKc.out.c3, HKc.out.c4, HKc.out.c5⟩
      clear hK K hHeld
      have hHeld := hHeld2
      clear hHeld2
      try simp only [Act.put, List.setIfInBounds_toArray, List.set_cons_zero, List.set_cons_succ]
      refine wpAnyH_ready (rs := [6]) (by kernel_rfl) (by simp) ?_
      refine AllReadyH.cons (o := ⟨none, _, _, _, _, _⟩) rfl (fun K hK => ?_) AllReadyH.nil
      go_simp
      refine hK.out _ _ ?_ (fun hHeld2 => ?_)
      ·(try dsimp only)
       have h9 := HKc.out
       have h9 := h9.set (a := ⟨gp, 0, none⟩) (Nat.le_trans hwv hvp) (fun x hx => by simp at hx; rcases hx with rfl | rfl | rfl | rfl | rfl | rfl <;> (dsimp only; omega)) (.slice Pe pe1 pe2)
       have h9 := h9.set (a := ⟨gp, 1, none⟩) (Nat.le_trans hwv hvp) (fun x hx => by simp at hx; rcases hx with rfl | rfl | rfl | rfl | rfl | rfl <;> (dsimp only; omega)) (.slice Pk pk1 pk2)
       have h9 := h9.set (a := ⟨gp, 2, none⟩) (Nat.le_trans hwv hvp) (fun x hx => by simp at hx; rcases hx with rfl | rfl | rfl | rfl | rfl | rfl <;> (dsimp only; omega)) (.slice Pc pc1 pc2)
       exact ⟨h9.c0, h9.c1, h9.c2, h9.c3, h9.c4, h9.c5⟩
      clear hK K hHeld
      have hHeld := hHeld2
      clear hHeld2
      try simp only [Act.put, List.setIfInBounds_toArray, List.set_cons_zero, List.set_cons_succ]
      refine wpAnyH_ready (rs := [7]) (by kernel_rfl) (by simp) ?_
      refine AllReadyH.cons (o := ⟨none, _, _, _, _, _⟩) rfl (fun K hK => ?_) AllReadyH.nil
      go_simp
      refine hK.out _ _ ?_ (fun hHeld2 => ?_)
      ·(try dsimp only)
       have h9 := HKc.out
       have h9 := h9.set (a := ⟨gp, 0, none⟩) (Nat.le_trans hwv hvp) (fun x hx => by simp at hx; rcases hx with rfl | rfl | rfl | rfl | rfl | rfl <;> (dsimp only; omega)) (.slice Pe pe1 pe2)
       have h9 := h9.set (a := ⟨gp, 1, none⟩) (Nat.le_trans hwv hvp) (fun x hx => by simp at hx; rcases hx with rfl | rfl | rfl | rfl | rfl | rfl <;> (dsimp only; omega)) (.slice Pk pk1 pk2)
       have h9 := h9.set (a := ⟨gp, 2, none⟩) (Nat.le_trans hwv hvp) (fun x hx => by simp at hx; rcases hx with rfl | rfl | rfl | rfl | rfl | rfl <;> (dsimp only; omega)) (.slice Pc pc1 pc2)
       have h9 := h9.set (a := ⟨gq, 0, none⟩) (Nat.le_trans hwv hvq) (fun x hx => by simp at hx; rcases hx with rfl | rfl | rfl | rfl | rfl | rfl <;> (dsimp only; omega)) (.slice Qe qe1 qe2)
       have h9 := h9.set (a := ⟨gq, 1, none⟩) (Nat.le_trans hwv hvq) (fun x hx => by simp at hx; rcases hx with rfl | rfl | rfl | rfl | rfl | rfl <;> (dsimp only; omega)) (.slice Qk qk1 qk2)
       have h9 := h9.set (a := ⟨gq, 2, none⟩) (Nat.le_trans hwv hvq) (fun x hx => by simp at hx; rcases hx with rfl | rfl | rfl | rfl | rfl | rfl <;> (dsimp only; omega)) (.slice Qc qc1 qc2)
       exact ⟨h9.c0, h9.c1, h9.c2, h9.c3, h9.c4, h9.c5⟩
      clear hK K hHeld
      have hHeld := hHeld2
      clear hHeld2
      try simp only [Act.put, List.setIfInBounds_toArray, List.set_cons_zero, List.set_cons_succ]
      refine wpAnyH_done (by kernel_rfl) ?_ _
      clear hHeld
      have HMID : Hid (MidO v3 gp gq ⟨(ta, sa), ⟨Pe, pe1, pe2⟩, ⟨Pk, pk1, pk2⟩, ⟨Pc, pc1, pc2⟩⟩ ⟨(tb, sb), ⟨Qe, qe1, qe2⟩, ⟨Qk, qk1, qk2⟩, ⟨Qc, qc1, qc2⟩⟩ (ta, sa) (tb, sb) ((((((x4513.setCell ⟨gp, 0, none⟩ (.slice Pe pe1 pe2)).setCell ⟨gp, 1, none⟩ (.slice Pk pk1 pk2)).setCell ⟨gp, 2, none⟩ (.slice Pc pc1 pc2)).setCell ⟨gq, 0, none⟩ (.slice Qe qe1 qe2)).setCell ⟨gq, 1, none⟩ (.slice Qk qk1 qk2)).setCell ⟨gq, 2, none⟩ (.slice Qc qc1 qc2))) := by
       obtain ⟨W9, hW9⟩ : ∃ W, W = ((((((x4513.setCell ⟨gp, 0, none⟩ (.slice Pe pe1 pe2)).setCell ⟨gp, 1, none⟩ (.slice Pk pk1 pk2)).setCell ⟨gp, 2, none⟩ (.slice Pc pc1 pc2)).setCell ⟨gq, 0, none⟩ (.slice Qe qe1 qe2)).setCell ⟨gq, 1, none⟩ (.slice Qk qk1 qk2)).setCell ⟨gq, 2, none⟩ (.slice Qc qc1 qc2)) := ⟨_, rfl⟩
       rw [← hW9]
       have hk : ∀ b, (b ≠ gp ∧ b ≠ gq) → b < x4513.heap.size → W9.heap[b]? = x4513.heap[b]? := fun b hb _ => by
        rw [hW9]
        exact (((((Below.heap_setCell _ ⟨gq, 2, none⟩ _ b (fun e => hb.2 e)).trans (Below.heap_setCell _ ⟨gq, 1, none⟩ _ b (fun e => hb.2 e))).trans (Below.heap_setCell _ ⟨gq, 0, none⟩ _ b (fun e => hb.2 e))).trans (Below.heap_setCell _ ⟨gp, 2, none⟩ _ b (fun e => hb.1 e))).trans (Below.heap_setCell _ ⟨gp, 1, none⟩ _ b (fun e => hb.1 e))).trans (Below.heap_setCell _ ⟨gp, 0, none⟩ _ b (fun e => hb.1 e))
       have hs : x4513.heap.size ≤ W9.heap.size := by rw [hW9]; simp [World.setCell]
       have hb : Below v3.heap.size v3 W9 := by
        rw [hW9]
        exact (((((HBV.out.setCell (p := ⟨gp, 0, none⟩) hvp _).setCell (p := ⟨gp, 1, none⟩) hvp _).setCell (p := ⟨gp, 2, none⟩) hvp _).setCell (p := ⟨gq, 0, none⟩) hvq _).setCell (p := ⟨gq, 1, none⟩) hvq _).setCell (p := ⟨gq, 2, none⟩) hvq _
       refine ⟨rfl, rfl, (HNp.out.keep hs hk).rd, (HNq.out.keep hs hk).rd, ?_⟩
       refine ((((((Kept.nil_of hb).cons_of ?_).cons_of ?_).cons_of ?_).cons_of ?_).cons_of ?_).cons_of ?_ <;> (rw [hW9]; go_simp)
      clear zp0 mp0 zp1 mp1 zp2 mp2 zq0 mq0 zq1 mq1 zq2 mq2
      go_wp2_with fail
      go_meet
      exact ⟨gp, gq, ⟨(ta, sa), ⟨Pe, pe1, pe2⟩, ⟨Pk, pk1, pk2⟩, ⟨Pc, pc1, pc2⟩⟩, ⟨(tb, sb), ⟨Qe, qe1, qe2⟩, ⟨Qk, qk1, qk2⟩, ⟨Qc, qc1, qc2⟩⟩, rfl, rfl, HMID.out⟩
    ·go_simp
     refine hK.out _ _ ?_ (fun hHeld2 => ?_)
     ·exact ⟨(HKc.out.alloc _).c0, (HKc.out.alloc _).c1, (HKc.out.alloc _).c2, (HKc.out.alloc _).c3, (HKc.out.alloc _).c4, (HKc.out.alloc _).c5⟩
     clear hK K hHeld
     have hHeld := hHeld2
     clear hHeld2
     obtain ⟨gq, hgq⟩ : ∃ g, g = w1.heap.size := ⟨_, rfl⟩
     obtain ⟨x5, hx5⟩ : ∃ W, W = w1.alloc (.cells #[.slice none 0 0, .slice none 0 0, .slice none 0 0] 29) := ⟨_, rfl⟩
     have HBX : Hid (v3.heap.size ≤ w1.heap.size) := HBV.out.size
     have hb9 : Below w1.heap.size w1 x5 := by rw [hx5]; exact Dt.box_below _ _ _
     have e0 : x5.cell? ⟨gq, 0, none⟩ = some (.slice none 0 0) := by rw [hx5, hgq]; go_simp
     have e1 : x5.cell? ⟨gq, 1, none⟩ = some (.slice none 0 0) := by rw [hx5, hgq]; go_simp
     have e2 : x5.cell? ⟨gq, 2, none⟩ = some (.slice none 0 0) := by rw [hx5, hgq]; go_simp
     have HKc := Lib.hid (HKc.out.later hb9)
     have HBV := Lib.hid (HBV.out.trans (hb9.mono HBV.out.size))
     have HZq : Hid (Kept [(⟨gq, 0, none⟩, .slice none 0 0), (⟨gq, 1, none⟩, .slice none 0 0), (⟨gq, 2, none⟩, .slice none 0 0)] v3 x5) := (((Kept.nil_of HBV.out).cons_of e2).cons_of e1).cons_of e0
     have HFq : Hid (Free gq x5) := ⟨by rw [hx5, hgq]; simp, fun j => by rw [hx5, hgq]; go_simp⟩
     have hltq : gq < x5.heap.size := HFq.out.1
     have hvq : v3.heap.size ≤ gq := by rw [hgq]; exact (Nat.le_trans HBX.out (Nat.le_refl _))
     (try rw [← hx5] at hHeld)
     rw [← hgq, ← hx5]
     clear hgq hx5 hb9 e0 e1 e2
     try simp only [Act.put, List.setIfInBounds_toArray, List.set_cons_zero, List.set_cons_succ]
     refine wpAnyH_ready (rs := [1, 4]) (by kernel_rfl) (by simp) ?_
     refine AllReadyH.cons (o := ⟨some 31, _, _, _, _, _⟩) rfl (fun K hK => ?_) (AllReadyH.cons (o := ⟨some 7, _, _, _, _, _⟩) rfl (fun K hK => ?_) (AllReadyH.nil))
     ·go_simp
      (go_at_call 30; refine (refcloneK_any ta sa Ae Ak Ac ae1 ak1 ae2 ak2 ac1 ac2 x5 (by have := Na.out; omega) Ra.out.len (by have := Qa.out; omega) (RdP.later Ra.out HBV.out).tree (RdP.later Ra.out HBV.out).ctx).mono ?_)
      rintro e x51 ⟨Pe, pe1, pe2, Pk, pk1, pk2, Pc, pc1, pc2, rfl, how, hb9⟩
      have HNp : Hid (NoC x51 (fun b => b ≠ gq) ⟨(ta, sa), ⟨Pe, pe1, pe2⟩, ⟨Pk, pk1, pk2⟩, ⟨Pc, pc1, pc2⟩⟩) := NoC.of_own how (fun b hb _ => by omega)
      clear how
      have HKc := Lib.hid (HKc.out.later hb9)
      have HBV := Lib.hid (HBV.out.trans (hb9.mono HBV.out.size))
      have HZq := Lib.hid (HZq.out.later hb9)
      have HFq := Lib.hid (HFq.out.later hb9)
      have hltq : gq < x51.heap.size := HFq.out.1
      clear hb9
      refine hK.out _ _ ?_ (fun hHeld2 => ?_)
      ·exact ⟨HKc.out.c0, HKc.out.c1, HKc.out.c2, HKc.out.c3, HKc.out.c4, HKc.out.c5⟩
      clear hK K hHeld
      have hHeld := hHeld2
      clear hHeld2
      try simp only [Act.put, List.setIfInBounds_toArray, List.set_cons_zero, List.set_cons_succ]
      refine wpAnyH_ready (rs := [3, 4]) (by kernel_rfl) (by simp) ?_
      refine AllReadyH.cons (o := ⟨some 33, _, _, _, _, _⟩) rfl (fun K hK => ?_) (AllReadyH.cons (o := ⟨some 7, _, _, _, _, _⟩) rfl (fun K hK => ?_) (AllReadyH.nil))
      ·go_simp
       (go_at_call 30; refine (refcloneK_any tb sb Be Bk Bc be1 bk1 be2 bk2 bc1 bc2 x51 (by have := Nb.out; omega) Rb.out.len (by have := Qb.out; omega) (RdP.later Rb.out HBV.out).tree (RdP.later Rb.out HBV.out).ctx).mono ?_)
       rintro e x513 ⟨Qe, qe1, qe2, Qk, qk1, qk2, Qc, qc1, qc2, rfl, how, hb9⟩
       have HNq : Hid (NoC x513 (fun b => b ≠ gq) ⟨(tb, sb), ⟨Qe, qe1, qe2⟩, ⟨Qk, qk1, qk2⟩, ⟨Qc, qc1, qc2⟩⟩) := NoC.of_own how (fun b hb _ => by omega)
       clear how
       have HKc := Lib.hid (HKc.out.later hb9)
       have HBV := Lib.hid (HBV.out.trans (hb9.mono HBV.out.size))
       have HNp := Lib.hid (HNp.out.later hb9)
       have HZq := Lib.hid (HZq.out.later hb9)
       have HFq := Lib.hid (HFq.out.later hb9)
       have hltq : gq < x513.heap.size := HFq.out.1
       clear hb9
       refine hK.out _ _ ?_ (fun hHeld2 => ?_)
       ·exact ⟨HKc.out.c0, HKc.out.c1, HKc.out.c2, HKc.out.c3, HKc.out.c4, HKc.out.c5⟩
       clear hK K hHeld
       have hHeld := hHeld2
       clear hHeld2
       try simp only [Act.put, List.setIfInBounds_toArray, List.set_cons_zero, List.set_cons_succ]
       refine wpAnyH_ready (rs := [4]) (by kernel_rfl) (by simp) ?_
       refine AllReadyH.cons (o := ⟨some 7, _, _, _, _, _⟩) rfl (fun K hK => ?_) AllReadyH.nil
       go_simp
       refine hK.out _ _ ?_ (fun hHeld2 => ?_)
       ·exact ⟨(HKc.out.alloc _).c0, (HKc.out.alloc _).c1, (HKc.out.alloc _).c2, (HKc.out.alloc _).c3, (HKc.out.alloc _).c4, (HKc.out.alloc _).c5⟩
       clear hK K hHeld
       have hHeld := hHeld2
       clear hHeld2
       obtain ⟨gp, hgp⟩ : ∃ g, g = x513.heap.size := ⟨_, rfl⟩
       obtain ⟨x5134, hx5134⟩ : ∃ W, W = x513.alloc (.cells #[.slice none 0 0, .slice none 0 0, .slice none 0 0] 29) := ⟨_, rfl⟩
       have HBX : Hid (v3.heap.size ≤ x513.heap.size) := HBV.out.size
       have hb9 : Below x513.heap.size x513 x5134 := by rw [hx5134]; exact Dt.box_below _ _ _
       have e0 : x5134.cell? ⟨gp, 0, none⟩ = some (.slice none 0 0) := by rw [hx5134, hgp]; go_simp
       have e1 : x5134.cell? ⟨gp, 1, none⟩ = some (.slice none 0 0) := by rw [hx5134, hgp]; go_simp
       have e2 : x5134.cell? ⟨gp, 2, none⟩ = some (.slice none 0 0) := by rw [hx5134, hgp]; go_simp
       have HNp := Lib.hid ((HNp.out.mono (ok' := fun b => b ≠ gp ∧ b ≠ gq) (fun b hb hlt => ⟨by omega, hb⟩)).later hb9)
       have HNq := Lib.hid ((HNq.out.mono (ok' := fun b => b ≠ gp ∧ b ≠ gq) (fun b hb hlt => ⟨by omega, hb⟩)).later hb9)
       have HKc := Lib.hid (HKc.out.later hb9)
       have HBV := Lib.hid (HBV.out.trans (hb9.mono HBV.out.size))
       have HZq := Lib.hid (HZq.out.later hb9)
       have HFq := Lib.hid (HFq.out.later hb9)
       have hltq : gq < x5134.heap.size := HFq.out.1
       have HZp : Hid (Kept [(⟨gp, 0, none⟩, .slice none 0 0), (⟨gp, 1, none⟩, .slice none 0 0), (⟨gp, 2, none⟩, .slice none 0 0)] v3 x5134) := (((Kept.nil_of HBV.out).cons_of e2).cons_of e1).cons_of e0
       have HFp : Hid (Free gp x5134) := ⟨by rw [hx5134, hgp]; simp, fun j => by rw [hx5134, hgp]; go_simp⟩
       have hltp : gp < x5134.heap.size := HFp.out.1
       have hvp : v3.heap.size ≤ gp := by rw [hgp]; exact (Nat.le_trans HBX.out (Nat.le_refl _))
       have hne1 : ¬ gp = gq := by omega
       have hne2 : ¬ gq = gp := by omega
       (try rw [← hx5134] at hHeld)
       rw [← hgp, ← hx5134]
       clear hgp hx5134 hb9 e0 e1 e2
       have zp0 := HZp.out.c0
       have mp0 := HFp.out.2 0
       have zp1 := HZp.out.c1
       have mp1 := HFp.out.2 1
       have zp2 := HZp.out.c2
       have mp2 := HFp.out.2 2
       have zq0 := HZq.out.c0
       have mq0 := HFq.out.2 0
       have zq1 := HZq.out.c1
       have mq1 := HFq.out.2 1
       have zq2 := HZq.out.c2
       have mq2 := HFq.out.2 2
       try simp only [Act.put, List.setIfInBounds_toArray, List.set_cons_zero, List.set_cons_succ]
       refine wpAnyH_ready (rs := [6]) (by kernel_rfl) (by simp) ?_
       refine AllReadyH.cons (o := ⟨none, _, _, _, _, _⟩) rfl (fun K hK => ?_) AllReadyH.nil
       go_simp
       refine hK.out _ _ ?_ (fun hHeld2 => ?_)
       ·(try dsimp only)
        have h9 := HKc.out
        have h9 := h9.set (a := ⟨gp, 0, none⟩) (Nat.le_trans hwv hvp) (fun x hx => by simp at hx; rcases hx with rfl | rfl | rfl | rfl | rfl | rfl <;> (dsimp only; omega)) (.slice Pe pe1 pe2)
        have h9 := h9.set (a := ⟨gp, 1, none⟩) (Nat.le_trans hwv hvp) (fun x hx => by simp at hx; rcases hx with rfl | rfl | rfl | rfl | rfl | rfl <;> (dsimp only; omega)) (.slice Pk pk1 pk2)
        have h9 := h9.set (a := ⟨gp, 2, none⟩) (Nat.le_trans hwv hvp) (fun x hx => by simp at hx; rcases hx with rfl | rfl | rfl | rfl | rfl | rfl <;> (dsimp only; omega)) (.slice Pc pc1 pc2)
        exact ⟨h9.c0, h9.c1, h9.c2, h9.c3, h9.c4, h9.c5⟩
       clear hK K hHeld
       have hHeld := hHeld2
       clear hHeld2
       try simp only [Act.put, List.setIfInBounds_toArray, List.set_cons_zero, List.set_cons_succ]
       refine wpAnyH_ready (rs := [7]) (by kernel_rfl) (by simp) ?_
       refine AllReadyH.cons (o := ⟨none, _, _, _, _, _⟩) rfl (fun K hK => ?_) AllReadyH.nil
       go_simp
       refine hK.out _ _ ?_ (fun hHeld2 => ?_)
       ·(try dsimp only)
        have h9 := HKc.out
        have h9 := h9.set (a := ⟨gp, 0, none⟩) (Nat.le_trans hwv hvp) (fun x hx => by simp at hx; rcases hx with rfl | rfl | rfl | rfl | rfl | rfl <;> (dsimp only; omega)) (.slice Pe pe1 pe2)
        have h9 := h9.set (a := ⟨gp, 1, none⟩) (Nat.le_trans hwv hvp) (fun x hx => by simp at hx; rcases hx with rfl | rfl | rfl | rfl | rfl | rfl <;> (dsimp only; omega)) (.slice Pk pk1 pk2)
        have h9 := h9.set (a := ⟨gp, 2, none⟩) (Nat.le_trans hwv hvp) (fun x hx => by simp at hx; rcases hx with rfl | rfl | rfl | rfl | rfl | rfl <;> (dsimp only; omega)) (.slice Pc pc1 pc2)
        have h9 := h9.set (a := ⟨gq, 0, none⟩) (Nat.le_trans hwv hvq) (fun x hx => by simp at hx; rcases hx with rfl | rfl | rfl | rfl | rfl | rfl <;> (dsimp only; omega)) (.slice Qe qe1 qe2)
        have h9 := h9.set (a := ⟨gq, 1, none⟩) (Nat.le_trans hwv hvq) (fun x hx => by simp at hx; rcases hx with rfl | rfl | rfl | rfl | rfl | rfl <;> (dsimp only; omega)) (.slice Qk qk1 qk2)
        have h9 := h9.set (a := ⟨gq, 2, none⟩) (Nat.le_trans hwv hvq) (fun x hx => by simp at hx; rcases hx with rfl | rfl | rfl | rfl | rfl | rfl <;> (dsimp only; omega)) (.slice Qc qc1 qc2)
        exact ⟨h9.c0, h9.c1, h9.c2, h9.c3, h9.c4, h9.c5⟩
       clear hK K hHeld
       have hHeld := hHeld2
       clear hHeld2
       try simp only [Act.put, List.setIfInBounds_toArray, List.set_cons_zero, List.set_cons_succ]
       refine wpAnyH_done (by kernel_rfl) ?_ _
       clear hHeld
       have HMID : Hid (MidO v3 gp gq ⟨(ta, sa), ⟨Pe, pe1, pe2⟩, ⟨Pk, pk1, pk2⟩, ⟨Pc, pc1, pc2⟩⟩ ⟨(tb, sb), ⟨Qe, qe1, qe2⟩, ⟨Qk, qk1, qk2⟩, ⟨Qc, qc1, qc2⟩⟩ (ta, sa) (tb, sb) ((((((x5134.setCell ⟨gp, 0, none⟩ (.slice Pe pe1 pe2)).setCell ⟨gp, 1, none⟩ (.slice Pk pk1 pk2)).setCell ⟨gp, 2, none⟩ (.slice Pc pc1 pc2)).setCell ⟨gq, 0, none⟩ (.slice Qe qe1 qe2)).setCell ⟨gq, 1, none⟩ (.slice Qk qk1 qk2)).setCell ⟨gq, 2, none⟩ (.slice Qc qc1 qc2))) := by
        obtain ⟨W9, hW9⟩ : ∃ W, W = ((((((x5134.setCell ⟨gp, 0, none⟩ (.slice Pe pe1 pe2)).setCell ⟨gp, 1, none⟩ (.slice Pk pk1 pk2)).setCell ⟨gp, 2, none⟩ (.slice Pc pc1 pc2)).setCell ⟨gq, 0, none⟩ (.slice Qe qe1 qe2)).setCell ⟨gq, 1, none⟩ (.slice Qk qk1 qk2)).setCell ⟨gq, 2, none⟩ (.slice Qc qc1 qc2)) := ⟨_, rfl⟩
        rw [← hW9]
        have hk : ∀ b, (b ≠ gp ∧ b ≠ gq) → b < x5134.heap.size → W9.heap[b]? = x5134.heap[b]? := fun b hb _ => by
         rw [hW9]
         exact (((((Below.heap_setCell _ ⟨gq, 2, none⟩ _ b (fun e => hb.2 e)).trans (Below.heap_setCell _ ⟨gq, 1, none⟩ _ b (fun e => hb.2 e))).trans (Below.heap_setCell _ ⟨gq, 0, none⟩ _ b (fun e => hb.2 e))).trans (Below.heap_setCell _ ⟨gp, 2, none⟩ _ b (fun e => hb.1 e))).trans (Below.heap_setCell _ ⟨gp, 1, none⟩ _ b (fun e => hb.1 e))).trans (Below.heap_setCell _ ⟨gp, 0, none⟩ _ b (fun e => hb.1 e))
        have hs : x5134.heap.size ≤ W9.heap.size := by rw [hW9]; simp [World.setCell]
        have hb : Below v3.heap.size v3 W9 := by
         rw [hW9]
         exact (((((HBV.out.setCell (p := ⟨gp, 0, none⟩) hvp _).setCell (p := ⟨gp, 1, none⟩) hvp _).setCell (p := ⟨gp, 2, none⟩) hvp _).setCell (p := ⟨gq, 0, none⟩) hvq _).setCell (p := ⟨gq, 1, none⟩) hvq _).setCell (p := ⟨gq, 2, none⟩) hvq _
        refine ⟨rfl, rfl, (HNp.out.keep hs hk).rd, (HNq.out.keep hs hk).rd, ?_⟩
        refine ((((((Kept.nil_of hb).cons_of ?_).cons_of ?_).cons_of ?_).cons_of ?_).cons_of ?_).cons_of ?_ <;> (rw [hW9]; go_simp)
       clear zp0 mp0 zp1 mp1 zp2 mp2 zq0 mq0 zq1 mq1 zq2 mq2
       go_wp2_with fail
       go_meet
       exact ⟨gp, gq, ⟨(ta, sa), ⟨Pe, pe1, pe2⟩, ⟨Pk, pk1, pk2⟩, ⟨Pc, pc1, pc2⟩⟩, ⟨(tb, sb), ⟨Qe, qe1, qe2⟩, ⟨Qk, qk1, qk2⟩, ⟨Qc, qc1, qc2⟩⟩, rfl, rfl, HMID.out⟩
      ·go_simp
       refine hK.out _ _ ?_ (fun hHeld2 => ?_)
       ·exact ⟨(HKc.out.alloc _).c0, (HKc.out.alloc _).c1, (HKc.out.alloc _).c2, (HKc.out.alloc _).c3, (HKc.out.alloc _).c4, (HKc.out.alloc _).c5⟩
       clear hK K hHeld
       have hHeld := hHeld2
       clear hHeld2
       obtain ⟨gp, hgp⟩ : ∃ g, g = x51.heap.size := ⟨_, rfl⟩
       obtain ⟨x514, hx514⟩ : ∃ W, W = x51.alloc (.cells #[.slice none 0 0, .slice none 0 0, .slice none 0 0] 29) := ⟨_, rfl⟩
       have HBX : Hid (v3.heap.size ≤ x51.heap.size) := HBV.out.size
       have hb9 : Below x51.heap.size x51 x514 := by rw [hx514]; exact Dt.box_below _ _ _
       have e0 : x514.cell? ⟨gp, 0, none⟩ = some (.slice none 0 0) := by rw [hx514, hgp]; go_simp
       have e1 : x514.cell? ⟨gp, 1, none⟩ = some (.slice none 0 0) := by rw [hx514, hgp]; go_simp
       have e2 : x514.cell? ⟨gp, 2, none⟩ = some (.slice none 0 0) := by rw [hx514, hgp]; go_simp
       have HNp := Lib.hid ((HNp.out.mono (ok' := fun b => b ≠ gp ∧ b ≠ gq) (fun b hb hlt => ⟨by omega, hb⟩)).later hb9)
       have HKc := Lib.hid (HKc.out.later hb9)
       have HBV := Lib.hid (HBV.out.trans (hb9.mono HBV.out.size))
       have HZq := Lib.hid (HZq.out.later hb9)
       have HFq := Lib.hid (HFq.out.later hb9)
       have hltq : gq < x514.heap.size := HFq.out.1
       have HZp : Hid (Kept [(⟨gp, 0, none⟩, .slice none 0 0), (⟨gp, 1, none⟩, .slice none 0 0), (⟨gp, 2, none⟩, .slice none 0 0)] v3 x514) := (((Kept.nil_of HBV.out).cons_of e2).cons_of e1).cons_of e0
       have HFp : Hid (Free gp x514) := ⟨by rw [hx514, hgp]; simp, fun j => by rw [hx514, hgp]; go_simp⟩
       have hltp : gp < x514.heap.size := HFp.out.1
       have hvp : v3.heap.size ≤ gp := by rw [hgp]; exact (Nat.le_trans HBX.out (Nat.le_refl _))
       have hne1 : ¬ gp = gq := by omega
       have hne2 : ¬ gq = gp := by omega
       (try rw [← hx514] at hHeld)
       rw [← hgp, ← hx514]
       clear hgp hx514 hb9 e0 e1 e2
       try simp only [Act.put, List.setIfInBounds_toArray, List.set_cons_zero, List.set_cons_succ]
       refine wpAnyH_ready (rs := [3]) (by kernel_rfl) (by simp) ?_
       refine AllReadyH.cons (o := ⟨some 33, _, _, _, _, _⟩) rfl (fun K hK => ?_) AllReadyH.nil
       go_simp
       (go_at_call 30; refine (refcloneK_any tb sb Be Bk Bc be1 bk1 be2 bk2 bc1 bc2 x514 (by have := Nb.out; omega) Rb.out.len (by have := Qb.out; omega) (RdP.later Rb.out HBV.out).tree (RdP.later Rb.out HBV.out).ctx).mono ?_)
       rintro e x5143 ⟨Qe, qe1, qe2, Qk, qk1, qk2, Qc, qc1, qc2, rfl, how, hb9⟩
       have HNq : Hid (NoC x5143 (fun b => b ≠ gp ∧ b ≠ gq) ⟨(tb, sb), ⟨Qe, qe1, qe2⟩, ⟨Qk, qk1, qk2⟩, ⟨Qc, qc1, qc2⟩⟩) := NoC.of_own how (fun b hb _ => ⟨by omega, by omega⟩)
       clear how
       have HKc := Lib.hid (HKc.out.later hb9)
       have HBV := Lib.hid (HBV.out.trans (hb9.mono HBV.out.size))
       have HNp := Lib.hid (HNp.out.later hb9)
       have HZp := Lib.hid (HZp.out.later hb9)
       have HFp := Lib.hid (HFp.out.later hb9)
       have hltp : gp < x5143.heap.size := HFp.out.1
       have HZq := Lib.hid (HZq.out.later hb9)
       have HFq := Lib.hid (HFq.out.later hb9)
       have hltq : gq < x5143.heap.size := HFq.out.1
       clear hb9
       have zp0 := HZp.out.c0
       have mp0 := HFp.out.2 0
       have zp1 := HZp.out.c1
       have mp1 := HFp.out.2 1
       have zp2 := HZp.out.c2
       have mp2 := HFp.out.2 2
       have zq0 := HZq.out.c0
       have mq0 := HFq.out.2 0
       have zq1 := HZq.out.c1
       have mq1 := HFq.out.2 1
       have zq2 := HZq.out.c2
       have mq2 := HFq.out.2 2
       refine hK.out _ _ ?_ (fun hHeld2 => ?_)
       ·exact ⟨HKc.out.c0, HKc.out.c1, HKc.out.c2, HKc.out.c3, HKc.out.c4, HKc.out.c5⟩
       clear hK K hHeld
       have hHeld := hHeld2
       clear hHeld2
       try simp only [Act.put, List.setIfInBounds_toArray, List.set_cons_zero, List.set_cons_succ]
       refine wpAnyH_ready (rs := [6]) (by kernel_rfl) (by simp) ?_
       refine AllReadyH.cons (o := ⟨none, _, _, _, _, _⟩) rfl (fun K hK => ?_) AllReadyH.nil
       go_simp
       refine hK.out _ _ ?_ (fun hHeld2 => ?_)
       ·(try dsimp only)
        have h9 := HKc.out
        have h9 := h9.set (a := ⟨gp, 0, none⟩) (Nat.le_trans hwv hvp) (fun x hx => by simp at hx; rcases hx with rfl | rfl | rfl | rfl | rfl | rfl <;> (dsimp only; omega)) (.slice Pe pe1 pe2)
        have h9 := h9.set (a := ⟨gp, 1, none⟩) (Nat.le_trans hwv hvp) (fun x hx => by simp at hx; rcases hx with rfl | rfl | rfl | rfl | rfl | rfl <;> (dsimp only; omega)) (.slice Pk pk1 pk2)
        have h9 := h9.set (a := ⟨gp, 2, none⟩) (Nat.le_trans hwv hvp) (fun x hx => by simp at hx; rcases hx with rfl | rfl | rfl | rfl | rfl | rfl <;> (dsimp only; omega)) (.slice Pc pc1 pc2)
        exact ⟨h9.c0, h9.c1, h9.c2, h9.c3, h9.c4, h9.c5⟩
       clear hK K hHeld
       have hHeld := hHeld2
       clear hHeld2
       try simp only [Act.put, List.setIfInBounds_toArray, List.set_cons_zero, List.set_cons_succ]
       refine wpAnyH_ready (rs := [7]) (by kernel_rfl) (by simp) ?_
       refine AllReadyH.cons (o := ⟨none, _, _, _, _, _⟩) rfl (fun K hK => ?_) AllReadyH.nil
       go_simp
       refine hK.out _ _ ?_ (fun hHeld2 => ?_)
       ·(try dsimp only)
        have h9 := HKc.out
        have h9 := h9.set (a := ⟨gp, 0, none⟩) (Nat.le_trans hwv hvp) (fun x hx => by simp at hx; rcases hx with rfl | rfl | rfl | rfl | rfl | rfl <;> (dsimp only; omega)) (.slice Pe pe1 pe2)
        have h9 := h9.set (a := ⟨gp, 1, none⟩) (Nat.le_trans hwv hvp) (fun x hx => by simp at hx; rcases hx with rfl | rfl | rfl | rfl | rfl | rfl <;> (dsimp only; omega)) (.slice Pk pk1 pk2)
        have h9 := h9.set (a := ⟨gp, 2, none⟩) (Nat.le_trans hwv hvp) (fun x hx => by simp at hx; rcases hx with rfl | rfl | rfl | rfl | rfl | rfl <;> (dsimp only; omega)) (.slice Pc pc1 pc2)
        have h9 := h9.set (a := ⟨gq, 0, none⟩) (Nat.le_trans hwv hvq) (fun x hx => by simp at hx; rcases hx with rfl | rfl | rfl | rfl | rfl | rfl <;> (dsimp only; omega)) (.slice Qe qe1 qe2)
        have h9 := h9.set (a := ⟨gq, 1, none⟩) (Nat.le_trans hwv hvq) (fun x hx => by simp at hx; rcases hx with rfl | rfl | rfl | rfl | rfl | rfl <;> (dsimp only; omega)) (.slice Qk qk1 qk2)
        have h9 := h9.set (a := ⟨gq, 2, none⟩) (Nat.le_trans hwv hvq) (fun x hx => by simp at hx; rcases hx with rfl | rfl | rfl | rfl | rfl | rfl <;> (dsimp only; omega)) (.slice Qc qc1 qc2)
        exact ⟨h9.c0, h9.c1, h9.c2, h9.c3, h9.c4, h9.c5⟩
       clear hK K hHeld
       have hHeld := hHeld2
       clear hHeld2
       try simp only [Act.put, List.setIfInBounds_toArray, List.set_cons_zero, List.set_cons_succ]
       refine wpAnyH_done (by kernel_rfl) ?_ _
       clear hHeld
       have HMID : Hid (MidO v3 gp gq ⟨(ta, sa), ⟨Pe, pe1, pe2⟩, ⟨Pk, pk1, pk2⟩, ⟨Pc, pc1, pc2⟩⟩ ⟨(tb, sb), ⟨Qe, qe1, qe2⟩, ⟨Qk, qk1, qk2⟩, ⟨Qc, qc1, qc2⟩⟩ (ta, sa) (tb, sb) ((((((x5143.setCell ⟨gp, 0, none⟩ (.slice Pe pe1 pe2)).setCell ⟨gp, 1, none⟩ (.slice Pk pk1 pk2)).setCell ⟨gp, 2, none⟩ (.slice Pc pc1 pc2)).setCell ⟨gq, 0, none⟩ (.slice Qe qe1 qe2)).setCell ⟨gq, 1, none⟩ (.slice Qk qk1 qk2)).setCell ⟨gq, 2, none⟩ (.slice Qc qc1 qc2))) := by
        obtain ⟨W9, hW9⟩ : ∃ W, W = ((((((x5143.setCell ⟨gp, 0, none⟩ (.slice Pe pe1 pe2)).setCell ⟨gp, 1, none⟩ (.slice Pk pk1 pk2)).setCell ⟨gp, 2, none⟩ (.slice Pc pc1 pc2)).setCell ⟨gq, 0, none⟩ (.slice Qe qe1 qe2)).setCell ⟨gq, 1, none⟩ (.slice Qk qk1 qk2)).setCell ⟨gq, 2, none⟩ (.slice Qc qc1 qc2)) := ⟨_, rfl⟩
        rw [← hW9]
        have hk : ∀ b, (b ≠ gp ∧ b ≠ gq) → b < x5143.heap.size → W9.heap[b]? = x5143.heap[b]? := fun b hb _ => by
         rw [hW9]
         exact (((((Below.heap_setCell _ ⟨gq, 2, none⟩ _ b (fun e => hb.2 e)).trans (Below.heap_setCell _ ⟨gq, 1, none⟩ _ b (fun e => hb.2 e))).trans (Below.heap_setCell _ ⟨gq, 0, none⟩ _ b (fun e => hb.2 e))).trans (Below.heap_setCell _ ⟨gp, 2, none⟩ _ b (fun e => hb.1 e))).trans (Below.heap_setCell _ ⟨gp, 1, none⟩ _ b (fun e => hb.1 e))).trans (Below.heap_setCell _ ⟨gp, 0, none⟩ _ b (fun e => hb.1 e))
        have hs : x5143.heap.size ≤ W9.heap.size := by rw [hW9]; simp [World.setCell]
        have hb : Below v3.heap.size v3 W9 := by
         rw [hW9]
         exact (((((HBV.out.setCell (p := ⟨gp, 0, none⟩) hvp _).setCell (p := ⟨gp, 1, none⟩) hvp _).setCell (p := ⟨gp, 2, none⟩) hvp _).setCell (p := ⟨gq, 0, none⟩) hvq _).setCell (p := ⟨gq, 1, none⟩) hvq _).setCell (p := ⟨gq, 2, none⟩) hvq _
        refine ⟨rfl, rfl, (HNp.out.keep hs hk).rd, (HNq.out.keep hs hk).rd, ?_⟩
        refine ((((((Kept.nil_of hb).cons_of ?_).cons_of ?_).cons_of ?_).cons_of ?_).cons_of ?_).cons_of ?_ <;> (rw [hW9]; go_simp)
       clear zp0 mp0 zp1 mp1 zp2 mp2 zq0 mq0 zq1 mq1 zq2 mq2
       go_wp2_with fail
       go_meet
       exact ⟨gp, gq, ⟨(ta, sa), ⟨Pe, pe1, pe2⟩, ⟨Pk, pk1, pk2⟩, ⟨Pc, pc1, pc2⟩⟩, ⟨(tb, sb), ⟨Qe, qe1, qe2⟩, ⟨Qk, qk1, qk2⟩, ⟨Qc, qc1, qc2⟩⟩, rfl, rfl, HMID.out⟩
     ·go_simp
      refine hK.out _ _ ?_ (fun hHeld2 => ?_)
      ·exact ⟨(HKc.out.alloc _).c0, (HKc.out.alloc _).c1, (HKc.out.alloc _).c2, (HKc.out.alloc _).c3, (HKc.out.alloc _).c4, (HKc.out.alloc _).c5⟩
      clear hK K hHeld
      have hHeld := hHeld2
      clear hHeld2
      obtain ⟨gp, hgp⟩ : ∃ g, g = x5.heap.size := ⟨_, rfl⟩
      obtain ⟨x54, hx54⟩ : ∃ W, W = x5.alloc (.cells #[.slice none 0 0, .slice none 0 0, .slice none 0 0] 29) := ⟨_, rfl⟩
      have HBX : Hid (v3.heap.size ≤ x5.heap.size) := HBV.out.size
      have hb9 : Below x5.heap.size x5 x54 := by rw [hx54]; exact Dt.box_below _ _ _
      have e0 : x54.cell? ⟨gp, 0, none⟩ = some (.slice none 0 0) := by rw [hx54, hgp]; go_simp
      have e1 : x54.cell? ⟨gp, 1, none⟩ = some (.slice none 0 0) := by rw [hx54, hgp]; go_simp
      have e2 : x54.cell? ⟨gp, 2, none⟩ = some (.slice none 0 0) := by rw [hx54, hgp]; go_simp
      have HKc := Lib.hid (HKc.out.later hb9)
      have HBV := Lib.hid (HBV.out.trans (hb9.mono HBV.out.size))
      have HZq := Lib.hid (HZq.out.later hb9)
      have HFq := Lib.hid (HFq.out.later hb9)
      have hltq : gq < x54.heap.size := HFq.out.1
      have HZp : Hid (Kept [(⟨gp, 0, none⟩, .slice none 0 0), (⟨gp, 1, none⟩, .slice none 0 0), (⟨gp, 2, none⟩, .slice none 0 0)] v3 x54) := (((Kept.nil_of HBV.out).cons_of e2).cons_of e1).cons_of e0
      have HFp : Hid (Free gp x54) := ⟨by rw [hx54, hgp]; simp, fun j => by rw [hx54, hgp]; go_simp⟩
      have hltp : gp < x54.heap.size := HFp.out.1
      have hvp : v3.heap.size ≤ gp := by rw [hgp]; exact (Nat.le_trans HBX.out (Nat.le_refl _))
      have hne1 : ¬ gp = gq := by omega
      have hne2 : ¬ gq = gp := by omega
      (try rw [← hx54] at hHeld)
      rw [← hgp, ← hx54]
      clear hgp hx54 hb9 e0 e1 e2
      try simp only [Act.put, List.setIfInBounds_toArray, List.set_cons_zero, List.set_cons_succ]
      refine wpAnyH_ready (rs := [1]) (by kernel_rfl) (by simp) ?_
      refine AllReadyH.cons (o := ⟨some 31, _, _, _, _, _⟩) rfl (fun K hK => ?_) AllReadyH.nil
      go_simp
      (go_at_call 30; refine (refcloneK_any ta sa Ae Ak Ac ae1 ak1 ae2 ak2 ac1 ac2 x54 (by have := Na.out; omega) Ra.out.len (by have := Qa.out; omega) (RdP.later Ra.out HBV.out).tree (RdP.later Ra.out HBV.out).ctx).mono ?_)
      rintro e x541 ⟨Pe, pe1, pe2, Pk, pk1, pk2, Pc, pc1, pc2, rfl, how, hb9⟩
      have HNp : Hid (NoC x541 (fun b => b ≠ gp ∧ b ≠ gq) ⟨(ta, sa), ⟨Pe, pe1, pe2⟩, ⟨Pk, pk1, pk2⟩, ⟨Pc, pc1, pc2⟩⟩) := NoC.of_own how (fun b hb _ => ⟨by omega, by omega⟩)
      clear how
      have HKc := Lib.hid (HKc.out.later hb9)
      have HBV := Lib.hid (HBV.out.trans (hb9.mono HBV.out.size))
      have HZp := Lib.hid (HZp.out.later hb9)
      have HFp := Lib.hid (HFp.out.later hb9)
      have hltp : gp < x541.heap.size := HFp.out.1
      have HZq := Lib.hid (HZq.out.later hb9)
      have HFq := Lib.hid (HFq.out.later hb9)
      have hltq : gq < x541.heap.size := HFq.out.1
      clear hb9
      refine hK.out _ _ ?_ (fun hHeld2 => ?_)
      ·exact ⟨HKc.out.c0, HKc.out.c1, HKc.out.c2, HKc.out.c3, HKc.out.c4, HKc.out.c5⟩
      clear hK K hHeld
      have hHeld := hHeld2
      clear hHeld2
      try simp only [Act.put, List.setIfInBounds_toArray, List.set_cons_zero, List.set_cons_succ]
      refine wpAnyH_ready (rs := [3]) (by kernel_rfl) (by simp) ?_
      refine AllReadyH.cons (o := ⟨some 33, _, _, _, _, _⟩) rfl (fun K hK => ?_) AllReadyH.nil
      go_simp
      (go_at_call 30; refine (refcloneK_any tb sb Be Bk Bc be1 bk1 be2 bk2 bc1 bc2 x541 (by have := Nb.out; omega) Rb.out.len (by have := Qb.out; omega) (RdP.later Rb.out HBV.out).tree (RdP.later Rb.out HBV.out).ctx).mono ?_)
      rintro e x5413 ⟨Qe, qe1, qe2, Qk, qk1, qk2, Qc, qc1, qc2, rfl, how, hb9⟩
      have HNq : Hid (NoC x5413 (fun b => b ≠ gp ∧ b ≠ gq) ⟨(tb, sb), ⟨Qe, qe1, qe2⟩, ⟨Qk, qk1, qk2⟩, ⟨Qc, qc1, qc2⟩⟩) := NoC.of_own how (fun b hb _ => ⟨by omega, by omega⟩)
      clear how
      have HKc := Lib.hid (HKc.out.later hb9)
      have HBV := Lib.hid (HBV.out.trans (hb9.mono HBV.out.size))
      have HNp := Lib.hid (HNp.out.later hb9)
      have HZp := Lib.hid (HZp.out.later hb9)
      have HFp := Lib.hid (HFp.out.later hb9)
      have hltp : gp < x5413.heap.size := HFp.out.1
      have HZq := Lib.hid (HZq.out.later hb9)
      have HFq := Lib.hid (HFq.out.later hb9)
      have hltq : gq < x5413.heap.size := HFq.out.1
      clear hb9
      have zp0 := HZp.out.c0
      have mp0 := HFp.out.2 0
      have zp1 := HZp.out.c1
      have mp1 := HFp.out.2 1
      have zp2 := HZp.out.c2
      have mp2 := HFp.out.2 2
      have zq0 := HZq.out.c0
      have mq0 := HFq.out.2 0
      have zq1 := HZq.out.c1
      have mq1 := HFq.out.2 1
      have zq2 := HZq.out.c2
      have mq2 := HFq.out.2 2
      refine hK.out _ _ ?_ (fun hHeld2 => ?_)
      ·exact ⟨HKc.out.c0, HKc.out.c1, HKc.out.c2, HKc.out.c3, HKc.out.c4, HKc.out.c5⟩
      clear hK K hHeld
      have hHeld := hHeld2
      clear hHeld2
      try simp only [Act.put, List.setIfInBounds_toArray, List.set_cons_zero, List.set_cons_succ]
      refine wpAnyH_ready (rs := [6]) (by kernel_rfl) (by simp) ?_
      refine AllReadyH.cons (o := ⟨none, _, _, _, _, _⟩) rfl (fun K hK => ?_) AllReadyH.nil
      go_simp
      refine hK.out _ _ ?_ (fun hHeld2 => ?_)
      ·(try dsimp only)
       have h9 := HKc.out
       have h9 := h9.set (a := ⟨gp, 0, none⟩) (Nat.le_trans hwv hvp) (fun x hx => by simp at hx; rcases hx with rfl | rfl | rfl | rfl | rfl | rfl <;> (dsimp only; omega)) (.slice Pe pe1 pe2)
       have h9 := h9.set (a := ⟨gp, 1, none⟩) (Nat.le_trans hwv hvp) (fun x hx => by simp at hx; rcases hx with rfl | rfl | rfl | rfl | rfl | rfl <;> (dsimp only; omega)) (.slice Pk pk1 pk2)
       have h9 := h9.set (a := ⟨gp, 2, none⟩) (Nat.le_trans hwv hvp) (fun x hx => by simp at hx; rcases hx with rfl | rfl | rfl | rfl | rfl | rfl <;> (dsimp only; omega)) (.slice Pc pc1 pc2)
       exact ⟨h9.c0, h9.c1, h9.c2, h9.c3, h9.c4, h9.c5⟩
      clear hK K hHeld
      have hHeld := hHeld2
      clear hHeld2
      try simp only [Act.put, List.setIfInBounds_toArray, List.set_cons_zero, List.set_cons_succ]
      refine wpAnyH_ready (rs := [7]) (by kernel_rfl) (by simp) ?_
      refine AllReadyH.cons (o := ⟨none, _, _, _, _, _⟩) rfl (fun K hK => ?_) AllReadyH.nil
      go_simp
      refine hK.out _ _ ?_ (fun hHeld2 => ?_)
      ·(try dsimp only)
       have h9 := HKc.out
       have h9 := h9.set (a := ⟨gp, 0, none⟩) (Nat.le_trans hwv hvp) (fun x hx => by simp at hx; rcases hx with rfl | rfl | rfl | rfl | rfl | rfl <;> (dsimp only; omega)) (.slice Pe pe1 pe2)
       have h9 := h9.set (a := ⟨gp, 1, none⟩) (Nat.le_trans hwv hvp) (fun x hx => by simp at hx; rcases hx with rfl | rfl | rfl | rfl | rfl | rfl <;> (dsimp only; omega)) (.slice Pk pk1 pk2)
       have h9 := h9.set (a := ⟨gp, 2, none⟩) (Nat.le_trans hwv hvp) (fun x hx => by simp at hx; rcases hx with rfl | rfl | rfl | rfl | rfl | rfl <;> (dsimp only; omega)) (.slice Pc pc1 pc2)
       have h9 := h9.set (a := ⟨gq, 0, none⟩) (Nat.le_trans hwv hvq) (fun x hx => by simp at hx; rcases hx with rfl | rfl | rfl | rfl | rfl | rfl <;> (dsimp only; omega)) (.slice Qe qe1 qe2)
       have h9 := h9.set (a := ⟨gq, 1, none⟩) (Nat.le_trans hwv hvq) (fun x hx => by simp at hx; rcases hx with rfl | rfl | rfl | rfl | rfl | rfl <;> (dsimp only; omega)) (.slice Qk qk1 qk2)
       have h9 := h9.set (a := ⟨gq, 2, none⟩) (Nat.le_trans hwv hvq) (fun x hx => by simp at hx; rcases hx with rfl | rfl | rfl | rfl | rfl | rfl <;> (dsimp only; omega)) (.slice Qc qc1 qc2)
       exact ⟨h9.c0, h9.c1, h9.c2, h9.c3, h9.c4, h9.c5⟩
      clear hK K hHeld
      have hHeld := hHeld2
      clear hHeld2
      try simp only [Act.put, List.setIfInBounds_toArray, List.set_cons_zero, List.set_cons_succ]
      refine wpAnyH_done (by kernel_rfl) ?_ _
      clear hHeld
      have HMID : Hid (MidO v3 gp gq ⟨(ta, sa), ⟨Pe, pe1, pe2⟩, ⟨Pk, pk1, pk2⟩, ⟨Pc, pc1, pc2⟩⟩ ⟨(tb, sb), ⟨Qe, qe1, qe2⟩, ⟨Qk, qk1, qk2⟩, ⟨Qc, qc1, qc2⟩⟩ (ta, sa) (tb, sb) ((((((x5413.setCell ⟨gp, 0, none⟩ (.slice Pe pe1 pe2)).setCell ⟨gp, 1, none⟩ (.slice Pk pk1 pk2)).setCell ⟨gp, 2, none⟩ (.slice Pc pc1 pc2)).setCell ⟨gq, 0, none⟩ (.slice Qe qe1 qe2)).setCell ⟨gq, 1, none⟩ (.slice Qk qk1 qk2)).setCell ⟨gq, 2, none⟩ (.slice Qc qc1 qc2))) := by
       obtain ⟨W9, hW9⟩ : ∃ W, W = ((((((x5413.setCell ⟨gp, 0, none⟩ (.slice Pe pe1 pe2)).setCell ⟨gp, 1, none⟩ (.slice Pk pk1 pk2)).setCell ⟨gp, 2, none⟩ (.slice Pc pc1 pc2)).setCell ⟨gq, 0, none⟩ (.slice Qe qe1 qe2)).setCell ⟨gq, 1, none⟩ (.slice Qk qk1 qk2)).setCell ⟨gq, 2, none⟩ (.slice Qc qc1 qc2)) := ⟨_, rfl⟩
       rw [← hW9]
       have hk : ∀ b, (b ≠ gp ∧ b ≠ gq) → b < x5413.heap.size → W9.heap[b]? = x5413.heap[b]? := fun b hb _ => by
        rw [hW9]
        exact (((((Below.heap_setCell _ ⟨gq, 2, none⟩ _ b (fun e => hb.2 e)).trans (Below.heap_setCell _ ⟨gq, 1, none⟩ _ b (fun e => hb.2 e))).trans (Below.heap_setCell _ ⟨gq, 0, none⟩ _ b (fun e => hb.2 e))).trans (Below.heap_setCell _ ⟨gp, 2, none⟩ _ b (fun e => hb.1 e))).trans (Below.heap_setCell _ ⟨gp, 1, none⟩ _ b (fun e => hb.1 e))).trans (Below.heap_setCell _ ⟨gp, 0, none⟩ _ b (fun e => hb.1 e))
       have hs : x5413.heap.size ≤ W9.heap.size := by rw [hW9]; simp [World.setCell]
       have hb : Below v3.heap.size v3 W9 := by
        rw [hW9]
        exact (((((HBV.out.setCell (p := ⟨gp, 0, none⟩) hvp _).setCell (p := ⟨gp, 1, none⟩) hvp _).setCell (p := ⟨gp, 2, none⟩) hvp _).setCell (p := ⟨gq, 0, none⟩) hvq _).setCell (p := ⟨gq, 1, none⟩) hvq _).setCell (p := ⟨gq, 2, none⟩) hvq _
       refine ⟨rfl, rfl, (HNp.out.keep hs hk).rd, (HNq.out.keep hs hk).rd, ?_⟩
       refine ((((((Kept.nil_of hb).cons_of ?_).cons_of ?_).cons_of ?_).cons_of ?_).cons_of ?_).cons_of ?_ <;> (rw [hW9]; go_simp)
      clear zp0 mp0 zp1 mp1 zp2 mp2 zq0 mq0 zq1 mq1 zq2 mq2
      go_wp2_with fail
      go_meet
      exact ⟨gp, gq, ⟨(ta, sa), ⟨Pe, pe1, pe2⟩, ⟨Pk, pk1, pk2⟩, ⟨Pc, pc1, pc2⟩⟩, ⟨(tb, sb), ⟨Qe, qe1, qe2⟩, ⟨Qk, qk1, qk2⟩, ⟨Qc, qc1, qc2⟩⟩, rfl, rfl, HMID.out⟩
   case rest =>
    obtain ⟨gp, gq, ⟨kp, ⟨Pe, pe1, pe2⟩, ⟨Pk, pk1, pk2⟩, ⟨Pc, pc1, pc2⟩⟩, ⟨kq, ⟨Qe, qe1, qe2⟩, ⟨Qk, qk1, qk2⟩, ⟨Qc, qc1, qc2⟩⟩, rfl, rfl, hmid⟩ := hcut
    obtain ⟨rfl, rfl, hrp, hrq, hkp⟩ := hmid.out
    have hb9 := hkp.below
    have Ra := Lib.hid (Ra.out.later hb9)
    have Rb := Lib.hid (Rb.out.later hb9)
    have Rl := Lib.hid (Rl.out.later hb9)
    have HKc := Lib.hid (HKc.out.later hb9)
    clear hb9
    have Rp := Lib.hid hrp
    have Rq := Lib.hid hrq
    have HKc : Hid (Kept [(⟨gp, 0, none⟩, .slice Pe pe1 pe2), (⟨gp, 1, none⟩, .slice Pk pk1 pk2), (⟨gp, 2, none⟩, .slice Pc pc1 pc2), (⟨gq, 0, none⟩, .slice Qe qe1 qe2), (⟨gq, 1, none⟩, .slice Qk qk1 qk2), (⟨gq, 2, none⟩, .slice Qc qc1 qc2), (⟨p, 0, none⟩, .slice Ae ae1 ae2), (⟨p, 1, none⟩, .slice Ak ak1 ak2), (⟨p, 2, none⟩, .slice Ac ac1 ac2), (⟨q, 0, none⟩, .slice Be be1 be2), (⟨q, 1, none⟩, .slice Bk bk1 bk2), (⟨q, 2, none⟩, .slice Bc bc1 bc2)] w wc) := ((((((HKc.out.cons_of hkp.c5).cons_of hkp.c4).cons_of hkp.c3).cons_of hkp.c2).cons_of hkp.c1).cons_of hkp.c0)
    clear hmid hrp hrq hkp
    have Wa := Ra
    have Wb := Rb
    have Wp := Rp
    have Wq := Rq
    have WK := HKc
    have HBC : Hid (Below wc.heap.size wc wc) := Below.refl _ _
    obtain ⟨zr, hzr⟩ : ∃ z, rightKB (ta, sa) = z := ⟨_, rfl⟩
    obtain ⟨kx, hkx⟩ : ∃ k, (if zr = true then (onlyT l ta, sa) else noneK) = k := ⟨_, rfl⟩
    obtain ⟨er, her⟩ : ∃ z : Int, (if zr = true then 0 else 1) = z := ⟨_, rfl⟩
    obtain ⟨zb, hzb⟩ : ∃ z, rightKB (tb, sb) = z := ⟨_, rfl⟩
    obtain ⟨kz, hkz⟩ : ∃ k, (if zb = true then (tb, sb) else noneK) = k := ⟨_, rfl⟩
    have HON := Lib.hid (onlyK_any ta sa Ae Ak Ac ae1 ak1 ae2 ak2 ac1 ac2 wc l Al nl cl HNl.out (by omega) Rl.out (by have := Na.out; omega) Ra.out.len (by have := Qa.out; omega) Ra.out.tree Ra.out.ctx)
    rw [hzr, hkx, her] at HON
    have NX : Hid (nodes kx.1 ≤ 1000 ∧ kx.2.length ≤ 1000) := by
     have h1 := nodes_only l ta
     have h2 := Na.out
     have h3 := Qa.out
     have h4 := Ra.out.len
     rw [← hkx]
     cases zr
     ·exact ⟨by show nodes none_ ≤ _; rw [nodes_none]; omega, by show noneK.2.length ≤ _; have h5 : noneK.2.length = 0 := rfl; omega⟩
     ·exact ⟨by show nodes (onlyT l ta) ≤ _; omega, by show sa.length ≤ _; dsimp only at h4; omega⟩
    have NZ : Hid (nodes kz.1 ≤ 1000 ∧ kz.2.length ≤ 1000) := by
     have h2 := Nb.out
     have h3 := Qb.out
     have h4 := Rb.out.len
     rw [← hkz]
     cases zb
     ·exact ⟨by show nodes none_ ≤ _; rw [nodes_none]; omega, by show noneK.2.length ≤ _; have h5 : noneK.2.length = 0 := rfl; omega⟩
     ·exact ⟨by show nodes tb ≤ _; omega, by show sb.length ≤ _; dsimp only at h4; omega⟩
    have HZB := Lib.hid hzb
    have HKZ := Lib.hid hkz
    clear hzr hkx her hzb hkz
    have c0 := HKc.out.c0
    have c1 := HKc.out.c1
    have c2 := HKc.out.c2
    have c3 := HKc.out.c3
    have c4 := HKc.out.c4
    have c5 := HKc.out.c5
    have c6 := HKc.out.c6
    have c7 := HKc.out.c7
    have c8 := HKc.out.tail.tail.tail.tail.tail.tail.tail.tail.c0
    have c9 := HKc.out.tail.tail.tail.tail.tail.tail.tail.tail.c1
    have c10 := HKc.out.tail.tail.tail.tail.tail.tail.tail.tail.c2
    have c11 := HKc.out.tail.tail.tail.tail.tail.tail.tail.tail.c3
    go_wp2_with fail
    refine HON.out.mono ?_
    rintro e v4 ⟨Xe, xe1, xe2, Xk, xk1, xk2, Xc, xc1, xc2, rfl, how, hb9⟩
    have Rx := Lib.hid (RdP.of_own how)
    have HOX := Lib.hid how
    have HBC := Lib.hid (HBC.out.trans (hb9.mono HBC.out.size))
    clear HON how
    have Ra := Lib.hid (Ra.out.later hb9)
    have Rb := Lib.hid (Rb.out.later hb9)
    have Rl := Lib.hid (Rl.out.later hb9)
    have Rp := Lib.hid (Rp.out.later hb9)
    have Rq := Lib.hid (Rq.out.later hb9)
    have HKc := Lib.hid (HKc.out.later hb9)
    clear hb9
    clear c0 c1 c2 c3 c4 c5 c6 c7 c8 c9 c10 c11
    obtain ⟨gx, hgx⟩ : ∃ g, g = v4.heap.size := ⟨_, rfl⟩
    obtain ⟨v5, hv5⟩ : ∃ W, W = v4.alloc (.cells #[.slice Xe xe1 xe2, .slice Xk xk1 xk2, .slice Xc xc1 xc2] 29) := ⟨_, rfl⟩
    have hb9 : Below v4.heap.size v4 v5 := by rw [hv5]; exact Dt.box_below _ _ _
    have e0 : v5.cell? ⟨gx, 0, none⟩ = some (.slice Xe xe1 xe2) := by rw [hv5, hgx]; go_simp
    have e1 : v5.cell? ⟨gx, 1, none⟩ = some (.slice Xk xk1 xk2) := by rw [hv5, hgx]; go_simp
    have e2 : v5.cell? ⟨gx, 2, none⟩ = some (.slice Xc xc1 xc2) := by rw [hv5, hgx]; go_simp
    have Hgx := Lib.hid hgx
    have Hv5 := Lib.hid hv5
    have Ra := Lib.hid (Ra.out.later hb9)
    have Rb := Lib.hid (Rb.out.later hb9)
    have Rl := Lib.hid (Rl.out.later hb9)
    have Rp := Lib.hid (Rp.out.later hb9)
    have Rq := Lib.hid (Rq.out.later hb9)
    have Rx := Lib.hid (Rx.out.later hb9)
    have HKc := Lib.hid (HKc.out.later hb9)
    have HBC := Lib.hid (HBC.out.trans (hb9.mono HBC.out.size))
    have HOX := Lib.hid (OwC.later HOX.out hb9)
    clear hb9
    have HKc : Hid (Kept [(⟨gx, 0, none⟩, .slice Xe xe1 xe2), (⟨gx, 1, none⟩, .slice Xk xk1 xk2), (⟨gx, 2, none⟩, .slice Xc xc1 xc2), (⟨gp, 0, none⟩, .slice Pe pe1 pe2), (⟨gp, 1, none⟩, .slice Pk pk1 pk2), (⟨gp, 2, none⟩, .slice Pc pc1 pc2), (⟨gq, 0, none⟩, .slice Qe qe1 qe2), (⟨gq, 1, none⟩, .slice Qk qk1 qk2), (⟨gq, 2, none⟩, .slice Qc qc1 qc2), (⟨p, 0, none⟩, .slice Ae ae1 ae2), (⟨p, 1, none⟩, .slice Ak ak1 ak2), (⟨p, 2, none⟩, .slice Ac ac1 ac2), (⟨q, 0, none⟩, .slice Be be1 be2), (⟨q, 1, none⟩, .slice Bk bk1 bk2), (⟨q, 2, none⟩, .slice Bc bc1 bc2)] w v5) := (((HKc.out.cons_of e2).cons_of e1).cons_of e0)
    clear hgx hv5 e0 e1 e2
    have HC5 : Hid (wc.heap.size ≤ v5.heap.size) := HBC.out.size
    have HCL := Lib.hid (cloneK_any tb sb Be Bk Bc be1 bk1 be2 bk2 bc1 bc2 v5 (by have := Nb.out; omega) Rb.out.len (by have := Qb.out; omega) Rb.out.tree Rb.out.ctx)
    rw [HZB.out, HKZ.out] at HCL
    have c0 := HKc.out.c0
    have c1 := HKc.out.c1
    have c2 := HKc.out.c2
    have c3 := HKc.out.c3
    have c4 := HKc.out.c4
    have c5 := HKc.out.c5
    have c6 := HKc.out.c6
    have c7 := HKc.out.c7
    have c8 := HKc.out.tail.tail.tail.tail.tail.tail.tail.tail.c0
    have c9 := HKc.out.tail.tail.tail.tail.tail.tail.tail.tail.c1
    have c10 := HKc.out.tail.tail.tail.tail.tail.tail.tail.tail.c2
    have c11 := HKc.out.tail.tail.tail.tail.tail.tail.tail.tail.c3
    have c12 := HKc.out.tail.tail.tail.tail.tail.tail.tail.tail.c4
    have c13 := HKc.out.tail.tail.tail.tail.tail.tail.tail.tail.c5
    have c14 := HKc.out.tail.tail.tail.tail.tail.tail.tail.tail.c6
    rw [Hv5.out] at c0 c1 c2 c3 c4 c5 c6 c7 c8 c9 c10 c11 c12 c13 c14
    rw [Hgx.out] at c0 c1 c2
    go_wp2_with fail
    rw [← Hgx.out, ← Hv5.out]
    refine HCL.out.mono ?_
    rintro e v6 ⟨Ze, ze1, ze2, Zk, zk1, zk2, Zc, zc1, zc2, rfl, how, hb9⟩
    have Rz := Lib.hid (RdP.of_own how)
    have HOZ := Lib.hid how
    clear HCL how
    have Ra := Lib.hid (Ra.out.later hb9)
    have Rb := Lib.hid (Rb.out.later hb9)
    have Rl := Lib.hid (Rl.out.later hb9)
    have Rp := Lib.hid (Rp.out.later hb9)
    have Rq := Lib.hid (Rq.out.later hb9)
    have Rx := Lib.hid (Rx.out.later hb9)
    have HKc := Lib.hid (HKc.out.later hb9)
    have HBC := Lib.hid (HBC.out.trans (hb9.mono HBC.out.size))
    have HOX := Lib.hid (OwC.later HOX.out hb9)
    clear hb9
    clear c0 c1 c2 c3 c4 c5 c6 c7 c8 c9 c10 c11 c12 c13 c14
    obtain ⟨gz, hgz⟩ : ∃ g, g = v6.heap.size := ⟨_, rfl⟩
    obtain ⟨v7, hv7⟩ : ∃ W, W = v6.alloc (.cells #[.slice Ze ze1 ze2, .slice Zk zk1 zk2, .slice Zc zc1 zc2] 29) := ⟨_, rfl⟩
    have hb9 : Below v6.heap.size v6 v7 := by rw [hv7]; exact Dt.box_below _ _ _
    have e0 : v7.cell? ⟨gz, 0, none⟩ = some (.slice Ze ze1 ze2) := by rw [hv7, hgz]; go_simp
    have e1 : v7.cell? ⟨gz, 1, none⟩ = some (.slice Zk zk1 zk2) := by rw [hv7, hgz]; go_simp
    have e2 : v7.cell? ⟨gz, 2, none⟩ = some (.slice Zc zc1 zc2) := by rw [hv7, hgz]; go_simp
    have Hgz := Lib.hid hgz
    have Hv7 := Lib.hid hv7
    have Ra := Lib.hid (Ra.out.later hb9)
    have Rb := Lib.hid (Rb.out.later hb9)
    have Rl := Lib.hid (Rl.out.later hb9)
    have Rp := Lib.hid (Rp.out.later hb9)
    have Rq := Lib.hid (Rq.out.later hb9)
    have Rx := Lib.hid (Rx.out.later hb9)
    have Rz := Lib.hid (Rz.out.later hb9)
    have HKc := Lib.hid (HKc.out.later hb9)
    have HBC := Lib.hid (HBC.out.trans (hb9.mono HBC.out.size))
    have HOX := Lib.hid (OwC.later HOX.out hb9)
    have HOZ := Lib.hid (OwC.later HOZ.out hb9)
    clear hb9
    have HKc : Hid (Kept [(⟨gz, 0, none⟩, .slice Ze ze1 ze2), (⟨gz, 1, none⟩, .slice Zk zk1 zk2), (⟨gz, 2, none⟩, .slice Zc zc1 zc2), (⟨gx, 0, none⟩, .slice Xe xe1 xe2), (⟨gx, 1, none⟩, .slice Xk xk1 xk2), (⟨gx, 2, none⟩, .slice Xc xc1 xc2), (⟨gp, 0, none⟩, .slice Pe pe1 pe2), (⟨gp, 1, none⟩, .slice Pk pk1 pk2), (⟨gp, 2, none⟩, .slice Pc pc1 pc2), (⟨gq, 0, none⟩, .slice Qe qe1 qe2), (⟨gq, 1, none⟩, .slice Qk qk1 qk2), (⟨gq, 2, none⟩, .slice Qc qc1 qc2), (⟨p, 0, none⟩, .slice Ae ae1 ae2), (⟨p, 1, none⟩, .slice Ak ak1 ak2), (⟨p, 2, none⟩, .slice Ac ac1 ac2), (⟨q, 0, none⟩, .slice Be be1 be2), (⟨q, 1, none⟩, .slice Bk bk1 bk2), (⟨q, 2, none⟩, .slice Bc bc1 bc2)] w v7) := (((HKc.out.cons_of e2).cons_of e1).cons_of e0)
    clear hgz hv7 e0 e1 e2
    have c0 := HKc.out.c0
    have c1 := HKc.out.c1
    have c2 := HKc.out.c2
    have c3 := HKc.out.c3
    have c4 := HKc.out.c4
    have c5 := HKc.out.c5
    have c6 := HKc.out.c6
    have c7 := HKc.out.c7
    have c8 := HKc.out.tail.tail.tail.tail.tail.tail.tail.tail.c0
    have c9 := HKc.out.tail.tail.tail.tail.tail.tail.tail.tail.c1
    have c10 := HKc.out.tail.tail.tail.tail.tail.tail.tail.tail.c2
    have c11 := HKc.out.tail.tail.tail.tail.tail.tail.tail.tail.c3
    have c12 := HKc.out.tail.tail.tail.tail.tail.tail.tail.tail.c4
    have c13 := HKc.out.tail.tail.tail.tail.tail.tail.tail.tail.c5
    have c14 := HKc.out.tail.tail.tail.tail.tail.tail.tail.tail.c6
    have c15 := HKc.out.tail.tail.tail.tail.tail.tail.tail.tail.c7
    have c16 := HKc.out.tail.tail.tail.tail.tail.tail.tail.tail.tail.tail.tail.tail.tail.tail.tail.tail.c0
    have c17 := HKc.out.tail.tail.tail.tail.tail.tail.tail.tail.tail.tail.tail.tail.tail.tail.tail.tail.c1
    rw [Hv7.out] at c0 c1 c2 c3 c4 c5 c6 c7 c8 c9 c10 c11 c12 c13 c14 c15 c16 c17
    rw [Hgz.out] at c0 c1 c2
    obtain ⟨g8, hg8⟩ : ∃ g, g = v7.heap.size := ⟨_, rfl⟩
    obtain ⟨v8, hv8⟩ : ∃ W, W = v7.alloc (.cells #[.slice Be be1 be2, .slice Bk bk1 bk2, .slice Bc bc1 bc2] 29) := ⟨_, rfl⟩
    have hb9 : Below v7.heap.size v7 v8 := by rw [hv8]; exact Dt.box_below _ _ _
    have HCP : Hid (CellsP v8 g8 [⟨(tb, sb), ⟨Be, be1, be2⟩, ⟨Bk, bk1, bk2⟩, ⟨Bc, bc1, bc2⟩⟩]) := by
     intro k hk
     simp at hk
     obtain rfl : k = 0 := by omega
     refine ⟨?_, ?_, ?_⟩ <;> (rw [hv8, hg8]; go_simp)
    have Hg8 := Lib.hid hg8
    have Hv8 := Lib.hid hv8
    clear hg8 hv8
    have Ra := Lib.hid (Ra.out.later hb9)
    have Rb := Lib.hid (Rb.out.later hb9)
    have Rl := Lib.hid (Rl.out.later hb9)
    have Rp := Lib.hid (Rp.out.later hb9)
    have Rq := Lib.hid (Rq.out.later hb9)
    have Rx := Lib.hid (Rx.out.later hb9)
    have Rz := Lib.hid (Rz.out.later hb9)
    have HKc := Lib.hid (HKc.out.later hb9)
    have HBC := Lib.hid (HBC.out.trans (hb9.mono HBC.out.size))
    have HOX := Lib.hid (OwC.later HOX.out hb9)
    have HOZ := Lib.hid (OwC.later HOZ.out hb9)
    clear hb9
    have HPS : Hid (∀ p ∈ ([⟨(tb, sb), ⟨Be, be1, be2⟩, ⟨Bk, bk1, bk2⟩, ⟨Bc, bc1, bc2⟩⟩] : List CP), RdP v8 p) := by
     intro p hp
     simp at hp
     subst hp
     exact Rb.out
    have HLT : Hid (∀ p ∈ ([⟨(tb, sb), ⟨Be, be1, be2⟩, ⟨Bk, bk1, bk2⟩, ⟨Bc, bc1, bc2⟩⟩] : List CP), nodes p.k.1 ≤ 200 ∧ p.c.n ≤ 1000) := by
     intro p hp
     simp at hp
     subst hp
     exact ⟨by have := Nb.out; show nodes tb ≤ 200; omega, by have := Qb.out; show bc1 ≤ 1000; omega⟩
    have HRT := Lib.hid (right_any9 [⟨(tb, sb), ⟨Be, be1, be2⟩, ⟨Bk, bk1, bk2⟩, ⟨Bc, bc1, bc2⟩⟩] 1 g8 1 v8 rfl (by omega) HCP.out HPS.out HLT.out zb (by rw [← HZB.out]; simp))
    clear HCP HPS HLT
    go_wp2_with fail
    rw [← Hv7.out, ← Hv8.out, show v6.heap.size + 1 = g8 from by rw [Hg8.out, Hv7.out]; simp, ← Hgz.out]
    refine HRT.out.mono ?_
    rintro e v9 ⟨rfl, hb9⟩
    have Ra := Lib.hid (Ra.out.later hb9)
    have Rb := Lib.hid (Rb.out.later hb9)
    have Rl := Lib.hid (Rl.out.later hb9)
    have Rp := Lib.hid (Rp.out.later hb9)
    have Rq := Lib.hid (Rq.out.later hb9)
    have Rx := Lib.hid (Rx.out.later hb9)
    have Rz := Lib.hid (Rz.out.later hb9)
    have HKc := Lib.hid (HKc.out.later hb9)
    have HBC := Lib.hid (HBC.out.trans (hb9.mono HBC.out.size))
    have HOX := Lib.hid (OwC.later HOX.out hb9)
    have HOZ := Lib.hid (OwC.later HOZ.out hb9)
    clear hb9
    clear c0 c1 c2 c3 c4 c5 c6 c7 c8 c9 c10 c11 c12 c13 c14 c15 c16 c17 HRT
    have c0 := HKc.out.c0
    have c1 := HKc.out.c1
    have c2 := HKc.out.c2
    have c3 := HKc.out.c3
    have c4 := HKc.out.c4
    have c5 := HKc.out.c5
    have c6 := HKc.out.c6
    have c7 := HKc.out.c7
    have c8 := HKc.out.tail.tail.tail.tail.tail.tail.tail.tail.c0
    have c9 := HKc.out.tail.tail.tail.tail.tail.tail.tail.tail.c1
    have c10 := HKc.out.tail.tail.tail.tail.tail.tail.tail.tail.c2
    have c11 := HKc.out.tail.tail.tail.tail.tail.tail.tail.tail.c3
    have c12 := HKc.out.tail.tail.tail.tail.tail.tail.tail.tail.c4
    have c13 := HKc.out.tail.tail.tail.tail.tail.tail.tail.tail.c5
    have c14 := HKc.out.tail.tail.tail.tail.tail.tail.tail.tail.c6
    have c15 := HKc.out.tail.tail.tail.tail.tail.tail.tail.tail.c7
    have c16 := HKc.out.tail.tail.tail.tail.tail.tail.tail.tail.tail.tail.tail.tail.tail.tail.tail.tail.c0
    have c17 := HKc.out.tail.tail.tail.tail.tail.tail.tail.tail.tail.tail.tail.tail.tail.tail.tail.tail.c1
    cases zb with
    | false =>
     obtain rfl : kz = noneK := HKZ.out.symm
     obtain ⟨g11, hg11⟩ : ∃ g, g = v9.heap.size := ⟨_, rfl⟩
     obtain ⟨v11, hv11⟩ : ∃ W, W = v9.alloc (.cells #[.slice Be be1 be2, .slice Bk bk1 bk2, .slice Bc bc1 bc2] 29) := ⟨_, rfl⟩
     have hb9 : Below v9.heap.size v9 v11 := by rw [hv11]; exact Dt.box_below _ _ _
     have HCP : Hid (CellsP v11 g11 [⟨(tb, sb), ⟨Be, be1, be2⟩, ⟨Bk, bk1, bk2⟩, ⟨Bc, bc1, bc2⟩⟩]) := by
      intro k hk
      simp at hk
      obtain rfl : k = 0 := by omega
      refine ⟨?_, ?_, ?_⟩ <;> (rw [hv11, hg11]; go_simp)
     have Hg11 := Lib.hid hg11
     have Hv11 := Lib.hid hv11
     clear hg11 hv11
     have Ra := Lib.hid (Ra.out.later hb9)
     have Rb := Lib.hid (Rb.out.later hb9)
     have Rl := Lib.hid (Rl.out.later hb9)
     have Rp := Lib.hid (Rp.out.later hb9)
     have Rq := Lib.hid (Rq.out.later hb9)
     have Rx := Lib.hid (Rx.out.later hb9)
     have Rz := Lib.hid (Rz.out.later hb9)
     have HKc := Lib.hid (HKc.out.later hb9)
     have HBC := Lib.hid (HBC.out.trans (hb9.mono HBC.out.size))
     have HOX := Lib.hid (OwC.later HOX.out hb9)
     have HOZ := Lib.hid (OwC.later HOZ.out hb9)
     clear hb9
     have HPS : Hid (∀ p ∈ ([⟨(tb, sb), ⟨Be, be1, be2⟩, ⟨Bk, bk1, bk2⟩, ⟨Bc, bc1, bc2⟩⟩] : List CP), RdP v11 p) := by
      intro p hp
      simp at hp
      subst hp
      exact Rb.out
     have HLT : Hid (∀ p ∈ ([⟨(tb, sb), ⟨Be, be1, be2⟩, ⟨Bk, bk1, bk2⟩, ⟨Bc, bc1, bc2⟩⟩] : List CP), nodes p.k.1 ≤ 200 ∧ p.c.n ≤ 1000) := by
      intro p hp
      simp at hp
      subst hp
      exact ⟨by have := Nb.out; show nodes tb ≤ 200; omega, by have := Qb.out; show bc1 ≤ 1000; omega⟩
     have HRT := Lib.hid (right_any9 [⟨(tb, sb), ⟨Be, be1, be2⟩, ⟨Bk, bk1, bk2⟩, ⟨Bc, bc1, bc2⟩⟩] 1 g11 1 v11 rfl (by omega) HCP.out HPS.out HLT.out false (by rw [← HZB.out]; simp))
     clear HCP HPS HLT
     go_wp2_with fail
     rw [← Hg11.out, ← Hv11.out]
     refine HRT.out.mono ?_
     rintro e v12 ⟨rfl, hb9⟩
     have Ra := Lib.hid (Ra.out.later hb9)
     have Rb := Lib.hid (Rb.out.later hb9)
     have Rl := Lib.hid (Rl.out.later hb9)
     have Rp := Lib.hid (Rp.out.later hb9)
     have Rq := Lib.hid (Rq.out.later hb9)
     have Rx := Lib.hid (Rx.out.later hb9)
     have Rz := Lib.hid (Rz.out.later hb9)
     have HKc := Lib.hid (HKc.out.later hb9)
     have HBC := Lib.hid (HBC.out.trans (hb9.mono HBC.out.size))
     have HOX := Lib.hid (OwC.later HOX.out hb9)
     have HOZ := Lib.hid (OwC.later HOZ.out hb9)
     clear hb9
     clear c0 c1 c2 c3 c4 c5 c6 c7 c8 c9 c10 c11 c12 c13 c14 c15 c16 c17 HRT
     have HSM := Lib.hid (refsameK_any noneK.1 none_ noneK.2 [] Ze Zk Zc none none none ze1 zk1 ze2 zk2 zc1 zc2 0 0 0 0 0 0 v12 true (decide_eq_true rfl) (by show nodes none_ ≤ _; rw [nodes_none]; omega) Rz.out.len (by have h := Rz.out.len; have h2 : noneK.2.length = 0 := rfl; dsimp only at h; omega) Rz.out.tree Rz.out.ctx rfl (RdP.zero _).tree (RdP.zero _).ctx)
     have c0 := HKc.out.c0
     have c1 := HKc.out.c1
     have c2 := HKc.out.c2
     have c3 := HKc.out.c3
     have c4 := HKc.out.c4
     have c5 := HKc.out.c5
     have c6 := HKc.out.c6
     have c7 := HKc.out.c7
     have c8 := HKc.out.tail.tail.tail.tail.tail.tail.tail.tail.c0
     have c9 := HKc.out.tail.tail.tail.tail.tail.tail.tail.tail.c1
     have c10 := HKc.out.tail.tail.tail.tail.tail.tail.tail.tail.c2
     have c11 := HKc.out.tail.tail.tail.tail.tail.tail.tail.tail.c3
     have c12 := HKc.out.tail.tail.tail.tail.tail.tail.tail.tail.c4
     have c13 := HKc.out.tail.tail.tail.tail.tail.tail.tail.tail.c5
     have c14 := HKc.out.tail.tail.tail.tail.tail.tail.tail.tail.c6
     have c15 := HKc.out.tail.tail.tail.tail.tail.tail.tail.tail.c7
     have c16 := HKc.out.tail.tail.tail.tail.tail.tail.tail.tail.tail.tail.tail.tail.tail.tail.tail.tail.c0
     have c17 := HKc.out.tail.tail.tail.tail.tail.tail.tail.tail.tail.tail.tail.tail.tail.tail.tail.tail.c1
     go_wp2_with fail
     refine HSM.out.mono ?_
     rintro e v13 ⟨rfl, hb9⟩
     have Ra := Lib.hid (Ra.out.later hb9)
     have Rb := Lib.hid (Rb.out.later hb9)
     have Rl := Lib.hid (Rl.out.later hb9)
     have Rp := Lib.hid (Rp.out.later hb9)
     have Rq := Lib.hid (Rq.out.later hb9)
     have Rx := Lib.hid (Rx.out.later hb9)
     have Rz := Lib.hid (Rz.out.later hb9)
     have HKc := Lib.hid (HKc.out.later hb9)
     have HBC := Lib.hid (HBC.out.trans (hb9.mono HBC.out.size))
     have HOX := Lib.hid (OwC.later HOX.out hb9)
     have HOZ := Lib.hid (OwC.later HOZ.out hb9)
     clear hb9
     clear c0 c1 c2 c3 c4 c5 c6 c7 c8 c9 c10 c11 c12 c13 c14 c15 c16 c17 HSM
     have c0 := HKc.out.c0
     have c1 := HKc.out.c1
     have c2 := HKc.out.c2
     have c3 := HKc.out.c3
     have c4 := HKc.out.c4
     have c5 := HKc.out.c5
     have c6 := HKc.out.c6
     have c7 := HKc.out.c7
     have c8 := HKc.out.tail.tail.tail.tail.tail.tail.tail.tail.c0
     have c9 := HKc.out.tail.tail.tail.tail.tail.tail.tail.tail.c1
     have c10 := HKc.out.tail.tail.tail.tail.tail.tail.tail.tail.c2
     have c11 := HKc.out.tail.tail.tail.tail.tail.tail.tail.tail.c3
     have c12 := HKc.out.tail.tail.tail.tail.tail.tail.tail.tail.c4
     have c13 := HKc.out.tail.tail.tail.tail.tail.tail.tail.tail.c5
     have c14 := HKc.out.tail.tail.tail.tail.tail.tail.tail.tail.c6
     have c15 := HKc.out.tail.tail.tail.tail.tail.tail.tail.tail.c7
     have c16 := HKc.out.tail.tail.tail.tail.tail.tail.tail.tail.tail.tail.tail.tail.tail.tail.tail.tail.c0
     have c17 := HKc.out.tail.tail.tail.tail.tail.tail.tail.tail.tail.tail.tail.tail.tail.tail.tail.tail.c1
     go_wp2_with fail
     refine wp_region_held_drew (S := fun W => W.cell? ⟨gz, 0, none⟩ = some (.slice Ze ze1 ze2) ∧ W.cell? ⟨gz, 1, none⟩ = some (.slice Zk zk1 zk2) ∧ W.cell? ⟨gz, 2, none⟩ = some (.slice Zc zc1 zc2) ∧ W.cell? ⟨gx, 0, none⟩ = some (.slice Xe xe1 xe2) ∧ W.cell? ⟨gx, 1, none⟩ = some (.slice Xk xk1 xk2) ∧ W.cell? ⟨gx, 2, none⟩ = some (.slice Xc xc1 xc2) ∧ W.cell? ⟨gp, 0, none⟩ = some (.slice Pe pe1 pe2) ∧ W.cell? ⟨gp, 1, none⟩ = some (.slice Pk pk1 pk2) ∧ W.cell? ⟨gp, 2, none⟩ = some (.slice Pc pc1 pc2) ∧ W.cell? ⟨gq, 0, none⟩ = some (.slice Qe qe1 qe2) ∧ W.cell? ⟨gq, 1, none⟩ = some (.slice Qk qk1 qk2) ∧ W.cell? ⟨gq, 2, none⟩ = some (.slice Qc qc1 qc2) ∧ W.cell? ⟨p, 0, none⟩ = some (.slice Ae ae1 ae2) ∧ W.cell? ⟨p, 1, none⟩ = some (.slice Ak ak1 ak2) ∧ W.cell? ⟨p, 2, none⟩ = some (.slice Ac ac1 ac2) ∧ W.cell? ⟨q, 0, none⟩ = some (.slice Be be1 be2) ∧ W.cell? ⟨q, 1, none⟩ = some (.slice Bk bk1 bk2) ∧ W.cell? ⟨q, 2, none⟩ = some (.slice Bc bc1 bc2)) (by kernel_rfl) (by have h9 := HKc.out.drew; exact ⟨h9.c0, h9.c1, h9.c2, h9.c3, h9.c4, h9.c5, h9.c6, h9.c7, h9.tail.tail.tail.tail.tail.tail.tail.tail.c0, h9.tail.tail.tail.tail.tail.tail.tail.tail.c1, h9.tail.tail.tail.tail.tail.tail.tail.tail.c2, h9.tail.tail.tail.tail.tail.tail.tail.tail.c3, h9.tail.tail.tail.tail.tail.tail.tail.tail.c4, h9.tail.tail.tail.tail.tail.tail.tail.tail.c5, h9.tail.tail.tail.tail.tail.tail.tail.tail.c6, h9.tail.tail.tail.tail.tail.tail.tail.tail.c7, h9.tail.tail.tail.tail.tail.tail.tail.tail.tail.tail.tail.tail.tail.tail.tail.tail.c0, h9.tail.tail.tail.tail.tail.tail.tail.tail.tail.tail.tail.tail.tail.tail.tail.tail.c1⟩) (fun hHeld => ?_)
     obtain ⟨w1, hw1⟩ : ∃ v, v = v13.drew := ⟨_, rfl⟩
     have HKc : Hid (Kept [(⟨gz, 0, none⟩, .slice Ze ze1 ze2), (⟨gz, 1, none⟩, .slice Zk zk1 zk2), (⟨gz, 2, none⟩, .slice Zc zc1 zc2), (⟨gx, 0, none⟩, .slice Xe xe1 xe2), (⟨gx, 1, none⟩, .slice Xk xk1 xk2), (⟨gx, 2, none⟩, .slice Xc xc1 xc2), (⟨gp, 0, none⟩, .slice Pe pe1 pe2), (⟨gp, 1, none⟩, .slice Pk pk1 pk2), (⟨gp, 2, none⟩, .slice Pc pc1 pc2), (⟨gq, 0, none⟩, .slice Qe qe1 qe2), (⟨gq, 1, none⟩, .slice Qk qk1 qk2), (⟨gq, 2, none⟩, .slice Qc qc1 qc2), (⟨p, 0, none⟩, .slice Ae ae1 ae2), (⟨p, 1, none⟩, .slice Ak ak1 ak2), (⟨p, 2, none⟩, .slice Ac ac1 ac2), (⟨q, 0, none⟩, .slice Be be1 be2), (⟨q, 1, none⟩, .slice Bk bk1 bk2), (⟨q, 2, none⟩, .slice Bc bc1 bc2)] w w1) := by unfold Hid; rw [hw1]; exact HKc.out.drew
     have Ra : Hid (RdP w1 ⟨(ta, sa), ⟨Ae, ae1, ae2⟩, ⟨Ak, ak1, ak2⟩, ⟨Ac, ac1, ac2⟩⟩) := by unfold Hid; rw [hw1]; exact Ra.out.later ((Below.refl _ _).drew)
     have Rb : Hid (RdP w1 ⟨(tb, sb), ⟨Be, be1, be2⟩, ⟨Bk, bk1, bk2⟩, ⟨Bc, bc1, bc2⟩⟩) := by unfold Hid; rw [hw1]; exact Rb.out.later ((Below.refl _ _).drew)
     have Rl : Hid (Rd w1 w1.heap.size 1 Al nl cl (Tr.strs l)) := by unfold Hid; rw [hw1]; exact Rl.out.later ((Below.refl _ _).drew)
     have Rp : Hid (RdP w1 ⟨(ta, sa), ⟨Pe, pe1, pe2⟩, ⟨Pk, pk1, pk2⟩, ⟨Pc, pc1, pc2⟩⟩) := by unfold Hid; rw [hw1]; exact Rp.out.later ((Below.refl _ _).drew)
     have Rq : Hid (RdP w1 ⟨(tb, sb), ⟨Qe, qe1, qe2⟩, ⟨Qk, qk1, qk2⟩, ⟨Qc, qc1, qc2⟩⟩) := by unfold Hid; rw [hw1]; exact Rq.out.later ((Below.refl _ _).drew)
     have Rx : Hid (RdP w1 ⟨kx, ⟨Xe, xe1, xe2⟩, ⟨Xk, xk1, xk2⟩, ⟨Xc, xc1, xc2⟩⟩) := by unfold Hid; rw [hw1]; exact Rx.out.later ((Below.refl _ _).drew)
     have Rz : Hid (RdP w1 ⟨noneK, ⟨Ze, ze1, ze2⟩, ⟨Zk, zk1, zk2⟩, ⟨Zc, zc1, zc2⟩⟩) := by unfold Hid; rw [hw1]; exact Rz.out.later ((Below.refl _ _).drew)
     have HOX : Hid (OwC w1 wc.heap.size kx Xe xe1 xe2 Xk xk1 xk2 Xc xc1 xc2) := by have h := OwC.later HOX.out (show Below v13.heap.size v13 w1 by rw [hw1]; exact (Below.refl _ _).drew); exact h
     have HOZ : Hid (OwC w1 v5.heap.size noneK Ze ze1 ze2 Zk zk1 zk2 Zc zc1 zc2) := by have h := OwC.later HOZ.out (show Below v13.heap.size v13 w1 by rw [hw1]; exact (Below.refl _ _).drew); exact h
     have HBC : Hid (Below wc.heap.size wc w1) := HBC.out.trans ((show Below v13.heap.size v13 w1 by rw [hw1]; exact (Below.refl _ _).drew).mono HBC.out.size)
     rw [← hw1] at hHeld ⊢
     clear hw1
     refine Tk 0 63 ?_
     refine Tk 1 64 ?_
     refine Tk 3 66 ?_
     refine Tk 4 67 ?_
     refine wpAnyH_ready (rs := [2]) (by kernel_rfl) (by simp) ?_
     refine AllReadyH.cons (o := ⟨some 65, _, _, _, _, _⟩) rfl (fun K hK => ?_) AllReadyH.nil
     go_simp
     (go_at_call 22; refine (joinL_any ta tb sa sb Ae Ak Ac Be Bk Bc ae1 ak1 ae2 ak2 ac1 ac2 be1 bk1 be2 bk2 bc1 bc2 _ (by have := Na.out; omega) Ra.out.len (by have := Qa.out; omega) Ra.out.tree Ra.out.ctx (by have := Nb.out; omega) Rb.out.len (by have := Qb.out; omega) Rb.out.tree Rb.out.ctx).mono ?_)
     rintro e v14 ⟨ky, hj, hj2, Ye, ye1, ye2, Yk, yk1, yk2, Yc, yc1, yc2, rfl, how, hb9⟩
     have NY : Hid (nodes ky.1 ≤ 1000 ∧ ky.2.length ≤ 1000) := by
      by_cases h : RK (ta, sa) ∧ RK (tb, sb)
      ·obtain ⟨h1, h2⟩ := hj h
       have h3 := joinT_nodes 5 sa sb ta tb
       have h4 := Na.out
       have h5 := Nb.out
       have h6 := Qa.out
       have h7 := Qb.out
       refine ⟨?_, by omega⟩
       rw [h1.tree]
       show nodes (joinT 5 sa sb ta tb) ≤ _
       omega
      ·rw [hj2 h]
       exact ⟨by show nodes none_ ≤ _; rw [nodes_none]; omega, by show noneK.2.length ≤ _; have h5 : noneK.2.length = 0 := rfl; omega⟩
     have HOY := Lib.hid how
     have HC1 : Hid (wc.heap.size ≤ w1.heap.size) := HBC.out.size
     have HBC := Lib.hid (HBC.out.trans (hb9.mono HBC.out.size))
     clear hj hj2 how
     have Ra := Lib.hid (Ra.out.later hb9)
     have Rb := Lib.hid (Rb.out.later hb9)
     have Rl := Lib.hid (Rl.out.later hb9)
     have Rp := Lib.hid (Rp.out.later hb9)
     have Rq := Lib.hid (Rq.out.later hb9)
     have Rx := Lib.hid (Rx.out.later hb9)
     have Rz := Lib.hid (Rz.out.later hb9)
     have HKc := Lib.hid (HKc.out.later hb9)
     have HOX := Lib.hid (OwC.later HOX.out hb9)
     have HOZ := Lib.hid (OwC.later HOZ.out hb9)
     clear hb9
     refine hK.out _ _ ?_ (fun hHeld2 => ?_)
     ·exact ⟨HKc.out.c0, HKc.out.c1, HKc.out.c2, HKc.out.c3, HKc.out.c4, HKc.out.c5, HKc.out.c6, HKc.out.c7, HKc.out.tail.tail.tail.tail.tail.tail.tail.tail.c0, HKc.out.tail.tail.tail.tail.tail.tail.tail.tail.c1, HKc.out.tail.tail.tail.tail.tail.tail.tail.tail.c2, HKc.out.tail.tail.tail.tail.tail.tail.tail.tail.c3, HKc.out.tail.tail.tail.tail.tail.tail.tail.tail.c4, HKc.out.tail.tail.tail.tail.tail.tail.tail.tail.c5, HKc.out.tail.tail.tail.tail.tail.tail.tail.tail.c6, HKc.out.tail.tail.tail.tail.tail.tail.tail.tail.c7, HKc.out.tail.tail.tail.tail.tail.tail.tail.tail.tail.tail.tail.tail.tail.tail.tail.tail.c0, HKc.out.tail.tail.tail.tail.tail.tail.tail.tail.tail.tail.tail.tail.tail.tail.tail.tail.c1⟩
     clear hK K hHeld
     have hHeld := hHeld2
     clear hHeld2
     try simp only [Act.put, List.setIfInBounds_toArray, List.set_cons_zero, List.set_cons_succ]
     refine wpAnyH_ready (rs := [5]) (by kernel_rfl) (by simp) ?_
     refine AllReadyH.cons (o := ⟨some 68, _, _, _, _, _⟩) rfl (fun K hK => ?_) AllReadyH.nil
     go_simp
     refine hK.out _ _ ?_ (fun hHeld2 => ?_)
     ·exact ⟨(HKc.out.alloc _).c0, (HKc.out.alloc _).c1, (HKc.out.alloc _).c2, (HKc.out.alloc _).c3, (HKc.out.alloc _).c4, (HKc.out.alloc _).c5, (HKc.out.alloc _).c6, (HKc.out.alloc _).c7, (HKc.out.alloc _).tail.tail.tail.tail.tail.tail.tail.tail.c0, (HKc.out.alloc _).tail.tail.tail.tail.tail.tail.tail.tail.c1, (HKc.out.alloc _).tail.tail.tail.tail.tail.tail.tail.tail.c2, (HKc.out.alloc _).tail.tail.tail.tail.tail.tail.tail.tail.c3, (HKc.out.alloc _).tail.tail.tail.tail.tail.tail.tail.tail.c4, (HKc.out.alloc _).tail.tail.tail.tail.tail.tail.tail.tail.c5, (HKc.out.alloc _).tail.tail.tail.tail.tail.tail.tail.tail.c6, (HKc.out.alloc _).tail.tail.tail.tail.tail.tail.tail.tail.c7, (HKc.out.alloc _).tail.tail.tail.tail.tail.tail.tail.tail.tail.tail.tail.tail.tail.tail.tail.tail.c0, (HKc.out.alloc _).tail.tail.tail.tail.tail.tail.tail.tail.tail.tail.tail.tail.tail.tail.tail.tail.c1⟩
     clear hK K hHeld
     have hHeld := hHeld2
     clear hHeld2
     obtain ⟨gl, hgl⟩ : ∃ g, g = v14.heap.size := ⟨_, rfl⟩
     obtain ⟨vL, hvL⟩ : ∃ W, W = v14.alloc (.cells #[.slice Ye ye1 ye2, .slice Yk yk1 yk2, .slice Yc yc1 yc2, .slice Xe xe1 xe2, .slice Xk xk1 xk2, .slice Xc xc1 xc2, .slice Ze ze1 ze2, .slice Zk zk1 zk2, .slice Zc zc1 zc2] 29) := ⟨_, rfl⟩
     have hb9 : Below v14.heap.size v14 vL := by rw [hvL]; exact Dt.box_below _ _ _
     have HROW : Hid (∀ k, k < 3 → ∃ p : CP, ScrP vL wc.heap.size p ∧ vL.cell? ⟨gl, k * 3, none⟩ = some (.slice p.e.A p.e.n p.e.c) ∧ vL.cell? ⟨gl, k * 3 + 1, none⟩ = some (.slice p.d.A p.d.n p.d.c) ∧ vL.cell? ⟨gl, k * 3 + 2, none⟩ = some (.slice p.c.A p.c.n p.c.c)) := by
      intro k hk
      rcases (by omega : k = 0 ∨ k = 1 ∨ k = 2) with rfl | rfl | rfl
      ·refine ⟨_, ScrP.of_own (OwC.later HOY.out hb9) HC1.out NY.out.1 (by have h := HOY.out.len; have h2 := NY.out.2; (try dsimp only at h); (try dsimp only at h2); omega), ?_, ?_, ?_⟩ <;> (rw [hvL, hgl]; go_simp)
      ·refine ⟨_, ScrP.of_own (OwC.later HOX.out hb9) (Nat.le_refl _) NX.out.1 (by have h := HOX.out.len; have h2 := NX.out.2; (try dsimp only at h); (try dsimp only at h2); omega), ?_, ?_, ?_⟩ <;> (rw [hvL, hgl]; go_simp)
      ·refine ⟨_, ScrP.of_own (OwC.later HOZ.out hb9) HC5.out NZ.out.1 (by have h := HOZ.out.len; have h2 := NZ.out.2; (try dsimp only at h); (try dsimp only at h2); omega), ?_, ?_, ?_⟩ <;> (rw [hvL, hgl]; go_simp)
     have hglv : gl < vL.heap.size := by rw [hvL, hgl]; simp
     have HBC := Lib.hid (HBC.out.trans (hb9.mono HBC.out.size))
     have HBL : Hid (wc.heap.size ≤ vL.heap.size) := HBC.out.size
     (try rw [← hvL] at hHeld)
     rw [← hgl, ← hvL]
     clear hgl hvL hb9 HOX HOY HOZ HKc Ra Rb Rl Rp Rq Rx Rz
     try simp only [Act.put, List.setIfInBounds_toArray, List.set_cons_zero, List.set_cons_succ]
     refine Tk 6 12 ?_
     refine wpAnyH_done (by kernel_rfl) ?_ _
     clear hHeld
     go_wp2_with fail
     go_loopw [71] (fun i wr => ∃ (k : Nat), k ≤ 3 ∧ i = .int .i64 k ∧ Hid (Fr wc.heap.size vL wr)) (fun i _ => 3 - (intOf i).toNat)
     case atStart => exact ⟨0, by omega, rfl, Fr.refl _ _⟩
     case round =>
      obtain ⟨k, hk, rfl, HF⟩ := hrel
      by_cases hlt : k < 3
      ·obtain ⟨⟨⟨t, cs⟩, ⟨Te, te1, te2⟩, ⟨Tk9, tk1, tk2⟩, ⟨Tc, tc1, tc2⟩⟩, hsp, x0, x1, x2⟩ := HROW.out k hlt
       dsimp only at x0 x1 x2
       have hsp2 := hsp.fr HF.out
       have HSP := Lib.hid hsp
       obtain ⟨_, y0, a0⟩ := HF.out.cell _ _ _ hglv x0
       obtain ⟨_, y1, a1⟩ := HF.out.cell _ _ _ hglv x1
       rw [a0.slice] at y0
       rw [a1.slice] at y1
       have X2 := Lib.hid x2
       have HSC := Lib.hid (scribble_any t Te Tk9 te1 tk1 te2 tk2 wc.heap.size wr (Nat.le_trans HBL.out HF.out.size) hsp2.few hsp2.tree)
       have hn9 : tc1 ≤ 1000 := hsp.len
       clear x0 x1 x2 hsp hsp2 a0 a1
       go_wp2_with fail
       refine HSC.out.mono ?_
       rintro e w2 ⟨rfl, hf⟩
       have HF2 := Lib.hid (HF.out.trans hf)
       clear HF
       obtain ⟨_, y2, a2⟩ := HF2.out.cell _ _ _ hglv X2.out
       rw [a2.slice] at y2
       clear hf HSC y0 y1 a2
       obtain ⟨wo, hwo⟩ : ∃ W, W = wr := ⟨_, rfl⟩
       subst hwo
       go_wp2_with fail
       go_loopw [86] (fun i wq => ∃ (j : Nat), j ≤ tc1 ∧ i = .int .i64 j ∧ Hid (Fr wc.heap.size vL wq)) (fun i _ => tc1 - (intOf i).toNat)
       case atStart => exact ⟨0, by omega, rfl, HF2.out⟩
       case round =>
        clear HF2 y2
        obtain ⟨j, hj, rfl, HF⟩ := hrel
        by_cases hlt2 : j < tc1
        ·obtain ⟨b, o, rfl, hb1, hb2, hb3, hb4⟩ := (HSP.out.ctx.fr HF.out) (show 0 < tc1 by omega)
         obtain ⟨i0, i1, i2, d0, d1, d2⟩ := hb4 j hlt2
         obtain ⟨_, y2, a2⟩ := HF.out.cell _ _ _ hglv X2.out
         rw [a2.slice] at y2
         have m0 := hb3 (o + j * 3)
         have m1 := hb3 (o + j * 3 + 1)
         have m2 := hb3 (o + j * 3 + 2)
         obtain ⟨W9, hW9⟩ : ∃ W, W = ((wr.setCell ⟨b, o + j * 3, none⟩ (.int .i64 9)).setCell ⟨b, o + j * 3 + 1, none⟩ (.int .i64 0)).setCell ⟨b, o + j * 3 + 2, none⟩ (.int .i64 0) := ⟨_, rfl⟩
         have HF9 : Hid (Fr wc.heap.size vL W9) := by
          unfold Hid
          rw [hW9]
          have g1 := HF.out.trans (Fr.set (v := .int .i64 9) hb1 m0 d0 (.inr (.inl ⟨_, _, rfl, rfl⟩)))
          have g2 := g1.trans (Fr.set (v := .int .i64 0) (b := b) (j := o + j * 3 + 1) (u := .int .i64 i1) hb1 (by rw [World.frozen?_setCell]; exact m1) (by go_simp) (.inr (.inl ⟨_, _, rfl, rfl⟩)))
          exact g2.trans (Fr.set (v := .int .i64 0) (b := b) (j := o + j * 3 + 2) (u := .int .i64 i2) hb1 (by rw [World.frozen?_setCell, World.frozen?_setCell]; exact m2) (by go_simp) (.inr (.inl ⟨_, _, rfl, rfl⟩)))
         have HW9 := Lib.hid hW9
         clear hb1 hb2 hb3 hb4 a2 hW9
         go_wp2_with fail
         rw [← HW9.out]
         go_roundw
         case rel => exact ⟨j + 1, by omega, by go_num, HF9.out⟩
         case measure => simp [intOf]; omega
        ·obtain rfl : j = tc1 := by omega
         go_wp2_with fail
         go_roundw
         case rel => exact ⟨k + 1, by omega, by go_num, HF.out⟩
         case measure => simp [intOf]; omega
      ·obtain rfl : k = 3 := by omega
       have hb9 : Below wc.heap.size wc wr := HBC.out.trans HF.out.below
       have Ra := Lib.hid (Wa.out.later hb9)
       have Rb := Lib.hid (Wb.out.later hb9)
       have Rp := Lib.hid (Wp.out.later hb9)
       have Rq := Lib.hid (Wq.out.later hb9)
       have HKc := Lib.hid (WK.out.later hb9)
       clear hb9
       have HS1 := Lib.hid (refsameK_any ta ta sa sa Ae Ak Ac Pe Pk Pc ae1 ak1 ae2 ak2 ac1 ac2 pe1 pk1 pe2 pk2 pc1 pc2 wr true (decide_eq_true rfl) (by have := Na.out; omega) Ra.out.len (by have := Qa.out; omega) Ra.out.tree Ra.out.ctx Rp.out.len Rp.out.tree Rp.out.ctx)
       have c0 := HKc.out.c0
       have c1 := HKc.out.c1
       have c2 := HKc.out.c2
       have c3 := HKc.out.c3
       have c4 := HKc.out.c4
       have c5 := HKc.out.c5
       have c6 := HKc.out.c6
       have c7 := HKc.out.c7
       have c8 := HKc.out.tail.tail.tail.tail.tail.tail.tail.tail.c0
       have c9 := HKc.out.tail.tail.tail.tail.tail.tail.tail.tail.c1
       have c10 := HKc.out.tail.tail.tail.tail.tail.tail.tail.tail.c2
       have c11 := HKc.out.tail.tail.tail.tail.tail.tail.tail.tail.c3
       go_wp2_with fail
       refine HS1.out.mono ?_
       rintro e w3 ⟨rfl, hb9⟩
       have Rb := Lib.hid (Rb.out.later hb9)
       have Rq := Lib.hid (Rq.out.later hb9)
       have HKc := Lib.hid (HKc.out.later hb9)
       clear hb9 c0 c1 c2 c3 c4 c5 c6 c7 c8 c9 c10 c11
       have HS2 := Lib.hid (refsameK_any tb tb sb sb Be Bk Bc Qe Qk Qc be1 bk1 be2 bk2 bc1 bc2 qe1 qk1 qe2 qk2 qc1 qc2 w3 true (decide_eq_true rfl) (by have := Nb.out; omega) Rb.out.len (by have := Qb.out; omega) Rb.out.tree Rb.out.ctx Rq.out.len Rq.out.tree Rq.out.ctx)
       have c0 := HKc.out.c0
       have c1 := HKc.out.c1
       have c2 := HKc.out.c2
       have c3 := HKc.out.c3
       have c4 := HKc.out.c4
       have c5 := HKc.out.c5
       have c6 := HKc.out.c6
       have c7 := HKc.out.c7
       have c8 := HKc.out.tail.tail.tail.tail.tail.tail.tail.tail.c0
       have c9 := HKc.out.tail.tail.tail.tail.tail.tail.tail.tail.c1
       have c10 := HKc.out.tail.tail.tail.tail.tail.tail.tail.tail.c2
       have c11 := HKc.out.tail.tail.tail.tail.tail.tail.tail.tail.c3
       go_wp2_with fail
       refine HS2.out.mono ?_
       rintro e w4 ⟨rfl, hb9⟩
       have HKc := Lib.hid (HKc.out.later hb9)
       clear hb9 c0 c1 c2 c3 c4 c5 c6 c7 c8 c9 c10 c11
       go_wp2_with fail
       go_ret
       exact ⟨by first | rfl | simp, HKc.out.below⟩
    | true =>
     obtain rfl : kz = (tb, sb) := HKZ.out.symm
     have HSM := Lib.hid (refsameK_any tb tb sb sb Ze Zk Zc Be Bk Bc ze1 zk1 ze2 zk2 zc1 zc2 be1 bk1 be2 bk2 bc1 bc2 v9 true (decide_eq_true rfl) (by have := Nb.out; omega) Rz.out.len (by have h := Rz.out.len; have h2 := Rb.out.len; have h3 := Qb.out; dsimp only at h h2; omega) Rz.out.tree Rz.out.ctx Rb.out.len Rb.out.tree Rb.out.ctx)
     go_wp2_with fail
     refine HSM.out.mono ?_
     rintro e v10 ⟨rfl, hb9⟩
     have Ra := Lib.hid (Ra.out.later hb9)
     have Rb := Lib.hid (Rb.out.later hb9)
     have Rl := Lib.hid (Rl.out.later hb9)
     have Rp := Lib.hid (Rp.out.later hb9)
     have Rq := Lib.hid (Rq.out.later hb9)
     have Rx := Lib.hid (Rx.out.later hb9)
     have Rz := Lib.hid (Rz.out.later hb9)
     have HKc := Lib.hid (HKc.out.later hb9)
     have HBC := Lib.hid (HBC.out.trans (hb9.mono HBC.out.size))
     have HOX := Lib.hid (OwC.later HOX.out hb9)
     have HOZ := Lib.hid (OwC.later HOZ.out hb9)
     clear hb9
     clear c0 c1 c2 c3 c4 c5 c6 c7 c8 c9 c10 c11 c12 c13 c14 c15 c16 c17 HSM
     have c0 := HKc.out.c0
     have c1 := HKc.out.c1
     have c2 := HKc.out.c2
     have c3 := HKc.out.c3
     have c4 := HKc.out.c4
     have c5 := HKc.out.c5
     have c6 := HKc.out.c6
     have c7 := HKc.out.c7
     have c8 := HKc.out.tail.tail.tail.tail.tail.tail.tail.tail.c0
     have c9 := HKc.out.tail.tail.tail.tail.tail.tail.tail.tail.c1
     have c10 := HKc.out.tail.tail.tail.tail.tail.tail.tail.tail.c2
     have c11 := HKc.out.tail.tail.tail.tail.tail.tail.tail.tail.c3
     have c12 := HKc.out.tail.tail.tail.tail.tail.tail.tail.tail.c4
     have c13 := HKc.out.tail.tail.tail.tail.tail.tail.tail.tail.c5
     have c14 := HKc.out.tail.tail.tail.tail.tail.tail.tail.tail.c6
     have c15 := HKc.out.tail.tail.tail.tail.tail.tail.tail.tail.c7
     have c16 := HKc.out.tail.tail.tail.tail.tail.tail.tail.tail.tail.tail.tail.tail.tail.tail.tail.tail.c0
     have c17 := HKc.out.tail.tail.tail.tail.tail.tail.tail.tail.tail.tail.tail.tail.tail.tail.tail.tail.c1
     obtain ⟨g11, hg11⟩ : ∃ g, g = v10.heap.size := ⟨_, rfl⟩
     obtain ⟨v11, hv11⟩ : ∃ W, W = v10.alloc (.cells #[.slice Be be1 be2, .slice Bk bk1 bk2, .slice Bc bc1 bc2] 29) := ⟨_, rfl⟩
     have hb9 : Below v10.heap.size v10 v11 := by rw [hv11]; exact Dt.box_below _ _ _
     have HCP : Hid (CellsP v11 g11 [⟨(tb, sb), ⟨Be, be1, be2⟩, ⟨Bk, bk1, bk2⟩, ⟨Bc, bc1, bc2⟩⟩]) := by
      intro k hk
      simp at hk
      obtain rfl : k = 0 := by omega
      refine ⟨?_, ?_, ?_⟩ <;> (rw [hv11, hg11]; go_simp)
     have Hg11 := Lib.hid hg11
     have Hv11 := Lib.hid hv11
     clear hg11 hv11
     have Ra := Lib.hid (Ra.out.later hb9)
     have Rb := Lib.hid (Rb.out.later hb9)
     have Rl := Lib.hid (Rl.out.later hb9)
     have Rp := Lib.hid (Rp.out.later hb9)
     have Rq := Lib.hid (Rq.out.later hb9)
     have Rx := Lib.hid (Rx.out.later hb9)
     have Rz := Lib.hid (Rz.out.later hb9)
     have HKc := Lib.hid (HKc.out.later hb9)
     have HBC := Lib.hid (HBC.out.trans (hb9.mono HBC.out.size))
     have HOX := Lib.hid (OwC.later HOX.out hb9)
     have HOZ := Lib.hid (OwC.later HOZ.out hb9)
     clear hb9
     have HPS : Hid (∀ p ∈ ([⟨(tb, sb), ⟨Be, be1, be2⟩, ⟨Bk, bk1, bk2⟩, ⟨Bc, bc1, bc2⟩⟩] : List CP), RdP v11 p) := by
      intro p hp
      simp at hp
      subst hp
      exact Rb.out
     have HLT : Hid (∀ p ∈ ([⟨(tb, sb), ⟨Be, be1, be2⟩, ⟨Bk, bk1, bk2⟩, ⟨Bc, bc1, bc2⟩⟩] : List CP), nodes p.k.1 ≤ 200 ∧ p.c.n ≤ 1000) := by
      intro p hp
      simp at hp
      subst hp
      exact ⟨by have := Nb.out; show nodes tb ≤ 200; omega, by have := Qb.out; show bc1 ≤ 1000; omega⟩
     have HRT := Lib.hid (right_any9 [⟨(tb, sb), ⟨Be, be1, be2⟩, ⟨Bk, bk1, bk2⟩, ⟨Bc, bc1, bc2⟩⟩] 1 g11 1 v11 rfl (by omega) HCP.out HPS.out HLT.out true (by rw [← HZB.out]; simp))
     clear HCP HPS HLT
     go_wp2_with fail
     rw [← Hg11.out, ← Hv11.out]
     refine HRT.out.mono ?_
     rintro e v12 ⟨rfl, hb9⟩
     have Ra := Lib.hid (Ra.out.later hb9)
     have Rb := Lib.hid (Rb.out.later hb9)
     have Rl := Lib.hid (Rl.out.later hb9)
     have Rp := Lib.hid (Rp.out.later hb9)
     have Rq := Lib.hid (Rq.out.later hb9)
     have Rx := Lib.hid (Rx.out.later hb9)
     have Rz := Lib.hid (Rz.out.later hb9)
     have HKc := Lib.hid (HKc.out.later hb9)
     have HBC := Lib.hid (HBC.out.trans (hb9.mono HBC.out.size))
     have HOX := Lib.hid (OwC.later HOX.out hb9)
     have HOZ := Lib.hid (OwC.later HOZ.out hb9)
     clear hb9
     clear c0 c1 c2 c3 c4 c5 c6 c7 c8 c9 c10 c11 c12 c13 c14 c15 c16 c17 HRT
     have c0 := HKc.out.c0
     have c1 := HKc.out.c1
     have c2 := HKc.out.c2
     have c3 := HKc.out.c3
     have c4 := HKc.out.c4
     have c5 := HKc.out.c5
     have c6 := HKc.out.c6
     have c7 := HKc.out.c7
     have c8 := HKc.out.tail.tail.tail.tail.tail.tail.tail.tail.c0
     have c9 := HKc.out.tail.tail.tail.tail.tail.tail.tail.tail.c1
     have c10 := HKc.out.tail.tail.tail.tail.tail.tail.tail.tail.c2
     have c11 := HKc.out.tail.tail.tail.tail.tail.tail.tail.tail.c3
     have c12 := HKc.out.tail.tail.tail.tail.tail.tail.tail.tail.c4
     have c13 := HKc.out.tail.tail.tail.tail.tail.tail.tail.tail.c5
     have c14 := HKc.out.tail.tail.tail.tail.tail.tail.tail.tail.c6
     have c15 := HKc.out.tail.tail.tail.tail.tail.tail.tail.tail.c7
     have c16 := HKc.out.tail.tail.tail.tail.tail.tail.tail.tail.tail.tail.tail.tail.tail.tail.tail.tail.c0
     have c17 := HKc.out.tail.tail.tail.tail.tail.tail.tail.tail.tail.tail.tail.tail.tail.tail.tail.tail.c1
     go_wp2_with fail
     refine wp_region_held_drew (S := fun W => W.cell? ⟨gz, 0, none⟩ = some (.slice Ze ze1 ze2) ∧ W.cell? ⟨gz, 1, none⟩ = some (.slice Zk zk1 zk2) ∧ W.cell? ⟨gz, 2, none⟩ = some (.slice Zc zc1 zc2) ∧ W.cell? ⟨gx, 0, none⟩ = some (.slice Xe xe1 xe2) ∧ W.cell? ⟨gx, 1, none⟩ = some (.slice Xk xk1 xk2) ∧ W.cell? ⟨gx, 2, none⟩ = some (.slice Xc xc1 xc2) ∧ W.cell? ⟨gp, 0, none⟩ = some (.slice Pe pe1 pe2) ∧ W.cell? ⟨gp, 1, none⟩ = some (.slice Pk pk1 pk2) ∧ W.cell? ⟨gp, 2, none⟩ = some (.slice Pc pc1 pc2) ∧ W.cell? ⟨gq, 0, none⟩ = some (.slice Qe qe1 qe2) ∧ W.cell? ⟨gq, 1, none⟩ = some (.slice Qk qk1 qk2) ∧ W.cell? ⟨gq, 2, none⟩ = some (.slice Qc qc1 qc2) ∧ W.cell? ⟨p, 0, none⟩ = some (.slice Ae ae1 ae2) ∧ W.cell? ⟨p, 1, none⟩ = some (.slice Ak ak1 ak2) ∧ W.cell? ⟨p, 2, none⟩ = some (.slice Ac ac1 ac2) ∧ W.cell? ⟨q, 0, none⟩ = some (.slice Be be1 be2) ∧ W.cell? ⟨q, 1, none⟩ = some (.slice Bk bk1 bk2) ∧ W.cell? ⟨q, 2, none⟩ = some (.slice Bc bc1 bc2)) (by kernel_rfl) (by have h9 := HKc.out.drew; exact ⟨h9.c0, h9.c1, h9.c2, h9.c3, h9.c4, h9.c5, h9.c6, h9.c7, h9.tail.tail.tail.tail.tail.tail.tail.tail.c0, h9.tail.tail.tail.tail.tail.tail.tail.tail.c1, h9.tail.tail.tail.tail.tail.tail.tail.tail.c2, h9.tail.tail.tail.tail.tail.tail.tail.tail.c3, h9.tail.tail.tail.tail.tail.tail.tail.tail.c4, h9.tail.tail.tail.tail.tail.tail.tail.tail.c5, h9.tail.tail.tail.tail.tail.tail.tail.tail.c6, h9.tail.tail.tail.tail.tail.tail.tail.tail.c7, h9.tail.tail.tail.tail.tail.tail.tail.tail.tail.tail.tail.tail.tail.tail.tail.tail.c0, h9.tail.tail.tail.tail.tail.tail.tail.tail.tail.tail.tail.tail.tail.tail.tail.tail.c1⟩) (fun hHeld => ?_)
     obtain ⟨w1, hw1⟩ : ∃ v, v = v12.drew := ⟨_, rfl⟩
     have HKc : Hid (Kept [(⟨gz, 0, none⟩, .slice Ze ze1 ze2), (⟨gz, 1, none⟩, .slice Zk zk1 zk2), (⟨gz, 2, none⟩, .slice Zc zc1 zc2), (⟨gx, 0, none⟩, .slice Xe xe1 xe2), (⟨gx, 1, none⟩, .slice Xk xk1 xk2), (⟨gx, 2, none⟩, .slice Xc xc1 xc2), (⟨gp, 0, none⟩, .slice Pe pe1 pe2), (⟨gp, 1, none⟩, .slice Pk pk1 pk2), (⟨gp, 2, none⟩, .slice Pc pc1 pc2), (⟨gq, 0, none⟩, .slice Qe qe1 qe2), (⟨gq, 1, none⟩, .slice Qk qk1 qk2), (⟨gq, 2, none⟩, .slice Qc qc1 qc2), (⟨p, 0, none⟩, .slice Ae ae1 ae2), (⟨p, 1, none⟩, .slice Ak ak1 ak2), (⟨p, 2, none⟩, .slice Ac ac1 ac2), (⟨q, 0, none⟩, .slice Be be1 be2), (⟨q, 1, none⟩, .slice Bk bk1 bk2), (⟨q, 2, none⟩, .slice Bc bc1 bc2)] w w1) := by unfold Hid; rw [hw1]; exact HKc.out.drew
     have Ra : Hid (RdP w1 ⟨(ta, sa), ⟨Ae, ae1, ae2⟩, ⟨Ak, ak1, ak2⟩, ⟨Ac, ac1, ac2⟩⟩) := by unfold Hid; rw [hw1]; exact Ra.out.later ((Below.refl _ _).drew)
     have Rb : Hid (RdP w1 ⟨(tb, sb), ⟨Be, be1, be2⟩, ⟨Bk, bk1, bk2⟩, ⟨Bc, bc1, bc2⟩⟩) := by unfold Hid; rw [hw1]; exact Rb.out.later ((Below.refl _ _).drew)
     have Rl : Hid (Rd w1 w1.heap.size 1 Al nl cl (Tr.strs l)) := by unfold Hid; rw [hw1]; exact Rl.out.later ((Below.refl _ _).drew)
     have Rp : Hid (RdP w1 ⟨(ta, sa), ⟨Pe, pe1, pe2⟩, ⟨Pk, pk1, pk2⟩, ⟨Pc, pc1, pc2⟩⟩) := by unfold Hid; rw [hw1]; exact Rp.out.later ((Below.refl _ _).drew)
     have Rq : Hid (RdP w1 ⟨(tb, sb), ⟨Qe, qe1, qe2⟩, ⟨Qk, qk1, qk2⟩, ⟨Qc, qc1, qc2⟩⟩) := by unfold Hid; rw [hw1]; exact Rq.out.later ((Below.refl _ _).drew)
     have Rx : Hid (RdP w1 ⟨kx, ⟨Xe, xe1, xe2⟩, ⟨Xk, xk1, xk2⟩, ⟨Xc, xc1, xc2⟩⟩) := by unfold Hid; rw [hw1]; exact Rx.out.later ((Below.refl _ _).drew)
     have Rz : Hid (RdP w1 ⟨(tb, sb), ⟨Ze, ze1, ze2⟩, ⟨Zk, zk1, zk2⟩, ⟨Zc, zc1, zc2⟩⟩) := by unfold Hid; rw [hw1]; exact Rz.out.later ((Below.refl _ _).drew)
     have HOX : Hid (OwC w1 wc.heap.size kx Xe xe1 xe2 Xk xk1 xk2 Xc xc1 xc2) := by have h := OwC.later HOX.out (show Below v12.heap.size v12 w1 by rw [hw1]; exact (Below.refl _ _).drew); exact h
     have HOZ : Hid (OwC w1 v5.heap.size (tb, sb) Ze ze1 ze2 Zk zk1 zk2 Zc zc1 zc2) := by have h := OwC.later HOZ.out (show Below v12.heap.size v12 w1 by rw [hw1]; exact (Below.refl _ _).drew); exact h
     have HBC : Hid (Below wc.heap.size wc w1) := HBC.out.trans ((show Below v12.heap.size v12 w1 by rw [hw1]; exact (Below.refl _ _).drew).mono HBC.out.size)
     rw [← hw1] at hHeld ⊢
     clear hw1
     refine Tk 0 63 ?_
     refine Tk 1 64 ?_
     refine Tk 3 66 ?_
     refine Tk 4 67 ?_
     refine wpAnyH_ready (rs := [2]) (by kernel_rfl) (by simp) ?_
     refine AllReadyH.cons (o := ⟨some 65, _, _, _, _, _⟩) rfl (fun K hK => ?_) AllReadyH.nil
     go_simp
     (go_at_call 22; refine (joinL_any ta tb sa sb Ae Ak Ac Be Bk Bc ae1 ak1 ae2 ak2 ac1 ac2 be1 bk1 be2 bk2 bc1 bc2 _ (by have := Na.out; omega) Ra.out.len (by have := Qa.out; omega) Ra.out.tree Ra.out.ctx (by have := Nb.out; omega) Rb.out.len (by have := Qb.out; omega) Rb.out.tree Rb.out.ctx).mono ?_)
     rintro e v14 ⟨ky, hj, hj2, Ye, ye1, ye2, Yk, yk1, yk2, Yc, yc1, yc2, rfl, how, hb9⟩
     have NY : Hid (nodes ky.1 ≤ 1000 ∧ ky.2.length ≤ 1000) := by
      by_cases h : RK (ta, sa) ∧ RK (tb, sb)
      ·obtain ⟨h1, h2⟩ := hj h
       have h3 := joinT_nodes 5 sa sb ta tb
       have h4 := Na.out
       have h5 := Nb.out
       have h6 := Qa.out
       have h7 := Qb.out
       refine ⟨?_, by omega⟩
       rw [h1.tree]
       show nodes (joinT 5 sa sb ta tb) ≤ _
       omega
      ·rw [hj2 h]
       exact ⟨by show nodes none_ ≤ _; rw [nodes_none]; omega, by show noneK.2.length ≤ _; have h5 : noneK.2.length = 0 := rfl; omega⟩
     have HOY := Lib.hid how
     have HC1 : Hid (wc.heap.size ≤ w1.heap.size) := HBC.out.size
     have HBC := Lib.hid (HBC.out.trans (hb9.mono HBC.out.size))
     clear hj hj2 how
     have Ra := Lib.hid (Ra.out.later hb9)
     have Rb := Lib.hid (Rb.out.later hb9)
     have Rl := Lib.hid (Rl.out.later hb9)
     have Rp := Lib.hid (Rp.out.later hb9)
     have Rq := Lib.hid (Rq.out.later hb9)
     have Rx := Lib.hid (Rx.out.later hb9)
     have Rz := Lib.hid (Rz.out.later hb9)
     have HKc := Lib.hid (HKc.out.later hb9)
     have HOX := Lib.hid (OwC.later HOX.out hb9)
     have HOZ := Lib.hid (OwC.later HOZ.out hb9)
     clear hb9
     refine hK.out _ _ ?_ (fun hHeld2 => ?_)
     ·exact ⟨HKc.out.c0, HKc.out.c1, HKc.out.c2, HKc.out.c3, HKc.out.c4, HKc.out.c5, HKc.out.c6, HKc.out.c7, HKc.out.tail.tail.tail.tail.tail.tail.tail.tail.c0, HKc.out.tail.tail.tail.tail.tail.tail.tail.tail.c1, HKc.out.tail.tail.tail.tail.tail.tail.tail.tail.c2, HKc.out.tail.tail.tail.tail.tail.tail.tail.tail.c3, HKc.out.tail.tail.tail.tail.tail.tail.tail.tail.c4, HKc.out.tail.tail.tail.tail.tail.tail.tail.tail.c5, HKc.out.tail.tail.tail.tail.tail.tail.tail.tail.c6, HKc.out.tail.tail.tail.tail.tail.tail.tail.tail.c7, HKc.out.tail.tail.tail.tail.tail.tail.tail.tail.tail.tail.tail.tail.tail.tail.tail.tail.c0, HKc.out.tail.tail.tail.tail.tail.tail.tail.tail.tail.tail.tail.tail.tail.tail.tail.tail.c1⟩
     clear hK K hHeld
     have hHeld := hHeld2
     clear hHeld2
     try simp only [Act.put, List.setIfInBounds_toArray, List.set_cons_zero, List.set_cons_succ]
     refine wpAnyH_ready (rs := [5]) (by kernel_rfl) (by simp) ?_
     refine AllReadyH.cons (o := ⟨some 68, _, _, _, _, _⟩) rfl (fun K hK => ?_) AllReadyH.nil
     go_simp
     refine hK.out _ _ ?_ (fun hHeld2 => ?_)
     ·exact ⟨(HKc.out.alloc _).c0, (HKc.out.alloc _).c1, (HKc.out.alloc _).c2, (HKc.out.alloc _).c3, (HKc.out.alloc _).c4, (HKc.out.alloc _).c5, (HKc.out.alloc _).c6, (HKc.out.alloc _).c7, (HKc.out.alloc _).tail.tail.tail.tail.tail.tail.tail.tail.c0, (HKc.out.alloc _).tail.tail.tail.tail.tail.tail.tail.tail.c1, (HKc.out.alloc _).tail.tail.tail.tail.tail.tail.tail.tail.c2, (HKc.out.alloc _).tail.tail.tail.tail.tail.tail.tail.tail.c3, (HKc.out.alloc _).tail.tail.tail.tail.tail.tail.tail.tail.c4, (HKc.out.alloc _).tail.tail.tail.tail.tail.tail.tail.tail.c5, (HKc.out.alloc _).tail.tail.tail.tail.tail.tail.tail.tail.c6, (HKc.out.alloc _).tail.tail.tail.tail.tail.tail.tail.tail.c7, (HKc.out.alloc _).tail.tail.tail.tail.tail.tail.tail.tail.tail.tail.tail.tail.tail.tail.tail.tail.c0, (HKc.out.alloc _).tail.tail.tail.tail.tail.tail.tail.tail.tail.tail.tail.tail.tail.tail.tail.tail.c1⟩
     clear hK K hHeld
     have hHeld := hHeld2
     clear hHeld2
     obtain ⟨gl, hgl⟩ : ∃ g, g = v14.heap.size := ⟨_, rfl⟩
     obtain ⟨vL, hvL⟩ : ∃ W, W = v14.alloc (.cells #[.slice Ye ye1 ye2, .slice Yk yk1 yk2, .slice Yc yc1 yc2, .slice Xe xe1 xe2, .slice Xk xk1 xk2, .slice Xc xc1 xc2, .slice Ze ze1 ze2, .slice Zk zk1 zk2, .slice Zc zc1 zc2] 29) := ⟨_, rfl⟩
     have hb9 : Below v14.heap.size v14 vL := by rw [hvL]; exact Dt.box_below _ _ _
     have HROW : Hid (∀ k, k < 3 → ∃ p : CP, ScrP vL wc.heap.size p ∧ vL.cell? ⟨gl, k * 3, none⟩ = some (.slice p.e.A p.e.n p.e.c) ∧ vL.cell? ⟨gl, k * 3 + 1, none⟩ = some (.slice p.d.A p.d.n p.d.c) ∧ vL.cell? ⟨gl, k * 3 + 2, none⟩ = some (.slice p.c.A p.c.n p.c.c)) := by
      intro k hk
      rcases (by omega : k = 0 ∨ k = 1 ∨ k = 2) with rfl | rfl | rfl
      ·refine ⟨_, ScrP.of_own (OwC.later HOY.out hb9) HC1.out NY.out.1 (by have h := HOY.out.len; have h2 := NY.out.2; (try dsimp only at h); (try dsimp only at h2); omega), ?_, ?_, ?_⟩ <;> (rw [hvL, hgl]; go_simp)
      ·refine ⟨_, ScrP.of_own (OwC.later HOX.out hb9) (Nat.le_refl _) NX.out.1 (by have h := HOX.out.len; have h2 := NX.out.2; (try dsimp only at h); (try dsimp only at h2); omega), ?_, ?_, ?_⟩ <;> (rw [hvL, hgl]; go_simp)
      ·refine ⟨_, ScrP.of_own (OwC.later HOZ.out hb9) HC5.out NZ.out.1 (by have h := HOZ.out.len; have h2 := NZ.out.2; (try dsimp only at h); (try dsimp only at h2); omega), ?_, ?_, ?_⟩ <;> (rw [hvL, hgl]; go_simp)
     have hglv : gl < vL.heap.size := by rw [hvL, hgl]; simp
     have HBC := Lib.hid (HBC.out.trans (hb9.mono HBC.out.size))
     have HBL : Hid (wc.heap.size ≤ vL.heap.size) := HBC.out.size
     (try rw [← hvL] at hHeld)
     rw [← hgl, ← hvL]
     clear hgl hvL hb9 HOX HOY HOZ HKc Ra Rb Rl Rp Rq Rx Rz
     try simp only [Act.put, List.setIfInBounds_toArray, List.set_cons_zero, List.set_cons_succ]
     refine Tk 6 12 ?_
     refine wpAnyH_done (by kernel_rfl) ?_ _
     clear hHeld
     go_wp2_with fail
     go_loopw [71] (fun i wr => ∃ (k : Nat), k ≤ 3 ∧ i = .int .i64 k ∧ Hid (Fr wc.heap.size vL wr)) (fun i _ => 3 - (intOf i).toNat)
     case atStart => exact ⟨0, by omega, rfl, Fr.refl _ _⟩
     case round =>
      obtain ⟨k, hk, rfl, HF⟩ := hrel
      by_cases hlt : k < 3
      ·obtain ⟨⟨⟨t, cs⟩, ⟨Te, te1, te2⟩, ⟨Tk9, tk1, tk2⟩, ⟨Tc, tc1, tc2⟩⟩, hsp, x0, x1, x2⟩ := HROW.out k hlt
       dsimp only at x0 x1 x2
       have hsp2 := hsp.fr HF.out
       have HSP := Lib.hid hsp
       obtain ⟨_, y0, a0⟩ := HF.out.cell _ _ _ hglv x0
       obtain ⟨_, y1, a1⟩ := HF.out.cell _ _ _ hglv x1
       rw [a0.slice] at y0
       rw [a1.slice] at y1
       have X2 := Lib.hid x2
       have HSC := Lib.hid (scribble_any t Te Tk9 te1 tk1 te2 tk2 wc.heap.size wr (Nat.le_trans HBL.out HF.out.size) hsp2.few hsp2.tree)
       have hn9 : tc1 ≤ 1000 := hsp.len
       clear x0 x1 x2 hsp hsp2 a0 a1
       go_wp2_with fail
       refine HSC.out.mono ?_
       rintro e w2 ⟨rfl, hf⟩
       have HF2 := Lib.hid (HF.out.trans hf)
       clear HF
       obtain ⟨_, y2, a2⟩ := HF2.out.cell _ _ _ hglv X2.out
       rw [a2.slice] at y2
       clear hf HSC y0 y1 a2
       obtain ⟨wo, hwo⟩ : ∃ W, W = wr := ⟨_, rfl⟩
       subst hwo
       go_wp2_with fail
       go_loopw [86] (fun i wq => ∃ (j : Nat), j ≤ tc1 ∧ i = .int .i64 j ∧ Hid (Fr wc.heap.size vL wq)) (fun i _ => tc1 - (intOf i).toNat)
       case atStart => exact ⟨0, by omega, rfl, HF2.out⟩
       case round =>
        clear HF2 y2
        obtain ⟨j, hj, rfl, HF⟩ := hrel
        by_cases hlt2 : j < tc1
        ·obtain ⟨b, o, rfl, hb1, hb2, hb3, hb4⟩ := (HSP.out.ctx.fr HF.out) (show 0 < tc1 by omega)
         obtain ⟨i0, i1, i2, d0, d1, d2⟩ := hb4 j hlt2
         obtain ⟨_, y2, a2⟩ := HF.out.cell _ _ _ hglv X2.out
         rw [a2.slice] at y2
         have m0 := hb3 (o + j * 3)
         have m1 := hb3 (o + j * 3 + 1)
         have m2 := hb3 (o + j * 3 + 2)
         obtain ⟨W9, hW9⟩ : ∃ W, W = ((wr.setCell ⟨b, o + j * 3, none⟩ (.int .i64 9)).setCell ⟨b, o + j * 3 + 1, none⟩ (.int .i64 0)).setCell ⟨b, o + j * 3 + 2, none⟩ (.int .i64 0) := ⟨_, rfl⟩
         have HF9 : Hid (Fr wc.heap.size vL W9) := by
          unfold Hid
          rw [hW9]
          have g1 := HF.out.trans (Fr.set (v := .int .i64 9) hb1 m0 d0 (.inr (.inl ⟨_, _, rfl, rfl⟩)))
          have g2 := g1.trans (Fr.set (v := .int .i64 0) (b := b) (j := o + j * 3 + 1) (u := .int .i64 i1) hb1 (by rw [World.frozen?_setCell]; exact m1) (by go_simp) (.inr (.inl ⟨_, _, rfl, rfl⟩)))
          exact g2.trans (Fr.set (v := .int .i64 0) (b := b) (j := o + j * 3 + 2) (u := .int .i64 i2) hb1 (by rw [World.frozen?_setCell, World.frozen?_setCell]; exact m2) (by go_simp) (.inr (.inl ⟨_, _, rfl, rfl⟩)))
         have HW9 := Lib.hid hW9
         clear hb1 hb2 hb3 hb4 a2 hW9
         go_wp2_with fail
         rw [← HW9.out]
         go_roundw
         case rel => exact ⟨j + 1, by omega, by go_num, HF9.out⟩
         case measure => simp [intOf]; omega
        ·obtain rfl : j = tc1 := by omega
         go_wp2_with fail
         go_roundw
         case rel => exact ⟨k + 1, by omega, by go_num, HF.out⟩
         case measure => simp [intOf]; omega
      ·obtain rfl : k = 3 := by omega
       have hb9 : Below wc.heap.size wc wr := HBC.out.trans HF.out.below
       have Ra := Lib.hid (Wa.out.later hb9)
       have Rb := Lib.hid (Wb.out.later hb9)
       have Rp := Lib.hid (Wp.out.later hb9)
       have Rq := Lib.hid (Wq.out.later hb9)
       have HKc := Lib.hid (WK.out.later hb9)
       clear hb9
       have HS1 := Lib.hid (refsameK_any ta ta sa sa Ae Ak Ac Pe Pk Pc ae1 ak1 ae2 ak2 ac1 ac2 pe1 pk1 pe2 pk2 pc1 pc2 wr true (decide_eq_true rfl) (by have := Na.out; omega) Ra.out.len (by have := Qa.out; omega) Ra.out.tree Ra.out.ctx Rp.out.len Rp.out.tree Rp.out.ctx)
       have c0 := HKc.out.c0
       have c1 := HKc.out.c1
       have c2 := HKc.out.c2
       have c3 := HKc.out.c3
       have c4 := HKc.out.c4
       have c5 := HKc.out.c5
       have c6 := HKc.out.c6
       have c7 := HKc.out.c7
       have c8 := HKc.out.tail.tail.tail.tail.tail.tail.tail.tail.c0
       have c9 := HKc.out.tail.tail.tail.tail.tail.tail.tail.tail.c1
       have c10 := HKc.out.tail.tail.tail.tail.tail.tail.tail.tail.c2
       have c11 := HKc.out.tail.tail.tail.tail.tail.tail.tail.tail.c3
       go_wp2_with fail
       refine HS1.out.mono ?_
       rintro e w3 ⟨rfl, hb9⟩
       have Rb := Lib.hid (Rb.out.later hb9)
       have Rq := Lib.hid (Rq.out.later hb9)
       have HKc := Lib.hid (HKc.out.later hb9)
       clear hb9 c0 c1 c2 c3 c4 c5 c6 c7 c8 c9 c10 c11
       have HS2 := Lib.hid (refsameK_any tb tb sb sb Be Bk Bc Qe Qk Qc be1 bk1 be2 bk2 bc1 bc2 qe1 qk1 qe2 qk2 qc1 qc2 w3 true (decide_eq_true rfl) (by have := Nb.out; omega) Rb.out.len (by have := Qb.out; omega) Rb.out.tree Rb.out.ctx Rq.out.len Rq.out.tree Rq.out.ctx)
       have c0 := HKc.out.c0
       have c1 := HKc.out.c1
       have c2 := HKc.out.c2
       have c3 := HKc.out.c3
       have c4 := HKc.out.c4
       have c5 := HKc.out.c5
       have c6 := HKc.out.c6
       have c7 := HKc.out.c7
       have c8 := HKc.out.tail.tail.tail.tail.tail.tail.tail.tail.c0
       have c9 := HKc.out.tail.tail.tail.tail.tail.tail.tail.tail.c1
       have c10 := HKc.out.tail.tail.tail.tail.tail.tail.tail.tail.c2
       have c11 := HKc.out.tail.tail.tail.tail.tail.tail.tail.tail.c3
       go_wp2_with fail
       refine HS2.out.mono ?_
       rintro e w4 ⟨rfl, hb9⟩
       have HKc := Lib.hid (HKc.out.later hb9)
       clear hb9 c0 c1 c2 c3 c4 c5 c6 c7 c8 c9 c10 c11
       go_wp2_with fail
       go_ret
       exact ⟨by first | rfl | simp, HKc.out.below⟩
  ·have f20 : decide ((20 : Int) < (nl : Int)) = true := decide_eq_true (by omega)
   go_wp2_with fail
   refine (awake_any _).mono ?_
   rintro e v9 ⟨rfl, hb9⟩
   have HKc := Lib.hid (HKc.out.later hb9)
   clear hb9
   go_wp2_with fail
   go_ret
   exact ⟨rfl, HKc.out.below⟩
set_option maxRecDepth 100000 in
theorem lifted (os : Os) (started : os.Started) (H : Type) (enc : TypeId × Value → H) :
  ReturnsInHanded {} Tryz.checked os 12 .any (Rows.causalOwnSpec.pre6 enc Tryz.prog Tryz.f12 Rows.causalOwnRow.domain false) (Rows.causalOwnSpec.post enc Tryz.prog Tryz.f12 false true false false) := by
 refine returnsInHanded_of_change_sized (C := Tryz.checked) own started (by kernel_rfl) Tryz.func12
  (ChangeSpec.witness6 (enc := enc) (C := Tryz.checked) false ⟨#[], #[.agg #[.slice none 0 0, .slice none 0 0, .slice none 0 0], .agg #[.slice none 0 0, .slice none 0 0, .slice none 0 0], .slice none 0 0], []⟩ 8 (by kernel_rfl) (by kernel_rfl) (by kernel_rfl) (by kernel_rfl)) ?_
 intro W base args ds gs before hval0 hW _ hsz0 _
 have hval : ∀ (j : Nat) t v, Tryz.f12.params[j]? = some t → args[j]? = some v → Value.okWide Tryz.prog W .any base t v := hval0
 have hW' := hW
 obtain ⟨p, q, hA0, hV, rfl, hfz, hnd⟩ := hW
 have hA : DataW.TrodAll enc Tryz.prog W 0 (fun _ => true) true Tryz.f12.params.toList args.toList ds p := hA0
 rw [Tryz.params12] at hA hval
 obtain ⟨v0, v1, v2, d0, d1, d2, p0, p1, p2, rfl, rfl, rfl, h0, h1, h2⟩ := trodAll_three hA
 obtain ⟨rfl, rfl⟩ := trodVars_none hV
 have hsz : (DataW.weightsEach Tryz.prog (29 :: 29 :: 42 :: _) (d0 :: d1 :: d2 :: _)).all (· ≤ reachBytes) = true := hsz0
 obtain ⟨hw0, hsz⟩ := Tr.weights_head hsz
 obtain ⟨hw1, hsz⟩ := Tr.weights_head hsz
 obtain ⟨hw2, hsz⟩ := Tr.weights_head hsz
 obtain ⟨t0, s0, A0, B0, C0, n0, m0, ne0, nk0, nc0, nd0, rfl, hr0, hl0⟩ := Cs.cauV_of_trod (hval 0 29 v0 rfl rfl) h0 hw0
 obtain ⟨t1, s1, A1, B1, C1, n1, m1, ne1, nk1, nc1, nd1, rfl, hr1, hl1⟩ := Cs.cauV_of_trod (hval 1 29 v1 rfl rfl) h1 hw1
 obtain ⟨a2, len2, cap2, rfl⟩ := okWide_slice Tryz.underlying42 (hval 2 42 v2 rfl rfl)
 obtain ⟨fuel2, hf2⟩ := h2
 obtain ⟨l2, hll2, hr2, _⟩ := Tr.strs_of_trod hf2
 refine (walk_any t0 s0 A0 B0 C0 n0 m0 ne0 nk0 nc0 nd0 t1 s1 A1 B1 C1 n1 m1 ne1 nk1 nc1 nd1 l2 len2 a2 cap2 W hr0 hl0 hr1 hl1 hll2 hr2).mono fun e W' ⟨he, hb⟩ => ?_
 subst he
 exact ⟨_, rfl, law_post hW' (by kernel_rfl) rfl rfl rfl hb⟩
theorem proved : Rows.CausalOwnSaid :=
 OpenClaim.holds_of_wide 12 Tryz.f12 rfl rfl rfl rfl rfl rfl rfl ⟨rfl, rfl, rfl, rfl, rfl⟩ rfl rfl rfl rfl rfl (by kernel_rfl) Tryz.func12 (by kernel_rfl)
  (of_decide_eq_true (by kernel_rfl)) (by unfold Func.isWrapper; first | (rw [if_pos (by decide +kernel)]; kernel_rfl) | (rw [if_neg (by decide +kernel)]; exact ⟨rfl, rfl⟩))
  (fun os started H enc _ => lifted os started H enc)
#print axioms proved
end lawCausalOwn
end Go.Proofs.YtcbclefemcmhpaaGreat
