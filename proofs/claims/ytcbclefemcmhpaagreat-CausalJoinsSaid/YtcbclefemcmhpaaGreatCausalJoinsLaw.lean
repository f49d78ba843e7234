/- CausalJoins: a law of layer 9, walked, and proved. -/
import Derived.Test.YtcbclefemcmhpaaGreatG00
import Derived.Test.YtcbclefemcmhpaaGreatG120
import Derived.Test.YtcbclefemcmhpaaGreatCauKit
import Derived.Test.YtcbclefemcmhpaaGreatCauRefJoin
open Go.ChangeShapes Go.WideShapes Go.ChangeAt Go.RowKit
namespace Go.Proofs.YtcbclefemcmhpaaGreat
namespace lawCausalJoins
open Tr Cx Cs Sp Rw Classical
theorem boxL (w : World) (Ae Ak Ac : Option Addr) (ae1 ak1 ae2 ak2 ac1 ac2 : Nat) (Be Bk Bc : Option Addr) (be1 bk1 be2 bk2 bc1 bc2 : Nat) : ∃ (W : World) (p q : Nat), Hid (W = ((w.alloc (.cells #[.slice Ae ae1 ae2, .slice Ak ak1 ak2, .slice Ac ac1 ac2] 29)).alloc (.cells #[.slice Be be1 be2, .slice Bk bk1 bk2, .slice Bc bc1 bc2] 29))) ∧ Hid (p = w.heap.size) ∧ Hid (q = p + 1) ∧ Hid (Kept [(⟨p, 0, none⟩, .slice Ae ae1 ae2), (⟨p, 1, none⟩, .slice Ak ak1 ak2), (⟨p, 2, none⟩, .slice Ac ac1 ac2), (⟨q, 0, none⟩, .slice Be be1 be2), (⟨q, 1, none⟩, .slice Bk bk1 bk2), (⟨q, 2, none⟩, .slice Bc bc1 bc2)] w W) := by
 refine ⟨_, _, _, rfl, rfl, rfl, ?_⟩
 have h0 := Kept.nil_of (show Below w.heap.size w (((w.alloc (.cells #[.slice Ae ae1 ae2, .slice Ak ak1 ak2, .slice Ac ac1 ac2] 29)).alloc (.cells #[.slice Be be1 be2, .slice Bk bk1 bk2, .slice Bc bc1 bc2] 29))) from ((Below.refl _ _).alloc (Nat.le_refl _) _).alloc (by simp) _)
 refine ((((((h0).cons_of ?_).cons_of ?_).cons_of ?_).cons_of ?_).cons_of ?_).cons_of ?_ <;> go_simp
set_option maxRecDepth 100000 in
set_option maxHeartbeats 4000000 in
theorem walk_any (ta : T) (sa : List S3) (Ae Ak Ac : Option Addr) (ae1 ak1 ae2 ak2 ac1 ac2 : Nat) (tb : T) (sb : List S3) (Be Bk Bc : Option Addr) (be1 bk1 be2 bk2 bc1 bc2 : Nat)  (w : World) (hra : RdP w ⟨(ta, sa), ⟨Ae, ae1, ae2⟩, ⟨Ak, ak1, ak2⟩, ⟨Ac, ac1, ac2⟩⟩) (hla : LenT reachBytes ta) (hrb : RdP w ⟨(tb, sb), ⟨Be, be1, be2⟩, ⟨Bk, bk1, bk2⟩, ⟨Bc, bc1, bc2⟩⟩) (hlb : LenT reachBytes tb)  :
  Calls Tryz.prog 4 #[.agg #[.slice Ae ae1 ae2, .slice Ak ak1 ak2, .slice Ac ac1 ac2], .agg #[.slice Be be1 be2, .slice Bk bk1 bk2, .slice Bc bc1 bc2]] w fun e w' => e = .returned (.bool true) ∧ Below w.heap.size w w' := by
 obtain ⟨W, p, q, HW, HP, HQ, HKc⟩ := boxL w Ae Ak Ac ae1 ak1 ae2 ak2 ac1 ac2 Be Bk Bc be1 bk1 be2 bk2 bc1 bc2
 have Ra := Lib.hid (hra.later HKc.out.below)
 have La := Lib.hid hla
 have Rb := Lib.hid (hrb.later HKc.out.below)
 have Lb := Lib.hid hlb
 clear hra hla hrb hlb
 have c0 := HKc.out.c0
 have c1 := HKc.out.c1
 have c2 := HKc.out.c2
 have c3 := HKc.out.c3
 have c4 := HKc.out.c4
 have c5 := HKc.out.c5
 go_enter Tryz.func4, Tryz.ntmps4
 go_wp2_with fail
 rw [← HW.out, ← HP.out, ← HQ.out]
 refine (awake_any W).mono ?_
 rintro e v1 ⟨rfl, hb9⟩
 have Ra := Lib.hid (Ra.out.later hb9)
 have Rb := Lib.hid (Rb.out.later hb9)
 have HKc := Lib.hid (HKc.out.later hb9)
 clear hb9
 clear c0 c1 c2 c3 c4 c5
 have c0 := HKc.out.c0
 have c1 := HKc.out.c1
 have c2 := HKc.out.c2
 have c3 := HKc.out.c3
 have c4 := HKc.out.c4
 have c5 := HKc.out.c5
 obtain ⟨g2, hg2⟩ : ∃ g, g = v1.heap.size := ⟨_, rfl⟩
 obtain ⟨v2, hv2⟩ : ∃ W, W = v1.alloc (.cells #[.slice Ae ae1 ae2, .slice Ak ak1 ak2, .slice Ac ac1 ac2, .slice Be be1 be2, .slice Bk bk1 bk2, .slice Bc bc1 bc2] 29) := ⟨_, rfl⟩
 have hb9 : Below v1.heap.size v1 v2 := by rw [hv2]; exact Dt.box_below _ _ _
 have HCP : Hid (CellsP v2 g2 [⟨(ta, sa), ⟨Ae, ae1, ae2⟩, ⟨Ak, ak1, ak2⟩, ⟨Ac, ac1, ac2⟩⟩, ⟨(tb, sb), ⟨Be, be1, be2⟩, ⟨Bk, bk1, bk2⟩, ⟨Bc, bc1, bc2⟩⟩]) := by
  intro k hk
  simp at hk
  rcases (by omega : k = 0 ∨ k = 1) with rfl | rfl <;> refine ⟨?_, ?_, ?_⟩ <;> (rw [hv2, hg2]; go_simp)
 have Hg2 := Lib.hid hg2
 have Hv2 := Lib.hid hv2
 clear hg2 hv2
 have Ra := Lib.hid (Ra.out.later hb9)
 have Rb := Lib.hid (Rb.out.later hb9)
 have HKc := Lib.hid (HKc.out.later hb9)
 clear hb9
 have HPS : Hid (∀ p ∈ ([⟨(ta, sa), ⟨Ae, ae1, ae2⟩, ⟨Ak, ak1, ak2⟩, ⟨Ac, ac1, ac2⟩⟩, ⟨(tb, sb), ⟨Be, be1, be2⟩, ⟨Bk, bk1, bk2⟩, ⟨Bc, bc1, bc2⟩⟩] : List CP), RdP v2 p) := by
  intro p hp
  simp at hp
  rcases hp with rfl | rfl
  ·exact Ra.out
  ·exact Rb.out
 have HLT : Hid (∀ p ∈ ([⟨(ta, sa), ⟨Ae, ae1, ae2⟩, ⟨Ak, ak1, ak2⟩, ⟨Ac, ac1, ac2⟩⟩, ⟨(tb, sb), ⟨Be, be1, be2⟩, ⟨Bk, bk1, bk2⟩, ⟨Bc, bc1, bc2⟩⟩] : List CP), LenT reachBytes p.k.1) := by
  intro p hp
  simp at hp
  rcases hp with rfl | rfl
  ·exact La.out
  ·exact Lb.out
 have HSM := Lib.hid (small_any9 [⟨(ta, sa), ⟨Ae, ae1, ae2⟩, ⟨Ak, ak1, ak2⟩, ⟨Ac, ac1, ac2⟩⟩, ⟨(tb, sb), ⟨Be, be1, be2⟩, ⟨Bk, bk1, bk2⟩, ⟨Bc, bc1, bc2⟩⟩] 2 g2 2 v2 rfl (by omega) HCP.out HPS.out HLT.out)
 clear HCP HPS HLT
 go_wp2_with fail
 rw [← Hv2.out, ← Hg2.out]
 refine HSM.out.mono ?_
 rintro e v3 ⟨b, rfl, hsm, hb9⟩
 have Ra := Lib.hid (Ra.out.later hb9)
 have Rb := Lib.hid (Rb.out.later hb9)
 have HKc := Lib.hid (HKc.out.later hb9)
 clear hb9
 clear c0 c1 c2 c3 c4 c5 HSM
 cases b with
 | false =>
  clear hsm
  go_wp2_with fail
  refine (awake_any _).mono ?_
  rintro e v9 ⟨rfl, hb9⟩
  have HKc := Lib.hid (HKc.out.later hb9)
  clear hb9
  go_wp2_with fail
  go_ret
  exact ⟨rfl, HKc.out.below⟩
 | true =>
  have hsa := hsm rfl ⟨(ta, sa), ⟨Ae, ae1, ae2⟩, ⟨Ak, ak1, ak2⟩, ⟨Ac, ac1, ac2⟩⟩ (by simp)
  have Na : Hid (nodes ta ≤ 40) := hsa.1
  have Qa : Hid (ac1 ≤ 40) := hsa.2
  have hsb := hsm rfl ⟨(tb, sb), ⟨Be, be1, be2⟩, ⟨Bk, bk1, bk2⟩, ⟨Bc, bc1, bc2⟩⟩ (by simp)
  have Nb : Hid (nodes tb ≤ 40) := hsb.1
  have Qb : Hid (bc1 ≤ 40) := hsb.2
  clear hsm hsa hsb
  have c0 := HKc.out.c0
  have c1 := HKc.out.c1
  have c2 := HKc.out.c2
  have c3 := HKc.out.c3
  have c4 := HKc.out.c4
  have c5 := HKc.out.c5
  have HJE := Lib.hid (joinE_any ta tb sa sb Ae Ak Ac Be Bk Bc ae1 ak1 ae2 ak2 ac1 ac2 be1 bk1 be2 bk2 bc1 bc2 v3 (by have := Na.out; omega) Ra.out.len (by have := Qa.out; omega) Ra.out.tree Ra.out.ctx (by have := Nb.out; omega) Rb.out.len (by have := Qb.out; omega) Rb.out.tree Rb.out.ctx)
  go_wp2_with fail
  refine HJE.out.mono ?_
  rintro e v4 ⟨kx, er, hxy, Xe, xe1, xe2, Xk, xk1, xk2, Xc, xc1, xc2, rfl, how, hb9⟩
  have Rx := Lib.hid (RdP.of_own how)
  have HXY := Lib.hid hxy
  clear HJE how hxy
  have Ra := Lib.hid (Ra.out.later hb9)
  have Rb := Lib.hid (Rb.out.later hb9)
  have HKc := Lib.hid (HKc.out.later hb9)
  clear hb9
  obtain ⟨gx, hgx⟩ : ∃ g, g = v4.heap.size := ⟨_, rfl⟩
  obtain ⟨v5, hv5⟩ : ∃ W, W = v4.alloc (.cells #[.slice Xe xe1 xe2, .slice Xk xk1 xk2, .slice Xc xc1 xc2] 29) := ⟨_, rfl⟩
  have hb9 : Below v4.heap.size v4 v5 := by rw [hv5]; exact Dt.box_below _ _ _
  have e0 : v5.cell? ⟨gx, 0, none⟩ = some (.slice Xe xe1 xe2) := by rw [hv5, hgx]; go_simp
  have e1 : v5.cell? ⟨gx, 1, none⟩ = some (.slice Xk xk1 xk2) := by rw [hv5, hgx]; go_simp
  have e2 : v5.cell? ⟨gx, 2, none⟩ = some (.slice Xc xc1 xc2) := by rw [hv5, hgx]; go_simp
  have Hgx := Lib.hid hgx
  have Hv5 := Lib.hid hv5
  have Ra := Lib.hid (Ra.out.later hb9)
  have Rb := Lib.hid (Rb.out.later hb9)
  have Rx := Lib.hid (Rx.out.later hb9)
  have HKc := Lib.hid (HKc.out.later hb9)
  clear hb9
  have HKc : Hid (Kept [(⟨gx, 0, none⟩, .slice Xe xe1 xe2), (⟨gx, 1, none⟩, .slice Xk xk1 xk2), (⟨gx, 2, none⟩, .slice Xc xc1 xc2), (⟨p, 0, none⟩, .slice Ae ae1 ae2), (⟨p, 1, none⟩, .slice Ak ak1 ak2), (⟨p, 2, none⟩, .slice Ac ac1 ac2), (⟨q, 0, none⟩, .slice Be be1 be2), (⟨q, 1, none⟩, .slice Bk bk1 bk2), (⟨q, 2, none⟩, .slice Bc bc1 bc2)] w v5) := (((HKc.out.cons_of e2).cons_of e1).cons_of e0)
  clear hgx hv5 e0 e1 e2
  clear c0 c1 c2 c3 c4 c5
  have c0 := HKc.out.c0
  have c1 := HKc.out.c1
  have c2 := HKc.out.c2
  have c3 := HKc.out.c3
  have c4 := HKc.out.c4
  have c5 := HKc.out.c5
  have c6 := HKc.out.c6
  have c7 := HKc.out.c7
  have c8 := HKc.out.tail.tail.tail.tail.tail.tail.tail.tail.c0
  rw [Hv5.out] at c0 c1 c2 c3 c4 c5 c6 c7 c8
  rw [Hgx.out] at c0 c1 c2
  obtain ⟨g6, hg6⟩ : ∃ g, g = v5.heap.size := ⟨_, rfl⟩
  obtain ⟨v6, hv6⟩ : ∃ W, W = v5.alloc (.cells #[.slice Ae ae1 ae2, .slice Ak ak1 ak2, .slice Ac ac1 ac2, .slice Be be1 be2, .slice Bk bk1 bk2, .slice Bc bc1 bc2] 29) := ⟨_, rfl⟩
  have hb9 : Below v5.heap.size v5 v6 := by rw [hv6]; exact Dt.box_below _ _ _
  have HCP : Hid (CellsP v6 g6 [⟨(ta, sa), ⟨Ae, ae1, ae2⟩, ⟨Ak, ak1, ak2⟩, ⟨Ac, ac1, ac2⟩⟩, ⟨(tb, sb), ⟨Be, be1, be2⟩, ⟨Bk, bk1, bk2⟩, ⟨Bc, bc1, bc2⟩⟩]) := by
   intro k hk
   simp at hk
   rcases (by omega : k = 0 ∨ k = 1) with rfl | rfl <;> refine ⟨?_, ?_, ?_⟩ <;> (rw [hv6, hg6]; go_simp)
  have Hg6 := Lib.hid hg6
  have Hv6 := Lib.hid hv6
  clear hg6 hv6
  have Ra := Lib.hid (Ra.out.later hb9)
  have Rb := Lib.hid (Rb.out.later hb9)
  have Rx := Lib.hid (Rx.out.later hb9)
  have HKc := Lib.hid (HKc.out.later hb9)
  clear hb9
  have HPS : Hid (∀ p ∈ ([⟨(ta, sa), ⟨Ae, ae1, ae2⟩, ⟨Ak, ak1, ak2⟩, ⟨Ac, ac1, ac2⟩⟩, ⟨(tb, sb), ⟨Be, be1, be2⟩, ⟨Bk, bk1, bk2⟩, ⟨Bc, bc1, bc2⟩⟩] : List CP), RdP v6 p) := by
   intro p hp
   simp at hp
   rcases hp with rfl | rfl
   ·exact Ra.out
   ·exact Rb.out
  have HLT : Hid (∀ p ∈ ([⟨(ta, sa), ⟨Ae, ae1, ae2⟩, ⟨Ak, ak1, ak2⟩, ⟨Ac, ac1, ac2⟩⟩, ⟨(tb, sb), ⟨Be, be1, be2⟩, ⟨Bk, bk1, bk2⟩, ⟨Bc, bc1, bc2⟩⟩] : List CP), nodes p.k.1 ≤ 200 ∧ p.c.n ≤ 1000) := by
   intro p hp
   simp at hp
   rcases hp with rfl | rfl
   ·exact ⟨by have := Na.out; show nodes ta ≤ 200; omega, by have := Qa.out; show ac1 ≤ 1000; omega⟩
   ·exact ⟨by have := Nb.out; show nodes tb ≤ 200; omega, by have := Qb.out; show bc1 ≤ 1000; omega⟩
  obtain ⟨z, hz⟩ : ∃ z, ([⟨(ta, sa), ⟨Ae, ae1, ae2⟩, ⟨Ak, ak1, ak2⟩, ⟨Ac, ac1, ac2⟩⟩, ⟨(tb, sb), ⟨Be, be1, be2⟩, ⟨Bk, bk1, bk2⟩, ⟨Bc, bc1, bc2⟩⟩] : List CP).all (fun p => rightKB p.k) = z := ⟨_, rfl⟩
  have HRT := Lib.hid (right_any9 [⟨(ta, sa), ⟨Ae, ae1, ae2⟩, ⟨Ak, ak1, ak2⟩, ⟨Ac, ac1, ac2⟩⟩, ⟨(tb, sb), ⟨Be, be1, be2⟩, ⟨Bk, bk1, bk2⟩, ⟨Bc, bc1, bc2⟩⟩] 2 g6 2 v6 rfl (by omega) HCP.out HPS.out HLT.out z hz)
  have hzz : z = true ↔ RK (ta, sa) ∧ RK (tb, sb) := by
   rw [← hz, ← rightKB_iff, ← rightKB_iff]
   simp
  have HZZ := Lib.hid hzz
  clear HCP HPS HLT hz hzz
  go_wp2_with fail
  rw [← Hv5.out, ← Hv6.out, show v4.heap.size + 1 = g6 from by rw [Hg6.out, Hv5.out]; simp, ← Hgx.out]
  refine HRT.out.mono ?_
  rintro e v7 ⟨rfl, hb9⟩
  have Ra := Lib.hid (Ra.out.later hb9)
  have Rb := Lib.hid (Rb.out.later hb9)
  have Rx := Lib.hid (Rx.out.later hb9)
  have HKc := Lib.hid (HKc.out.later hb9)
  clear hb9
  clear c0 c1 c2 c3 c4 c5 c6 c7 c8 HRT
  have c0 := HKc.out.c0
  have c1 := HKc.out.c1
  have c2 := HKc.out.c2
  have c3 := HKc.out.c3
  have c4 := HKc.out.c4
  have c5 := HKc.out.c5
  have c6 := HKc.out.c6
  have c7 := HKc.out.c7
  have c8 := HKc.out.tail.tail.tail.tail.tail.tail.tail.tail.c0
  cases z with
  | false =>
   obtain ⟨rfl, rfl⟩ := HXY.out.2 fun h => by have h2 := HZZ.out.2 h; cases h2
   have HSM := Lib.hid (refsameK_any noneK.1 none_ noneK.2 [] Xe Xk Xc none none none xe1 xk1 xe2 xk2 xc1 xc2 0 0 0 0 0 0 v7 true (decide_eq_true rfl) (by show nodes none_ ≤ _; rw [nodes_none]; omega) Rx.out.len (by have h := Rx.out.len; have h2 : noneK.2.length = 0 := rfl; dsimp only at h; omega) Rx.out.tree Rx.out.ctx rfl (RdP.zero _).tree (RdP.zero _).ctx)
   go_wp2_with fail
   refine HSM.out.mono ?_
   rintro e v8 ⟨rfl, hb9⟩
   have HKc := Lib.hid (HKc.out.later hb9)
   clear hb9 c0 c1 c2 c3 c4 c5 c6 c7 c8
   go_wp2_with fail
   go_ret
   exact ⟨by first | rfl | simp, HKc.out.below⟩
  | true =>
   obtain ⟨hka, hkb⟩ := HZZ.out.1 rfl
   have Ka := Lib.hid hka
   have Kb := Lib.hid hkb
   clear hka hkb
   obtain ⟨rfl, hj, hln⟩ := HXY.out.1 ⟨Ka.out, Kb.out⟩
   have Jx := Lib.hid hj
   have HLN := Lib.hid hln
   clear hj hln
   have Nx : Hid (nodes kx.1 ≤ 80) := by
    have h1 := joinT_nodes 5 sa sb ta tb
    have h2 := Na.out
    have h3 := Nb.out
    unfold Hid
    rw [Jx.out.tree]
    show nodes (joinT 5 sa sb ta tb) ≤ _
    omega
   go_wp2_with fail
   refine wp_region_held_drew (S := fun W => W.cell? ⟨gx, 0, none⟩ = some (.slice Xe xe1 xe2) ∧ W.cell? ⟨gx, 1, none⟩ = some (.slice Xk xk1 xk2) ∧ W.cell? ⟨gx, 2, none⟩ = some (.slice Xc xc1 xc2) ∧ W.cell? ⟨p, 0, none⟩ = some (.slice Ae ae1 ae2) ∧ W.cell? ⟨p, 1, none⟩ = some (.slice Ak ak1 ak2) ∧ W.cell? ⟨p, 2, none⟩ = some (.slice Ac ac1 ac2) ∧ W.cell? ⟨q, 0, none⟩ = some (.slice Be be1 be2) ∧ W.cell? ⟨q, 1, none⟩ = some (.slice Bk bk1 bk2) ∧ W.cell? ⟨q, 2, none⟩ = some (.slice Bc bc1 bc2)) (by kernel_rfl) (by have h9 := HKc.out.drew; exact ⟨h9.c0, h9.c1, h9.c2, h9.c3, h9.c4, h9.c5, h9.c6, h9.c7, h9.tail.tail.tail.tail.tail.tail.tail.tail.c0⟩) (fun hHeld => ?_)
   obtain ⟨w1, hw1⟩ : ∃ v, v = v7.drew := ⟨_, rfl⟩
   have HKc : Hid (Kept [(⟨gx, 0, none⟩, .slice Xe xe1 xe2), (⟨gx, 1, none⟩, .slice Xk xk1 xk2), (⟨gx, 2, none⟩, .slice Xc xc1 xc2), (⟨p, 0, none⟩, .slice Ae ae1 ae2), (⟨p, 1, none⟩, .slice Ak ak1 ak2), (⟨p, 2, none⟩, .slice Ac ac1 ac2), (⟨q, 0, none⟩, .slice Be be1 be2), (⟨q, 1, none⟩, .slice Bk bk1 bk2), (⟨q, 2, none⟩, .slice Bc bc1 bc2)] w w1) := by unfold Hid; rw [hw1]; exact HKc.out.drew
   have Ra : Hid (RdP w1 ⟨(ta, sa), ⟨Ae, ae1, ae2⟩, ⟨Ak, ak1, ak2⟩, ⟨Ac, ac1, ac2⟩⟩) := by unfold Hid; rw [hw1]; exact Ra.out.later ((Below.refl _ _).drew)
   have Rb : Hid (RdP w1 ⟨(tb, sb), ⟨Be, be1, be2⟩, ⟨Bk, bk1, bk2⟩, ⟨Bc, bc1, bc2⟩⟩) := by unfold Hid; rw [hw1]; exact Rb.out.later ((Below.refl _ _).drew)
   have Rx : Hid (RdP w1 ⟨kx, ⟨Xe, xe1, xe2⟩, ⟨Xk, xk1, xk2⟩, ⟨Xc, xc1, xc2⟩⟩) := by unfold Hid; rw [hw1]; exact Rx.out.later ((Below.refl _ _).drew)
   rw [← hw1] at hHeld ⊢
   clear hw1
   refine Tk 0 35 ?_
   refine Tk 1 36 ?_
   refine Tk 2 37 ?_
   refine Tk 3 38 ?_
   refine Tk 4 39 ?_
   refine Tk 5 40 ?_
   refine wpAnyH_ready (rs := [6]) (by kernel_rfl) (by simp) ?_
   refine AllReadyH.cons (o := ⟨some 41, _, _, _, _, _⟩) rfl (fun K hK => ?_) AllReadyH.nil
   go_simp
   (go_at_call 20; refine (refjoinK_any ta tb sa sb kx.2 Ae Ak Ac Be Bk Bc ae1 ak1 ae2 ak2 ac1 ac2 be1 bk1 be2 bk2 bc1 bc2 _ _ (by have := Na.out; omega) Ra.out.len (by have := Qa.out; omega) Ra.out.tree Ra.out.ctx (by have := Nb.out; omega) Rb.out.len (by have := Qb.out; omega) Rb.out.tree Rb.out.ctx Ka.out Kb.out Jx.out.ctx rfl (by have h1 := HLN.out; have h2 := Qa.out; have h3 := Qb.out; omega)).mono ?_)
   rintro e xy ⟨Ye, ye1, ye2, Yk, yk1, yk2, Yc, yc1, yc2, rfl, hrd, hb9⟩
   have Ry : Hid (RdP xy ⟨kx, ⟨Ye, ye1, ye2⟩, ⟨Yk, yk1, yk2⟩, ⟨Yc, yc1, yc2⟩⟩) := by have h := hrd; rw [← Jx.out.tree] at h; exact h
   clear hrd
   have Ra := Lib.hid (Ra.out.later hb9)
   have Rb := Lib.hid (Rb.out.later hb9)
   have Rx := Lib.hid (Rx.out.later hb9)
   have HKc := Lib.hid (HKc.out.later hb9)
   clear hb9
   refine hK.out _ _ ?_ (fun hHeld2 => ?_)
   ·exact ⟨HKc.out.c0, HKc.out.c1, HKc.out.c2, HKc.out.c3, HKc.out.c4, HKc.out.c5, HKc.out.c6, HKc.out.c7, HKc.out.tail.tail.tail.tail.tail.tail.tail.tail.c0⟩
   clear hK K hHeld
   have hHeld := hHeld2
   clear hHeld2
   try simp only [Act.put, List.setIfInBounds_toArray, List.set_cons_zero, List.set_cons_succ]
   refine wpAnyH_ready (rs := [7]) (by kernel_rfl) (by simp) ?_
   refine AllReadyH.cons (o := ⟨some 42, _, _, _, _, _⟩) rfl (fun K hK => ?_) AllReadyH.nil
   go_simp
   (go_at_call 19; refine (refsameK_any kx.1 kx.1 kx.2 kx.2 Xe Xk Xc Ye Yk Yc xe1 xk1 xe2 xk2 xc1 xc2 ye1 yk1 ye2 yk2 yc1 yc2 _ true (decide_eq_true rfl) (by have := Nx.out; omega) Rx.out.len (by have h := Rx.out.len; have h2 := HLN.out; have h3 := Qa.out; have h4 := Qb.out; dsimp only at h; omega) Rx.out.tree Rx.out.ctx Ry.out.len Ry.out.tree Ry.out.ctx).mono ?_)
   rintro e y2 ⟨rfl, hb9⟩
   have Ra := Lib.hid (Ra.out.later hb9)
   have Rb := Lib.hid (Rb.out.later hb9)
   have Rx := Lib.hid (Rx.out.later hb9)
   have Ry := Lib.hid (Ry.out.later hb9)
   have HKc := Lib.hid (HKc.out.later hb9)
   clear hb9
   refine hK.out _ _ ?_ (fun hHeld2 => ?_)
   ·exact ⟨HKc.out.c0, HKc.out.c1, HKc.out.c2, HKc.out.c3, HKc.out.c4, HKc.out.c5, HKc.out.c6, HKc.out.c7, HKc.out.tail.tail.tail.tail.tail.tail.tail.tail.c0⟩
   clear hK K hHeld
   have hHeld := hHeld2
   clear hHeld2
   try simp only [Act.put, List.setIfInBounds_toArray, List.set_cons_zero, List.set_cons_succ]
   refine Tk 8 43 ?_
   refine Tk 9 4 ?_
   refine wpAnyH_done (by kernel_rfl) ?_ _
   clear hHeld
   go_wp2_with fail
   go_ret
   exact ⟨by first | rfl | simp, HKc.out.below⟩
set_option maxRecDepth 100000 in
theorem lifted (os : Os) (started : os.Started) (H : Type) (enc : TypeId × Value → H) :
  ReturnsInHanded {} Tryz.checked os 4 .any (Rows.causalJoinsSpec.pre6 enc Tryz.prog Tryz.f4 Rows.causalJoinsRow.domain false) (Rows.causalJoinsSpec.post enc Tryz.prog Tryz.f4 false true false false) := by
 refine returnsInHanded_of_change_sized (C := Tryz.checked) own started (by kernel_rfl) Tryz.func4
  (ChangeSpec.witness6 (enc := enc) (C := Tryz.checked) false ⟨#[], #[.agg #[.slice none 0 0, .slice none 0 0, .slice none 0 0], .agg #[.slice none 0 0, .slice none 0 0, .slice none 0 0]], []⟩ 8 (by kernel_rfl) (by kernel_rfl) (by kernel_rfl) (by kernel_rfl)) ?_
 intro W base args ds gs before hval0 hW _ hsz0 _
 have hval : ∀ (j : Nat) t v, Tryz.f4.params[j]? = some t → args[j]? = some v → Value.okWide Tryz.prog W .any base t v := hval0
 have hW' := hW
 obtain ⟨p, q, hA0, hV, rfl, hfz, hnd⟩ := hW
 have hA : DataW.TrodAll enc Tryz.prog W 0 (fun _ => true) true Tryz.f4.params.toList args.toList ds p := hA0
 rw [Tryz.params4] at hA hval
 obtain ⟨v0, v1, d0, d1, p0, p1, rfl, rfl, rfl, h0, h1⟩ := trodAll_two hA
 obtain ⟨rfl, rfl⟩ := trodVars_none hV
 have hsz : (DataW.weightsEach Tryz.prog (29 :: 29 :: _) (d0 :: d1 :: _)).all (· ≤ reachBytes) = true := hsz0
 obtain ⟨hw0, hsz⟩ := Tr.weights_head hsz
 obtain ⟨hw1, hsz⟩ := Tr.weights_head hsz
 obtain ⟨t0, s0, A0, B0, C0, n0, m0, ne0, nk0, nc0, nd0, rfl, hr0, hl0⟩ := Cs.cauV_of_trod (hval 0 29 v0 rfl rfl) h0 hw0
 obtain ⟨t1, s1, A1, B1, C1, n1, m1, ne1, nk1, nc1, nd1, rfl, hr1, hl1⟩ := Cs.cauV_of_trod (hval 1 29 v1 rfl rfl) h1 hw1
 refine (walk_any t0 s0 A0 B0 C0 n0 m0 ne0 nk0 nc0 nd0 t1 s1 A1 B1 C1 n1 m1 ne1 nk1 nc1 nd1 W hr0 hl0 hr1 hl1).mono fun e W' ⟨he, hb⟩ => ?_
 subst he
 exact ⟨_, rfl, law_post hW' (by kernel_rfl) rfl rfl rfl hb⟩
theorem proved : Rows.CausalJoinsSaid :=
 OpenClaim.holds_of_wide 4 Tryz.f4 rfl rfl rfl rfl rfl rfl rfl ⟨rfl, rfl, rfl, rfl, rfl⟩ rfl rfl rfl rfl rfl (by kernel_rfl) Tryz.func4 (by kernel_rfl)
  (of_decide_eq_true (by kernel_rfl)) (by unfold Func.isWrapper; first | (rw [if_pos (by decide +kernel)]; kernel_rfl) | (rw [if_neg (by decide +kernel)]; exact ⟨rfl, rfl⟩))
  (fun os started H enc _ => lifted os started H enc)
#print axioms proved
end lawCausalJoins
end Go.Proofs.YtcbclefemcmhpaaGreat
