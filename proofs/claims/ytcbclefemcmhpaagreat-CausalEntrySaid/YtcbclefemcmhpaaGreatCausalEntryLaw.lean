/- CausalEntry: a law of layer 9, walked, and proved. -/
import Derived.Test.YtcbclefemcmhpaaGreatG00
import Derived.Test.YtcbclefemcmhpaaGreatG120
import Derived.Test.YtcbclefemcmhpaaGreatCauKit
import Derived.Test.YtcbclefemcmhpaaGreatCauHasL
import Derived.Carry
open Go.ChangeShapes Go.WideShapes Go.ChangeAt Go.RowKit
namespace Go.Proofs.YtcbclefemcmhpaaGreat
namespace lawCausalEntry
open Tr Cx Cs Sp Rw Classical
theorem hasAt_join {a b x : K} (ha : RK a) (hb : RK b) (h : IsJ a b x) (l : List ByteArray) (q : Int × Int) : hasAt x.1 l q = (hasAt a.1 l q && hasAt b.1 l q || hasAt a.1 l q && !hasC b.2 q.1 q.2 || hasAt b.1 l q && !hasC a.2 q.1 q.2) := by
 unfold hasAt
 rw [h.ent ha hb]
 cases hx : entAt a.1 l q with
 | none =>
  cases hy : entAt b.1 l q with
  | none => rfl
  | some y =>
   have hk := entAt_key hy
   have e1 : y.a = q.1 := by rw [← hk]; rfl
   have e2 : y.n = q.2 := by rw [← hk]; rfl
   rw [stE_right, e1, e2]
   cases hasC a.2 q.1 q.2 <;> simp
 | some x =>
  have hk := entAt_key hx
  have e1 : x.a = q.1 := by rw [← hk]; rfl
  have e2 : x.n = q.2 := by rw [← hk]; rfl
  cases hy : entAt b.1 l q with
  | none =>
   rw [stE_left, e1, e2]
   cases hasC b.2 q.1 q.2 <;> simp
  | some y => rw [stE_both]; simp
theorem boxL (w : World) (Ae Ak Ac : Option Addr) (ae1 ak1 ae2 ak2 ac1 ac2 : Nat) (Be Bk Bc : Option Addr) (be1 bk1 be2 bk2 bc1 bc2 : Nat) (da dn : Int) : ∃ (W : World) (p q r : Nat), Hid (W = (((w.alloc (.cells #[.slice Ae ae1 ae2, .slice Ak ak1 ak2, .slice Ac ac1 ac2] 29)).alloc (.cells #[.slice Be be1 be2, .slice Bk bk1 bk2, .slice Bc bc1 bc2] 29)).alloc (.cells #[.int .i64 da, .int .i64 dn] 48))) ∧ Hid (p = w.heap.size) ∧ Hid (q = p + 1) ∧ Hid (r = q + 1) ∧ Hid (Kept [(⟨p, 0, none⟩, .slice Ae ae1 ae2), (⟨p, 1, none⟩, .slice Ak ak1 ak2), (⟨p, 2, none⟩, .slice Ac ac1 ac2), (⟨q, 0, none⟩, .slice Be be1 be2), (⟨q, 1, none⟩, .slice Bk bk1 bk2), (⟨q, 2, none⟩, .slice Bc bc1 bc2), (⟨r, 0, none⟩, .int .i64 da), (⟨r, 1, none⟩, .int .i64 dn)] w W) := by
 refine ⟨_, _, _, _, rfl, rfl, rfl, rfl, ?_⟩
 have h0 := Kept.nil_of (show Below w.heap.size w ((((w.alloc (.cells #[.slice Ae ae1 ae2, .slice Ak ak1 ak2, .slice Ac ac1 ac2] 29)).alloc (.cells #[.slice Be be1 be2, .slice Bk bk1 bk2, .slice Bc bc1 bc2] 29)).alloc (.cells #[.int .i64 da, .int .i64 dn] 48))) from ((((Below.refl _ _).alloc (Nat.le_refl _) _).alloc (by simp) _).alloc (by simp; omega) _))
 refine ((((((((h0).cons_of ?_).cons_of ?_).cons_of ?_).cons_of ?_).cons_of ?_).cons_of ?_).cons_of ?_).cons_of ?_ <;> go_simp
set_option maxRecDepth 100000 in
set_option maxHeartbeats 4000000 in
theorem walk_any (ta : T) (sa : List S3) (Ae Ak Ac : Option Addr) (ae1 ak1 ae2 ak2 ac1 ac2 : Nat) (tb : T) (sb : List S3) (Be Bk Bc : Option Addr) (be1 bk1 be2 bk2 bc1 bc2 : Nat) (l : List ByteArray) (nl : Nat) (Al : Option Addr) (cl : Nat) (da dn : Int)  (w : World) (hra : RdP w ⟨(ta, sa), ⟨Ae, ae1, ae2⟩, ⟨Ak, ak1, ak2⟩, ⟨Ac, ac1, ac2⟩⟩) (hla : LenT reachBytes ta) (hrb : RdP w ⟨(tb, sb), ⟨Be, be1, be2⟩, ⟨Bk, bk1, bk2⟩, ⟨Bc, bc1, bc2⟩⟩) (hlb : LenT reachBytes tb) (hnl : l.length = nl) (hsl : Rd w w.heap.size 1 Al nl cl (Tr.strs l))  :
  Calls Tryz.prog 11 #[.agg #[.slice Ae ae1 ae2, .slice Ak ak1 ak2, .slice Ac ac1 ac2], .agg #[.slice Be be1 be2, .slice Bk bk1 bk2, .slice Bc bc1 bc2], .slice Al nl cl, .agg #[.int .i64 da, .int .i64 dn]] w fun e w' => e = .returned (.bool true) ∧ Below w.heap.size w w' := by
 obtain ⟨W, p, q, r, HW, HP, HQ, HR, HKc⟩ := boxL w Ae Ak Ac ae1 ak1 ae2 ak2 ac1 ac2 Be Bk Bc be1 bk1 be2 bk2 bc1 bc2 da dn
 have Ra := Lib.hid (hra.later HKc.out.below)
 have La := Lib.hid hla
 have Rb := Lib.hid (hrb.later HKc.out.below)
 have Lb := Lib.hid hlb
 clear hra hla hrb hlb
 have Rl := Lib.hid (hsl.later HKc.out.below)
 have HNl := Lib.hid hnl
 clear hsl hnl
 have c0 := HKc.out.c0
 have c1 := HKc.out.c1
 have c2 := HKc.out.c2
 have c3 := HKc.out.c3
 have c4 := HKc.out.c4
 have c5 := HKc.out.c5
 have c6 := HKc.out.c6
 have c7 := HKc.out.c7
 go_enter Tryz.func11, Tryz.ntmps11
 go_wp2_with fail
 rw [← HW.out, ← HP.out, ← HQ.out, ← HR.out]
 refine (awake_any W).mono ?_
 rintro e v1 ⟨rfl, hb9⟩
 have Ra := Lib.hid (Ra.out.later hb9)
 have Rb := Lib.hid (Rb.out.later hb9)
 have Rl := Lib.hid (Rl.out.later hb9)
 have HKc := Lib.hid (HKc.out.later hb9)
 clear hb9
 clear c0 c1 c2 c3 c4 c5 c6 c7
 have c0 := HKc.out.c0
 have c1 := HKc.out.c1
 have c2 := HKc.out.c2
 have c3 := HKc.out.c3
 have c4 := HKc.out.c4
 have c5 := HKc.out.c5
 have c6 := HKc.out.c6
 have c7 := HKc.out.c7
 obtain ⟨g2, hg2⟩ : ∃ g, g = v1.heap.size := ⟨_, rfl⟩
 obtain ⟨v2, hv2⟩ : ∃ W, W = v1.alloc (.cells #[.slice Ae ae1 ae2, .slice Ak ak1 ak2, .slice Ac ac1 ac2, .slice Be be1 be2, .slice Bk bk1 bk2, .slice Bc bc1 bc2] 29) := ⟨_, rfl⟩
 have hb9 : Below v1.heap.size v1 v2 := by rw [hv2]; exact Dt.box_below _ _ _
 have HCP : Hid (CellsP v2 g2 [⟨(ta, sa), ⟨Ae, ae1, ae2⟩, ⟨Ak, ak1, ak2⟩, ⟨Ac, ac1, ac2⟩⟩, ⟨(tb, sb), ⟨Be, be1, be2⟩, ⟨Bk, bk1, bk2⟩, ⟨Bc, bc1, bc2⟩⟩]) := by
  intro k hk
  simp at hk
  rcases (by omega : k = 0 ∨ k = 1) with rfl | rfl <;> refine ⟨?_, ?_, ?_⟩ <;> (rw [hv2, hg2]; go_simp)
 have Hg2 := Lib.hid hg2
 have Hv2 := Lib.hid hv2
 clear hg2 hv2
 have Ra := Lib.hid (Ra.out.later hb9)
 have Rb := Lib.hid (Rb.out.later hb9)
 have Rl := Lib.hid (Rl.out.later hb9)
 have HKc := Lib.hid (HKc.out.later hb9)
 clear hb9
 have HPS : Hid (∀ p ∈ ([⟨(ta, sa), ⟨Ae, ae1, ae2⟩, ⟨Ak, ak1, ak2⟩, ⟨Ac, ac1, ac2⟩⟩, ⟨(tb, sb), ⟨Be, be1, be2⟩, ⟨Bk, bk1, bk2⟩, ⟨Bc, bc1, bc2⟩⟩] : List CP), RdP v2 p) := by
  intro p hp
  simp at hp
  rcases hp with rfl | rfl
  ·exact Ra.out
  ·exact Rb.out
 have HLT : Hid (∀ p ∈ ([⟨(ta, sa), ⟨Ae, ae1, ae2⟩, ⟨Ak, ak1, ak2⟩, ⟨Ac, ac1, ac2⟩⟩, ⟨(tb, sb), ⟨Be, be1, be2⟩, ⟨Bk, bk1, bk2⟩, ⟨Bc, bc1, bc2⟩⟩] : List CP), LenT reachBytes p.k.1) := by
  intro p hp
  simp at hp
  rcases hp with rfl | rfl
  ·exact La.out
  ·exact Lb.out
 have HSM := Lib.hid (small_any9 [⟨(ta, sa), ⟨Ae, ae1, ae2⟩, ⟨Ak, ak1, ak2⟩, ⟨Ac, ac1, ac2⟩⟩, ⟨(tb, sb), ⟨Be, be1, be2⟩, ⟨Bk, bk1, bk2⟩, ⟨Bc, bc1, bc2⟩⟩] 2 g2 2 v2 rfl (by omega) HCP.out HPS.out HLT.out)
 clear HCP HPS HLT
 go_wp2_with fail
 rw [← Hv2.out, ← Hg2.out]
 refine HSM.out.mono ?_
 rintro e v3 ⟨b, rfl, hsm, hb9⟩
 have Ra := Lib.hid (Ra.out.later hb9)
 have Rb := Lib.hid (Rb.out.later hb9)
 have Rl := Lib.hid (Rl.out.later hb9)
 have HKc := Lib.hid (HKc.out.later hb9)
 clear hb9
 clear c0 c1 c2 c3 c4 c5 c6 c7 HSM
 cases b with
 | false =>
  clear hsm
  go_wp2_with fail
  refine (awake_any _).mono ?_
  rintro e v9 ⟨rfl, hb9⟩
  have HKc := Lib.hid (HKc.out.later hb9)
  clear hb9
  go_wp2_with fail
  go_ret
  exact ⟨rfl, HKc.out.below⟩
 | true =>
  have hsa := hsm rfl ⟨(ta, sa), ⟨Ae, ae1, ae2⟩, ⟨Ak, ak1, ak2⟩, ⟨Ac, ac1, ac2⟩⟩ (by simp)
  have Na : Hid (nodes ta ≤ 40) := hsa.1
  have Qa : Hid (ac1 ≤ 40) := hsa.2
  have hsb := hsm rfl ⟨(tb, sb), ⟨Be, be1, be2⟩, ⟨Bk, bk1, bk2⟩, ⟨Bc, bc1, bc2⟩⟩ (by simp)
  have Nb : Hid (nodes tb ≤ 40) := hsb.1
  have Qb : Hid (bc1 ≤ 40) := hsb.2
  clear hsm hsa hsb
  have c0 := HKc.out.c0
  have c1 := HKc.out.c1
  have c2 := HKc.out.c2
  have c3 := HKc.out.c3
  have c4 := HKc.out.c4
  have c5 := HKc.out.c5
  have c6 := HKc.out.c6
  have c7 := HKc.out.c7
  obtain ⟨g4, hg4⟩ : ∃ g, g = v3.heap.size := ⟨_, rfl⟩
  obtain ⟨v4, hv4⟩ : ∃ W, W = v3.alloc (.cells #[.slice Ae ae1 ae2, .slice Ak ak1 ak2, .slice Ac ac1 ac2, .slice Be be1 be2, .slice Bk bk1 bk2, .slice Bc bc1 bc2] 29) := ⟨_, rfl⟩
  have hb9 : Below v3.heap.size v3 v4 := by rw [hv4]; exact Dt.box_below _ _ _
  have HCP : Hid (CellsP v4 g4 [⟨(ta, sa), ⟨Ae, ae1, ae2⟩, ⟨Ak, ak1, ak2⟩, ⟨Ac, ac1, ac2⟩⟩, ⟨(tb, sb), ⟨Be, be1, be2⟩, ⟨Bk, bk1, bk2⟩, ⟨Bc, bc1, bc2⟩⟩]) := by
   intro k hk
   simp at hk
   rcases (by omega : k = 0 ∨ k = 1) with rfl | rfl <;> refine ⟨?_, ?_, ?_⟩ <;> (rw [hv4, hg4]; go_simp)
  have Hg4 := Lib.hid hg4
  have Hv4 := Lib.hid hv4
  clear hg4 hv4
  have Ra := Lib.hid (Ra.out.later hb9)
  have Rb := Lib.hid (Rb.out.later hb9)
  have Rl := Lib.hid (Rl.out.later hb9)
  have HKc := Lib.hid (HKc.out.later hb9)
  clear hb9
  have HPS : Hid (∀ p ∈ ([⟨(ta, sa), ⟨Ae, ae1, ae2⟩, ⟨Ak, ak1, ak2⟩, ⟨Ac, ac1, ac2⟩⟩, ⟨(tb, sb), ⟨Be, be1, be2⟩, ⟨Bk, bk1, bk2⟩, ⟨Bc, bc1, bc2⟩⟩] : List CP), RdP v4 p) := by
   intro p hp
   simp at hp
   rcases hp with rfl | rfl
   ·exact Ra.out
   ·exact Rb.out
  have HLT : Hid (∀ p ∈ ([⟨(ta, sa), ⟨Ae, ae1, ae2⟩, ⟨Ak, ak1, ak2⟩, ⟨Ac, ac1, ac2⟩⟩, ⟨(tb, sb), ⟨Be, be1, be2⟩, ⟨Bk, bk1, bk2⟩, ⟨Bc, bc1, bc2⟩⟩] : List CP), nodes p.k.1 ≤ 200 ∧ p.c.n ≤ 1000) := by
   intro p hp
   simp at hp
   rcases hp with rfl | rfl
   ·exact ⟨by have := Na.out; show nodes ta ≤ 200; omega, by have := Qa.out; show ac1 ≤ 1000; omega⟩
   ·exact ⟨by have := Nb.out; show nodes tb ≤ 200; omega, by have := Qb.out; show bc1 ≤ 1000; omega⟩
  obtain ⟨z, hz⟩ : ∃ z, ([⟨(ta, sa), ⟨Ae, ae1, ae2⟩, ⟨Ak, ak1, ak2⟩, ⟨Ac, ac1, ac2⟩⟩, ⟨(tb, sb), ⟨Be, be1, be2⟩, ⟨Bk, bk1, bk2⟩, ⟨Bc, bc1, bc2⟩⟩] : List CP).all (fun p => rightKB p.k) = z := ⟨_, rfl⟩
  have HRT := Lib.hid (right_any9 [⟨(ta, sa), ⟨Ae, ae1, ae2⟩, ⟨Ak, ak1, ak2⟩, ⟨Ac, ac1, ac2⟩⟩, ⟨(tb, sb), ⟨Be, be1, be2⟩, ⟨Bk, bk1, bk2⟩, ⟨Bc, bc1, bc2⟩⟩] 2 g4 2 v4 rfl (by omega) HCP.out HPS.out HLT.out z hz)
  have HZ := Lib.hid hz
  clear HCP HPS HLT hz
  go_wp2_with fail
  rw [← Hv4.out, ← Hg4.out]
  refine HRT.out.mono ?_
  rintro e v5 ⟨rfl, hb9⟩
  have Ra := Lib.hid (Ra.out.later hb9)
  have Rb := Lib.hid (Rb.out.later hb9)
  have Rl := Lib.hid (Rl.out.later hb9)
  have HKc := Lib.hid (HKc.out.later hb9)
  clear hb9
  clear c0 c1 c2 c3 c4 c5 c6 c7 HRT
  cases z with
  | false =>
   clear HZ
   go_wp2_with fail
   refine (awake_any _).mono ?_
   rintro e v9 ⟨rfl, hb9⟩
   have HKc := Lib.hid (HKc.out.later hb9)
   clear hb9
   go_wp2_with fail
   go_ret
   exact ⟨rfl, HKc.out.below⟩
  | true =>
   have hz := HZ.out
   rw [List.all_eq_true] at hz
   have Ka : Hid (RK (ta, sa)) := rightKB_iff.1 (hz ⟨(ta, sa), ⟨Ae, ae1, ae2⟩, ⟨Ak, ak1, ak2⟩, ⟨Ac, ac1, ac2⟩⟩ (by simp))
   have Kb : Hid (RK (tb, sb)) := rightKB_iff.1 (hz ⟨(tb, sb), ⟨Be, be1, be2⟩, ⟨Bk, bk1, bk2⟩, ⟨Bc, bc1, bc2⟩⟩ (by simp))
   clear hz HZ
   have c0 := HKc.out.c0
   have c1 := HKc.out.c1
   have c2 := HKc.out.c2
   have c3 := HKc.out.c3
   have c4 := HKc.out.c4
   have c5 := HKc.out.c5
   have c6 := HKc.out.c6
   have c7 := HKc.out.c7
   by_cases hk20 : nl ≤ 20
   ·have f20 : decide ((20 : Int) < (nl : Int)) = false := decide_eq_false (by omega)
    obtain ⟨pz, hpz⟩ : ∃ z, hasAt ta l (da, dn) = z := ⟨_, rfl⟩
    obtain ⟨qz, hqz⟩ : ∃ z, hasAt tb l (da, dn) = z := ⟨_, rfl⟩
    obtain ⟨ca, hca⟩ : ∃ z, hasCB sa da dn = z := ⟨_, rfl⟩
    obtain ⟨cb, hcb⟩ : ∃ z, hasCB sb da dn = z := ⟨_, rfl⟩
    have HJW : Hid (∀ x, IsJ (ta, sa) (tb, sb) x → hasAt x.1 l (da, dn) = (pz && qz || pz && !cb || qz && !ca)) := fun x hj => by
     rw [hasAt_join Ka.out Kb.out hj, ← hpz, ← hqz, ← hca, ← hcb, hasCB_of Ka.out.ctx, hasCB_of Kb.out.ctx]
    have HPZ := Lib.hid hpz
    have HQZ := Lib.hid hqz
    have HCA := Lib.hid hca
    have HCB := Lib.hid hcb
    clear hpz hqz hca hcb
    go_wp2_with fail
    refine wp_region_held_drew (S := fun W => W.cell? ⟨p, 0, none⟩ = some (.slice Ae ae1 ae2) ∧ W.cell? ⟨p, 1, none⟩ = some (.slice Ak ak1 ak2) ∧ W.cell? ⟨p, 2, none⟩ = some (.slice Ac ac1 ac2) ∧ W.cell? ⟨q, 0, none⟩ = some (.slice Be be1 be2) ∧ W.cell? ⟨q, 1, none⟩ = some (.slice Bk bk1 bk2) ∧ W.cell? ⟨q, 2, none⟩ = some (.slice Bc bc1 bc2) ∧ W.cell? ⟨r, 0, none⟩ = some (.int .i64 da) ∧ W.cell? ⟨r, 1, none⟩ = some (.int .i64 dn)) (by kernel_rfl) (by have h9 := HKc.out.drew; exact ⟨h9.c0, h9.c1, h9.c2, h9.c3, h9.c4, h9.c5, h9.c6, h9.c7⟩) (fun hHeld => ?_)
    obtain ⟨w1, hw1⟩ : ∃ v, v = v5.drew := ⟨_, rfl⟩
    have HKc : Hid (Kept [(⟨p, 0, none⟩, .slice Ae ae1 ae2), (⟨p, 1, none⟩, .slice Ak ak1 ak2), (⟨p, 2, none⟩, .slice Ac ac1 ac2), (⟨q, 0, none⟩, .slice Be be1 be2), (⟨q, 1, none⟩, .slice Bk bk1 bk2), (⟨q, 2, none⟩, .slice Bc bc1 bc2), (⟨r, 0, none⟩, .int .i64 da), (⟨r, 1, none⟩, .int .i64 dn)] w w1) := by unfold Hid; rw [hw1]; exact HKc.out.drew
    have Ra : Hid (RdP w1 ⟨(ta, sa), ⟨Ae, ae1, ae2⟩, ⟨Ak, ak1, ak2⟩, ⟨Ac, ac1, ac2⟩⟩) := by unfold Hid; rw [hw1]; exact Ra.out.later ((Below.refl _ _).drew)
    have Rb : Hid (RdP w1 ⟨(tb, sb), ⟨Be, be1, be2⟩, ⟨Bk, bk1, bk2⟩, ⟨Bc, bc1, bc2⟩⟩) := by unfold Hid; rw [hw1]; exact Rb.out.later ((Below.refl _ _).drew)
    have Rl : Hid (Rd w1 w1.heap.size 1 Al nl cl (Tr.strs l)) := by unfold Hid; rw [hw1]; exact Rl.out.later ((Below.refl _ _).drew)
    rw [← hw1] at hHeld ⊢
    clear hw1
    refine Tk 0 34 ?_
    refine Tk 1 35 ?_
    refine Tk 2 36 ?_
    refine Tk 4 38 ?_
    refine Tk 5 39 ?_
    refine Tk 6 40 ?_
    refine wpAnyH_ready (rs := [3]) (by kernel_rfl) (by simp) ?_
    refine AllReadyH.cons (o := ⟨some 37, _, _, _, _, _⟩) rfl (fun K hK => ?_) AllReadyH.nil
    go_simp
    (go_at_call 28; refine (hasL_any ta Ae Ak Ac ae1 ak1 ae2 ak2 ac1 ac2 l Al nl cl da dn _ (by have := Na.out; omega) Ra.out.tree Ka.out.tree HNl.out (by omega) Rl.out).mono ?_)
    rw [show hasAt ta l (da, dn) = pz from HPZ.out]
    rintro e y1 ⟨rfl, hb9⟩
    have Ra := Lib.hid (Ra.out.later hb9)
    have Rb := Lib.hid (Rb.out.later hb9)
    have Rl := Lib.hid (Rl.out.later hb9)
    have HKc := Lib.hid (HKc.out.later hb9)
    clear hb9
    refine hK.out _ _ ?_ (fun hHeld2 => ?_)
    ·exact ⟨HKc.out.c0, HKc.out.c1, HKc.out.c2, HKc.out.c3, HKc.out.c4, HKc.out.c5, HKc.out.c6, HKc.out.c7⟩
    clear hK K hHeld
    have hHeld := hHeld2
    clear hHeld2
    try simp only [Act.put, List.setIfInBounds_toArray, List.set_cons_zero, List.set_cons_succ]
    refine wpAnyH_ready (rs := [7]) (by kernel_rfl) (by simp) ?_
    refine AllReadyH.cons (o := ⟨some 41, _, _, _, _, _⟩) rfl (fun K hK => ?_) AllReadyH.nil
    go_simp
    (go_at_call 28; refine (hasL_any tb Be Bk Bc be1 bk1 be2 bk2 bc1 bc2 l Al nl cl da dn _ (by have := Nb.out; omega) Rb.out.tree Kb.out.tree HNl.out (by omega) Rl.out).mono ?_)
    rw [show hasAt tb l (da, dn) = qz from HQZ.out]
    rintro e y2 ⟨rfl, hb9⟩
    have Ra := Lib.hid (Ra.out.later hb9)
    have Rb := Lib.hid (Rb.out.later hb9)
    have Rl := Lib.hid (Rl.out.later hb9)
    have HKc := Lib.hid (HKc.out.later hb9)
    clear hb9
    refine hK.out _ _ ?_ (fun hHeld2 => ?_)
    ·exact ⟨HKc.out.c0, HKc.out.c1, HKc.out.c2, HKc.out.c3, HKc.out.c4, HKc.out.c5, HKc.out.c6, HKc.out.c7⟩
    clear hK K hHeld
    have hHeld := hHeld2
    clear hHeld2
    try simp only [Act.put, List.setIfInBounds_toArray, List.set_cons_zero, List.set_cons_succ]
    refine Tk 8 9 ?_
    refine Tk 9 10 ?_
    refine wpAnyH_done (by kernel_rfl) ?_ _
    clear hHeld
    cases pz with
    | false =>
     cases qz with
     | false =>
      go_wp2_with fail
      refine wp_region_held_drew (S := fun W => W.cell? ⟨p, 0, none⟩ = some (.slice Ae ae1 ae2) ∧ W.cell? ⟨p, 1, none⟩ = some (.slice Ak ak1 ak2) ∧ W.cell? ⟨p, 2, none⟩ = some (.slice Ac ac1 ac2) ∧ W.cell? ⟨q, 0, none⟩ = some (.slice Be be1 be2) ∧ W.cell? ⟨q, 1, none⟩ = some (.slice Bk bk1 bk2) ∧ W.cell? ⟨q, 2, none⟩ = some (.slice Bc bc1 bc2) ∧ W.cell? ⟨r, 0, none⟩ = some (.int .i64 da) ∧ W.cell? ⟨r, 1, none⟩ = some (.int .i64 dn)) (by kernel_rfl) (by have h9 := HKc.out.drew; exact ⟨h9.c0, h9.c1, h9.c2, h9.c3, h9.c4, h9.c5, h9.c6, h9.c7⟩) (fun hHeld => ?_)
      obtain ⟨w1, hw1⟩ : ∃ v, v = y2.drew := ⟨_, rfl⟩
      have HKc : Hid (Kept [(⟨p, 0, none⟩, .slice Ae ae1 ae2), (⟨p, 1, none⟩, .slice Ak ak1 ak2), (⟨p, 2, none⟩, .slice Ac ac1 ac2), (⟨q, 0, none⟩, .slice Be be1 be2), (⟨q, 1, none⟩, .slice Bk bk1 bk2), (⟨q, 2, none⟩, .slice Bc bc1 bc2), (⟨r, 0, none⟩, .int .i64 da), (⟨r, 1, none⟩, .int .i64 dn)] w w1) := by unfold Hid; rw [hw1]; exact HKc.out.drew
      have Ra : Hid (RdP w1 ⟨(ta, sa), ⟨Ae, ae1, ae2⟩, ⟨Ak, ak1, ak2⟩, ⟨Ac, ac1, ac2⟩⟩) := by unfold Hid; rw [hw1]; exact Ra.out.later ((Below.refl _ _).drew)
      have Rb : Hid (RdP w1 ⟨(tb, sb), ⟨Be, be1, be2⟩, ⟨Bk, bk1, bk2⟩, ⟨Bc, bc1, bc2⟩⟩) := by unfold Hid; rw [hw1]; exact Rb.out.later ((Below.refl _ _).drew)
      have Rl : Hid (Rd w1 w1.heap.size 1 Al nl cl (Tr.strs l)) := by unfold Hid; rw [hw1]; exact Rl.out.later ((Below.refl _ _).drew)
      rw [← hw1] at hHeld ⊢
      clear hw1
      refine Tk 0 66 ?_
      refine Tk 1 67 ?_
      refine Tk 3 69 ?_
      refine Tk 4 70 ?_
      refine Tk 6 72 ?_
      refine wpAnyH_ready (rs := [2]) (by kernel_rfl) (by simp) ?_
      refine AllReadyH.cons (o := ⟨some 68, _, _, _, _, _⟩) rfl (fun K hK => ?_) AllReadyH.nil
      go_simp
      (go_at_call 22; refine (joinL_any ta tb sa sb Ae Ak Ac Be Bk Bc ae1 ak1 ae2 ak2 ac1 ac2 be1 bk1 be2 bk2 bc1 bc2 _ (by have := Na.out; omega) Ra.out.len (by have := Qa.out; omega) Ra.out.tree Ra.out.ctx (by have := Nb.out; omega) Rb.out.len (by have := Qb.out; omega) Rb.out.tree Rb.out.ctx).mono ?_)
      rintro e xx ⟨kx, hj, _, Xe, xe1, xe2, Xk, xk1, xk2, Xc, xc1, xc2, rfl, how, hb9⟩
      have Jx : Hid (IsJ (ta, sa) (tb, sb) kx) := (hj ⟨Ka.out, Kb.out⟩).1
      have Kx : Hid (RK kx) := Jx.out.right Ka.out Kb.out
      have Nx : Hid (nodes kx.1 ≤ 80) := by
       have h1 := joinT_nodes 5 sa sb ta tb
       have h2 := Na.out
       have h3 := Nb.out
       unfold Hid
       rw [Jx.out.tree]
       show nodes (joinT 5 sa sb ta tb) ≤ _
       omega
      have Qx : Hid (xc1 ≤ 80) := by
       have h1 := (hj ⟨Ka.out, Kb.out⟩).2
       have h2 := how.len
       have h3 := Qa.out
       have h4 := Qb.out
       unfold Hid
       omega
      have Rx := Lib.hid (RdP.of_own how)
      clear hj how
      have Ra := Lib.hid (Ra.out.later hb9)
      have Rb := Lib.hid (Rb.out.later hb9)
      have Rl := Lib.hid (Rl.out.later hb9)
      have HKc := Lib.hid (HKc.out.later hb9)
      clear hb9
      refine hK.out _ _ ?_ (fun hHeld2 => ?_)
      ·exact ⟨HKc.out.c0, HKc.out.c1, HKc.out.c2, HKc.out.c3, HKc.out.c4, HKc.out.c5, HKc.out.c6, HKc.out.c7⟩
      clear hK K hHeld
      have hHeld := hHeld2
      clear hHeld2
      try simp only [Act.put, List.setIfInBounds_toArray, List.set_cons_zero, List.set_cons_succ]
      refine wpAnyH_ready (rs := [5]) (by kernel_rfl) (by simp) ?_
      refine AllReadyH.cons (o := ⟨some 71, _, _, _, _, _⟩) rfl (fun K hK => ?_) AllReadyH.nil
      go_simp
      (go_at_call 28; refine (hasL_any kx.1 Xe Xk Xc xe1 xk1 xe2 xk2 xc1 xc2 l Al nl cl da dn _ (by have := Nx.out; omega) Rx.out.tree Kx.out.tree HNl.out (by omega) Rl.out).mono ?_)
      rw [show hasAt kx.1 l (da, dn) = false from by rw [HJW.out kx Jx.out]; first | rfl | simp]
      rintro e y6 ⟨rfl, hb9⟩
      have Ra := Lib.hid (Ra.out.later hb9)
      have Rb := Lib.hid (Rb.out.later hb9)
      have Rl := Lib.hid (Rl.out.later hb9)
      have Rx := Lib.hid (Rx.out.later hb9)
      have HKc := Lib.hid (HKc.out.later hb9)
      clear hb9
      refine hK.out _ _ ?_ (fun hHeld2 => ?_)
      ·exact ⟨HKc.out.c0, HKc.out.c1, HKc.out.c2, HKc.out.c3, HKc.out.c4, HKc.out.c5, HKc.out.c6, HKc.out.c7⟩
      clear hK K hHeld
      have hHeld := hHeld2
      clear hHeld2
      try simp only [Act.put, List.setIfInBounds_toArray, List.set_cons_zero, List.set_cons_succ]
      refine Tk 7 73 ?_
      refine Tk 8 8 ?_
      refine wpAnyH_done (by kernel_rfl) ?_ _
      clear hHeld
      go_wp2_with fail
      go_ret
      exact ⟨by first | rfl | simp, HKc.out.below⟩
     | true =>
      have c0 := HKc.out.c0
      have c1 := HKc.out.c1
      have c2 := HKc.out.c2
      have c3 := HKc.out.c3
      have c4 := HKc.out.c4
      have c5 := HKc.out.c5
      have c6 := HKc.out.c6
      have c7 := HKc.out.c7
      go_wp2_with fail
      refine (refhasC_any sa ac1 Ac ac2 da dn y2 Ra.out.len (by have := Qa.out; omega) Ra.out.ctx (rightCB_true Ka.out.ctx) ca HCA.out).mono ?_
      rintro e y3 ⟨rfl, hb9⟩
      have Ra := Lib.hid (Ra.out.later hb9)
      have Rb := Lib.hid (Rb.out.later hb9)
      have Rl := Lib.hid (Rl.out.later hb9)
      have HKc := Lib.hid (HKc.out.later hb9)
      clear hb9
      clear c0 c1 c2 c3 c4 c5 c6 c7
      have e1 : ((!ca) == (!ca)) = true := by cases ca <;> rfl
      go_wp2_with fail
      refine wp_region_held_drew (S := fun W => W.cell? ⟨p, 0, none⟩ = some (.slice Ae ae1 ae2) ∧ W.cell? ⟨p, 1, none⟩ = some (.slice Ak ak1 ak2) ∧ W.cell? ⟨p, 2, none⟩ = some (.slice Ac ac1 ac2) ∧ W.cell? ⟨q, 0, none⟩ = some (.slice Be be1 be2) ∧ W.cell? ⟨q, 1, none⟩ = some (.slice Bk bk1 bk2) ∧ W.cell? ⟨q, 2, none⟩ = some (.slice Bc bc1 bc2) ∧ W.cell? ⟨r, 0, none⟩ = some (.int .i64 da) ∧ W.cell? ⟨r, 1, none⟩ = some (.int .i64 dn)) (by kernel_rfl) (by have h9 := HKc.out.drew; exact ⟨h9.c0, h9.c1, h9.c2, h9.c3, h9.c4, h9.c5, h9.c6, h9.c7⟩) (fun hHeld => ?_)
      obtain ⟨w1, hw1⟩ : ∃ v, v = y3.drew := ⟨_, rfl⟩
      have HKc : Hid (Kept [(⟨p, 0, none⟩, .slice Ae ae1 ae2), (⟨p, 1, none⟩, .slice Ak ak1 ak2), (⟨p, 2, none⟩, .slice Ac ac1 ac2), (⟨q, 0, none⟩, .slice Be be1 be2), (⟨q, 1, none⟩, .slice Bk bk1 bk2), (⟨q, 2, none⟩, .slice Bc bc1 bc2), (⟨r, 0, none⟩, .int .i64 da), (⟨r, 1, none⟩, .int .i64 dn)] w w1) := by unfold Hid; rw [hw1]; exact HKc.out.drew
      have Ra : Hid (RdP w1 ⟨(ta, sa), ⟨Ae, ae1, ae2⟩, ⟨Ak, ak1, ak2⟩, ⟨Ac, ac1, ac2⟩⟩) := by unfold Hid; rw [hw1]; exact Ra.out.later ((Below.refl _ _).drew)
      have Rb : Hid (RdP w1 ⟨(tb, sb), ⟨Be, be1, be2⟩, ⟨Bk, bk1, bk2⟩, ⟨Bc, bc1, bc2⟩⟩) := by unfold Hid; rw [hw1]; exact Rb.out.later ((Below.refl _ _).drew)
      have Rl : Hid (Rd w1 w1.heap.size 1 Al nl cl (Tr.strs l)) := by unfold Hid; rw [hw1]; exact Rl.out.later ((Below.refl _ _).drew)
      rw [← hw1] at hHeld ⊢
      clear hw1
      refine Tk 0 66 ?_
      refine Tk 1 67 ?_
      refine Tk 3 69 ?_
      refine Tk 4 70 ?_
      refine Tk 6 72 ?_
      refine wpAnyH_ready (rs := [2]) (by kernel_rfl) (by simp) ?_
      refine AllReadyH.cons (o := ⟨some 68, _, _, _, _, _⟩) rfl (fun K hK => ?_) AllReadyH.nil
      go_simp
      (go_at_call 22; refine (joinL_any ta tb sa sb Ae Ak Ac Be Bk Bc ae1 ak1 ae2 ak2 ac1 ac2 be1 bk1 be2 bk2 bc1 bc2 _ (by have := Na.out; omega) Ra.out.len (by have := Qa.out; omega) Ra.out.tree Ra.out.ctx (by have := Nb.out; omega) Rb.out.len (by have := Qb.out; omega) Rb.out.tree Rb.out.ctx).mono ?_)
      rintro e xx ⟨kx, hj, _, Xe, xe1, xe2, Xk, xk1, xk2, Xc, xc1, xc2, rfl, how, hb9⟩
      have Jx : Hid (IsJ (ta, sa) (tb, sb) kx) := (hj ⟨Ka.out, Kb.out⟩).1
      have Kx : Hid (RK kx) := Jx.out.right Ka.out Kb.out
      have Nx : Hid (nodes kx.1 ≤ 80) := by
       have h1 := joinT_nodes 5 sa sb ta tb
       have h2 := Na.out
       have h3 := Nb.out
       unfold Hid
       rw [Jx.out.tree]
       show nodes (joinT 5 sa sb ta tb) ≤ _
       omega
      have Qx : Hid (xc1 ≤ 80) := by
       have h1 := (hj ⟨Ka.out, Kb.out⟩).2
       have h2 := how.len
       have h3 := Qa.out
       have h4 := Qb.out
       unfold Hid
       omega
      have Rx := Lib.hid (RdP.of_own how)
      clear hj how
      have Ra := Lib.hid (Ra.out.later hb9)
      have Rb := Lib.hid (Rb.out.later hb9)
      have Rl := Lib.hid (Rl.out.later hb9)
      have HKc := Lib.hid (HKc.out.later hb9)
      clear hb9
      refine hK.out _ _ ?_ (fun hHeld2 => ?_)
      ·exact ⟨HKc.out.c0, HKc.out.c1, HKc.out.c2, HKc.out.c3, HKc.out.c4, HKc.out.c5, HKc.out.c6, HKc.out.c7⟩
      clear hK K hHeld
      have hHeld := hHeld2
      clear hHeld2
      try simp only [Act.put, List.setIfInBounds_toArray, List.set_cons_zero, List.set_cons_succ]
      refine wpAnyH_ready (rs := [5]) (by kernel_rfl) (by simp) ?_
      refine AllReadyH.cons (o := ⟨some 71, _, _, _, _, _⟩) rfl (fun K hK => ?_) AllReadyH.nil
      go_simp
      (go_at_call 28; refine (hasL_any kx.1 Xe Xk Xc xe1 xk1 xe2 xk2 xc1 xc2 l Al nl cl da dn _ (by have := Nx.out; omega) Rx.out.tree Kx.out.tree HNl.out (by omega) Rl.out).mono ?_)
      rw [show hasAt kx.1 l (da, dn) = (!ca) from by rw [HJW.out kx Jx.out]; first | rfl | simp]
      rintro e y6 ⟨rfl, hb9⟩
      have Ra := Lib.hid (Ra.out.later hb9)
      have Rb := Lib.hid (Rb.out.later hb9)
      have Rl := Lib.hid (Rl.out.later hb9)
      have Rx := Lib.hid (Rx.out.later hb9)
      have HKc := Lib.hid (HKc.out.later hb9)
      clear hb9
      refine hK.out _ _ ?_ (fun hHeld2 => ?_)
      ·exact ⟨HKc.out.c0, HKc.out.c1, HKc.out.c2, HKc.out.c3, HKc.out.c4, HKc.out.c5, HKc.out.c6, HKc.out.c7⟩
      clear hK K hHeld
      have hHeld := hHeld2
      clear hHeld2
      try simp only [Act.put, List.setIfInBounds_toArray, List.set_cons_zero, List.set_cons_succ]
      refine Tk 7 73 ?_
      refine Tk 8 8 ?_
      refine wpAnyH_done (by kernel_rfl) ?_ _
      clear hHeld
      go_wp2_with fail
      go_ret
      exact ⟨by first | rfl | simp, HKc.out.below⟩
    | true =>
     cases qz with
     | false =>
      cases cb with
      | false =>
       have c0 := HKc.out.c0
       have c1 := HKc.out.c1
       have c2 := HKc.out.c2
       have c3 := HKc.out.c3
       have c4 := HKc.out.c4
       have c5 := HKc.out.c5
       have c6 := HKc.out.c6
       have c7 := HKc.out.c7
       go_wp2_with fail
       refine (refhasC_any sb bc1 Bc bc2 da dn y2 Rb.out.len (by have := Qb.out; omega) Rb.out.ctx (rightCB_true Kb.out.ctx) false HCB.out).mono ?_
       rintro e y3 ⟨rfl, hb9⟩
       have Ra := Lib.hid (Ra.out.later hb9)
       have Rb := Lib.hid (Rb.out.later hb9)
       have Rl := Lib.hid (Rl.out.later hb9)
       have HKc := Lib.hid (HKc.out.later hb9)
       clear hb9
       clear c0 c1 c2 c3 c4 c5 c6 c7
       go_wp2_with fail
       refine wp_region_held_drew (S := fun W => W.cell? ⟨p, 0, none⟩ = some (.slice Ae ae1 ae2) ∧ W.cell? ⟨p, 1, none⟩ = some (.slice Ak ak1 ak2) ∧ W.cell? ⟨p, 2, none⟩ = some (.slice Ac ac1 ac2) ∧ W.cell? ⟨q, 0, none⟩ = some (.slice Be be1 be2) ∧ W.cell? ⟨q, 1, none⟩ = some (.slice Bk bk1 bk2) ∧ W.cell? ⟨q, 2, none⟩ = some (.slice Bc bc1 bc2) ∧ W.cell? ⟨r, 0, none⟩ = some (.int .i64 da) ∧ W.cell? ⟨r, 1, none⟩ = some (.int .i64 dn)) (by kernel_rfl) (by have h9 := HKc.out.drew; exact ⟨h9.c0, h9.c1, h9.c2, h9.c3, h9.c4, h9.c5, h9.c6, h9.c7⟩) (fun hHeld => ?_)
       obtain ⟨w1, hw1⟩ : ∃ v, v = y3.drew := ⟨_, rfl⟩
       have HKc : Hid (Kept [(⟨p, 0, none⟩, .slice Ae ae1 ae2), (⟨p, 1, none⟩, .slice Ak ak1 ak2), (⟨p, 2, none⟩, .slice Ac ac1 ac2), (⟨q, 0, none⟩, .slice Be be1 be2), (⟨q, 1, none⟩, .slice Bk bk1 bk2), (⟨q, 2, none⟩, .slice Bc bc1 bc2), (⟨r, 0, none⟩, .int .i64 da), (⟨r, 1, none⟩, .int .i64 dn)] w w1) := by unfold Hid; rw [hw1]; exact HKc.out.drew
       have Ra : Hid (RdP w1 ⟨(ta, sa), ⟨Ae, ae1, ae2⟩, ⟨Ak, ak1, ak2⟩, ⟨Ac, ac1, ac2⟩⟩) := by unfold Hid; rw [hw1]; exact Ra.out.later ((Below.refl _ _).drew)
       have Rb : Hid (RdP w1 ⟨(tb, sb), ⟨Be, be1, be2⟩, ⟨Bk, bk1, bk2⟩, ⟨Bc, bc1, bc2⟩⟩) := by unfold Hid; rw [hw1]; exact Rb.out.later ((Below.refl _ _).drew)
       have Rl : Hid (Rd w1 w1.heap.size 1 Al nl cl (Tr.strs l)) := by unfold Hid; rw [hw1]; exact Rl.out.later ((Below.refl _ _).drew)
       rw [← hw1] at hHeld ⊢
       clear hw1
       refine Tk 0 66 ?_
       refine Tk 1 67 ?_
       refine Tk 3 69 ?_
       refine Tk 4 70 ?_
       refine Tk 6 72 ?_
       refine wpAnyH_ready (rs := [2]) (by kernel_rfl) (by simp) ?_
       refine AllReadyH.cons (o := ⟨some 68, _, _, _, _, _⟩) rfl (fun K hK => ?_) AllReadyH.nil
       go_simp
       (go_at_call 22; refine (joinL_any ta tb sa sb Ae Ak Ac Be Bk Bc ae1 ak1 ae2 ak2 ac1 ac2 be1 bk1 be2 bk2 bc1 bc2 _ (by have := Na.out; omega) Ra.out.len (by have := Qa.out; omega) Ra.out.tree Ra.out.ctx (by have := Nb.out; omega) Rb.out.len (by have := Qb.out; omega) Rb.out.tree Rb.out.ctx).mono ?_)
       rintro e xx ⟨kx, hj, _, Xe, xe1, xe2, Xk, xk1, xk2, Xc, xc1, xc2, rfl, how, hb9⟩
       have Jx : Hid (IsJ (ta, sa) (tb, sb) kx) := (hj ⟨Ka.out, Kb.out⟩).1
       have Kx : Hid (RK kx) := Jx.out.right Ka.out Kb.out
       have Nx : Hid (nodes kx.1 ≤ 80) := by
        have h1 := joinT_nodes 5 sa sb ta tb
        have h2 := Na.out
        have h3 := Nb.out
        unfold Hid
        rw [Jx.out.tree]
        show nodes (joinT 5 sa sb ta tb) ≤ _
        omega
       have Qx : Hid (xc1 ≤ 80) := by
        have h1 := (hj ⟨Ka.out, Kb.out⟩).2
        have h2 := how.len
        have h3 := Qa.out
        have h4 := Qb.out
        unfold Hid
        omega
       have Rx := Lib.hid (RdP.of_own how)
       clear hj how
       have Ra := Lib.hid (Ra.out.later hb9)
       have Rb := Lib.hid (Rb.out.later hb9)
       have Rl := Lib.hid (Rl.out.later hb9)
       have HKc := Lib.hid (HKc.out.later hb9)
       clear hb9
       refine hK.out _ _ ?_ (fun hHeld2 => ?_)
       ·exact ⟨HKc.out.c0, HKc.out.c1, HKc.out.c2, HKc.out.c3, HKc.out.c4, HKc.out.c5, HKc.out.c6, HKc.out.c7⟩
       clear hK K hHeld
       have hHeld := hHeld2
       clear hHeld2
       try simp only [Act.put, List.setIfInBounds_toArray, List.set_cons_zero, List.set_cons_succ]
       refine wpAnyH_ready (rs := [5]) (by kernel_rfl) (by simp) ?_
       refine AllReadyH.cons (o := ⟨some 71, _, _, _, _, _⟩) rfl (fun K hK => ?_) AllReadyH.nil
       go_simp
       (go_at_call 28; refine (hasL_any kx.1 Xe Xk Xc xe1 xk1 xe2 xk2 xc1 xc2 l Al nl cl da dn _ (by have := Nx.out; omega) Rx.out.tree Kx.out.tree HNl.out (by omega) Rl.out).mono ?_)
       rw [show hasAt kx.1 l (da, dn) = true from by rw [HJW.out kx Jx.out]; first | rfl | simp]
       rintro e y6 ⟨rfl, hb9⟩
       have Ra := Lib.hid (Ra.out.later hb9)
       have Rb := Lib.hid (Rb.out.later hb9)
       have Rl := Lib.hid (Rl.out.later hb9)
       have Rx := Lib.hid (Rx.out.later hb9)
       have HKc := Lib.hid (HKc.out.later hb9)
       clear hb9
       refine hK.out _ _ ?_ (fun hHeld2 => ?_)
       ·exact ⟨HKc.out.c0, HKc.out.c1, HKc.out.c2, HKc.out.c3, HKc.out.c4, HKc.out.c5, HKc.out.c6, HKc.out.c7⟩
       clear hK K hHeld
       have hHeld := hHeld2
       clear hHeld2
       try simp only [Act.put, List.setIfInBounds_toArray, List.set_cons_zero, List.set_cons_succ]
       refine Tk 7 73 ?_
       refine Tk 8 8 ?_
       refine wpAnyH_done (by kernel_rfl) ?_ _
       clear hHeld
       go_wp2_with fail
       go_ret
       exact ⟨by first | rfl | simp, HKc.out.below⟩
      | true =>
       have c0 := HKc.out.c0
       have c1 := HKc.out.c1
       have c2 := HKc.out.c2
       have c3 := HKc.out.c3
       have c4 := HKc.out.c4
       have c5 := HKc.out.c5
       have c6 := HKc.out.c6
       have c7 := HKc.out.c7
       go_wp2_with fail
       refine (refhasC_any sb bc1 Bc bc2 da dn y2 Rb.out.len (by have := Qb.out; omega) Rb.out.ctx (rightCB_true Kb.out.ctx) true HCB.out).mono ?_
       rintro e y3 ⟨rfl, hb9⟩
       have Ra := Lib.hid (Ra.out.later hb9)
       have Rb := Lib.hid (Rb.out.later hb9)
       have Rl := Lib.hid (Rl.out.later hb9)
       have HKc := Lib.hid (HKc.out.later hb9)
       clear hb9
       clear c0 c1 c2 c3 c4 c5 c6 c7
       go_wp2_with fail
       refine wp_region_held_drew (S := fun W => W.cell? ⟨p, 0, none⟩ = some (.slice Ae ae1 ae2) ∧ W.cell? ⟨p, 1, none⟩ = some (.slice Ak ak1 ak2) ∧ W.cell? ⟨p, 2, none⟩ = some (.slice Ac ac1 ac2) ∧ W.cell? ⟨q, 0, none⟩ = some (.slice Be be1 be2) ∧ W.cell? ⟨q, 1, none⟩ = some (.slice Bk bk1 bk2) ∧ W.cell? ⟨q, 2, none⟩ = some (.slice Bc bc1 bc2) ∧ W.cell? ⟨r, 0, none⟩ = some (.int .i64 da) ∧ W.cell? ⟨r, 1, none⟩ = some (.int .i64 dn)) (by kernel_rfl) (by have h9 := HKc.out.drew; exact ⟨h9.c0, h9.c1, h9.c2, h9.c3, h9.c4, h9.c5, h9.c6, h9.c7⟩) (fun hHeld => ?_)
       obtain ⟨w1, hw1⟩ : ∃ v, v = y3.drew := ⟨_, rfl⟩
       have HKc : Hid (Kept [(⟨p, 0, none⟩, .slice Ae ae1 ae2), (⟨p, 1, none⟩, .slice Ak ak1 ak2), (⟨p, 2, none⟩, .slice Ac ac1 ac2), (⟨q, 0, none⟩, .slice Be be1 be2), (⟨q, 1, none⟩, .slice Bk bk1 bk2), (⟨q, 2, none⟩, .slice Bc bc1 bc2), (⟨r, 0, none⟩, .int .i64 da), (⟨r, 1, none⟩, .int .i64 dn)] w w1) := by unfold Hid; rw [hw1]; exact HKc.out.drew
       have Ra : Hid (RdP w1 ⟨(ta, sa), ⟨Ae, ae1, ae2⟩, ⟨Ak, ak1, ak2⟩, ⟨Ac, ac1, ac2⟩⟩) := by unfold Hid; rw [hw1]; exact Ra.out.later ((Below.refl _ _).drew)
       have Rb : Hid (RdP w1 ⟨(tb, sb), ⟨Be, be1, be2⟩, ⟨Bk, bk1, bk2⟩, ⟨Bc, bc1, bc2⟩⟩) := by unfold Hid; rw [hw1]; exact Rb.out.later ((Below.refl _ _).drew)
       have Rl : Hid (Rd w1 w1.heap.size 1 Al nl cl (Tr.strs l)) := by unfold Hid; rw [hw1]; exact Rl.out.later ((Below.refl _ _).drew)
       rw [← hw1] at hHeld ⊢
       clear hw1
       refine Tk 0 66 ?_
       refine Tk 1 67 ?_
       refine Tk 3 69 ?_
       refine Tk 4 70 ?_
       refine Tk 6 72 ?_
       refine wpAnyH_ready (rs := [2]) (by kernel_rfl) (by simp) ?_
       refine AllReadyH.cons (o := ⟨some 68, _, _, _, _, _⟩) rfl (fun K hK => ?_) AllReadyH.nil
       go_simp
       (go_at_call 22; refine (joinL_any ta tb sa sb Ae Ak Ac Be Bk Bc ae1 ak1 ae2 ak2 ac1 ac2 be1 bk1 be2 bk2 bc1 bc2 _ (by have := Na.out; omega) Ra.out.len (by have := Qa.out; omega) Ra.out.tree Ra.out.ctx (by have := Nb.out; omega) Rb.out.len (by have := Qb.out; omega) Rb.out.tree Rb.out.ctx).mono ?_)
       rintro e xx ⟨kx, hj, _, Xe, xe1, xe2, Xk, xk1, xk2, Xc, xc1, xc2, rfl, how, hb9⟩
       have Jx : Hid (IsJ (ta, sa) (tb, sb) kx) := (hj ⟨Ka.out, Kb.out⟩).1
       have Kx : Hid (RK kx) := Jx.out.right Ka.out Kb.out
       have Nx : Hid (nodes kx.1 ≤ 80) := by
        have h1 := joinT_nodes 5 sa sb ta tb
        have h2 := Na.out
        have h3 := Nb.out
        unfold Hid
        rw [Jx.out.tree]
        show nodes (joinT 5 sa sb ta tb) ≤ _
        omega
       have Qx : Hid (xc1 ≤ 80) := by
        have h1 := (hj ⟨Ka.out, Kb.out⟩).2
        have h2 := how.len
        have h3 := Qa.out
        have h4 := Qb.out
        unfold Hid
        omega
       have Rx := Lib.hid (RdP.of_own how)
       clear hj how
       have Ra := Lib.hid (Ra.out.later hb9)
       have Rb := Lib.hid (Rb.out.later hb9)
       have Rl := Lib.hid (Rl.out.later hb9)
       have HKc := Lib.hid (HKc.out.later hb9)
       clear hb9
       refine hK.out _ _ ?_ (fun hHeld2 => ?_)
       ·exact ⟨HKc.out.c0, HKc.out.c1, HKc.out.c2, HKc.out.c3, HKc.out.c4, HKc.out.c5, HKc.out.c6, HKc.out.c7⟩
       clear hK K hHeld
       have hHeld := hHeld2
       clear hHeld2
       try simp only [Act.put, List.setIfInBounds_toArray, List.set_cons_zero, List.set_cons_succ]
       refine wpAnyH_ready (rs := [5]) (by kernel_rfl) (by simp) ?_
       refine AllReadyH.cons (o := ⟨some 71, _, _, _, _, _⟩) rfl (fun K hK => ?_) AllReadyH.nil
       go_simp
       (go_at_call 28; refine (hasL_any kx.1 Xe Xk Xc xe1 xk1 xe2 xk2 xc1 xc2 l Al nl cl da dn _ (by have := Nx.out; omega) Rx.out.tree Kx.out.tree HNl.out (by omega) Rl.out).mono ?_)
       rw [show hasAt kx.1 l (da, dn) = false from by rw [HJW.out kx Jx.out]; first | rfl | simp]
       rintro e y6 ⟨rfl, hb9⟩
       have Ra := Lib.hid (Ra.out.later hb9)
       have Rb := Lib.hid (Rb.out.later hb9)
       have Rl := Lib.hid (Rl.out.later hb9)
       have Rx := Lib.hid (Rx.out.later hb9)
       have HKc := Lib.hid (HKc.out.later hb9)
       clear hb9
       refine hK.out _ _ ?_ (fun hHeld2 => ?_)
       ·exact ⟨HKc.out.c0, HKc.out.c1, HKc.out.c2, HKc.out.c3, HKc.out.c4, HKc.out.c5, HKc.out.c6, HKc.out.c7⟩
       clear hK K hHeld
       have hHeld := hHeld2
       clear hHeld2
       try simp only [Act.put, List.setIfInBounds_toArray, List.set_cons_zero, List.set_cons_succ]
       refine Tk 7 73 ?_
       refine Tk 8 8 ?_
       refine wpAnyH_done (by kernel_rfl) ?_ _
       clear hHeld
       go_wp2_with fail
       go_ret
       exact ⟨by first | rfl | simp, HKc.out.below⟩
     | true =>
      go_wp2_with fail
      refine wp_region_held_drew (S := fun W => W.cell? ⟨p, 0, none⟩ = some (.slice Ae ae1 ae2) ∧ W.cell? ⟨p, 1, none⟩ = some (.slice Ak ak1 ak2) ∧ W.cell? ⟨p, 2, none⟩ = some (.slice Ac ac1 ac2) ∧ W.cell? ⟨q, 0, none⟩ = some (.slice Be be1 be2) ∧ W.cell? ⟨q, 1, none⟩ = some (.slice Bk bk1 bk2) ∧ W.cell? ⟨q, 2, none⟩ = some (.slice Bc bc1 bc2) ∧ W.cell? ⟨r, 0, none⟩ = some (.int .i64 da) ∧ W.cell? ⟨r, 1, none⟩ = some (.int .i64 dn)) (by kernel_rfl) (by have h9 := HKc.out.drew; exact ⟨h9.c0, h9.c1, h9.c2, h9.c3, h9.c4, h9.c5, h9.c6, h9.c7⟩) (fun hHeld => ?_)
      obtain ⟨w1, hw1⟩ : ∃ v, v = y2.drew := ⟨_, rfl⟩
      have HKc : Hid (Kept [(⟨p, 0, none⟩, .slice Ae ae1 ae2), (⟨p, 1, none⟩, .slice Ak ak1 ak2), (⟨p, 2, none⟩, .slice Ac ac1 ac2), (⟨q, 0, none⟩, .slice Be be1 be2), (⟨q, 1, none⟩, .slice Bk bk1 bk2), (⟨q, 2, none⟩, .slice Bc bc1 bc2), (⟨r, 0, none⟩, .int .i64 da), (⟨r, 1, none⟩, .int .i64 dn)] w w1) := by unfold Hid; rw [hw1]; exact HKc.out.drew
      have Ra : Hid (RdP w1 ⟨(ta, sa), ⟨Ae, ae1, ae2⟩, ⟨Ak, ak1, ak2⟩, ⟨Ac, ac1, ac2⟩⟩) := by unfold Hid; rw [hw1]; exact Ra.out.later ((Below.refl _ _).drew)
      have Rb : Hid (RdP w1 ⟨(tb, sb), ⟨Be, be1, be2⟩, ⟨Bk, bk1, bk2⟩, ⟨Bc, bc1, bc2⟩⟩) := by unfold Hid; rw [hw1]; exact Rb.out.later ((Below.refl _ _).drew)
      have Rl : Hid (Rd w1 w1.heap.size 1 Al nl cl (Tr.strs l)) := by unfold Hid; rw [hw1]; exact Rl.out.later ((Below.refl _ _).drew)
      rw [← hw1] at hHeld ⊢
      clear hw1
      refine Tk 0 66 ?_
      refine Tk 1 67 ?_
      refine Tk 3 69 ?_
      refine Tk 4 70 ?_
      refine Tk 6 72 ?_
      refine wpAnyH_ready (rs := [2]) (by kernel_rfl) (by simp) ?_
      refine AllReadyH.cons (o := ⟨some 68, _, _, _, _, _⟩) rfl (fun K hK => ?_) AllReadyH.nil
      go_simp
      (go_at_call 22; refine (joinL_any ta tb sa sb Ae Ak Ac Be Bk Bc ae1 ak1 ae2 ak2 ac1 ac2 be1 bk1 be2 bk2 bc1 bc2 _ (by have := Na.out; omega) Ra.out.len (by have := Qa.out; omega) Ra.out.tree Ra.out.ctx (by have := Nb.out; omega) Rb.out.len (by have := Qb.out; omega) Rb.out.tree Rb.out.ctx).mono ?_)
      rintro e xx ⟨kx, hj, _, Xe, xe1, xe2, Xk, xk1, xk2, Xc, xc1, xc2, rfl, how, hb9⟩
      have Jx : Hid (IsJ (ta, sa) (tb, sb) kx) := (hj ⟨Ka.out, Kb.out⟩).1
      have Kx : Hid (RK kx) := Jx.out.right Ka.out Kb.out
      have Nx : Hid (nodes kx.1 ≤ 80) := by
       have h1 := joinT_nodes 5 sa sb ta tb
       have h2 := Na.out
       have h3 := Nb.out
       unfold Hid
       rw [Jx.out.tree]
       show nodes (joinT 5 sa sb ta tb) ≤ _
       omega
      have Qx : Hid (xc1 ≤ 80) := by
       have h1 := (hj ⟨Ka.out, Kb.out⟩).2
       have h2 := how.len
       have h3 := Qa.out
       have h4 := Qb.out
       unfold Hid
       omega
      have Rx := Lib.hid (RdP.of_own how)
      clear hj how
      have Ra := Lib.hid (Ra.out.later hb9)
      have Rb := Lib.hid (Rb.out.later hb9)
      have Rl := Lib.hid (Rl.out.later hb9)
      have HKc := Lib.hid (HKc.out.later hb9)
      clear hb9
      refine hK.out _ _ ?_ (fun hHeld2 => ?_)
      ·exact ⟨HKc.out.c0, HKc.out.c1, HKc.out.c2, HKc.out.c3, HKc.out.c4, HKc.out.c5, HKc.out.c6, HKc.out.c7⟩
      clear hK K hHeld
      have hHeld := hHeld2
      clear hHeld2
      try simp only [Act.put, List.setIfInBounds_toArray, List.set_cons_zero, List.set_cons_succ]
      refine wpAnyH_ready (rs := [5]) (by kernel_rfl) (by simp) ?_
      refine AllReadyH.cons (o := ⟨some 71, _, _, _, _, _⟩) rfl (fun K hK => ?_) AllReadyH.nil
      go_simp
      (go_at_call 28; refine (hasL_any kx.1 Xe Xk Xc xe1 xk1 xe2 xk2 xc1 xc2 l Al nl cl da dn _ (by have := Nx.out; omega) Rx.out.tree Kx.out.tree HNl.out (by omega) Rl.out).mono ?_)
      rw [show hasAt kx.1 l (da, dn) = true from by rw [HJW.out kx Jx.out]; first | rfl | simp]
      rintro e y6 ⟨rfl, hb9⟩
      have Ra := Lib.hid (Ra.out.later hb9)
      have Rb := Lib.hid (Rb.out.later hb9)
      have Rl := Lib.hid (Rl.out.later hb9)
      have Rx := Lib.hid (Rx.out.later hb9)
      have HKc := Lib.hid (HKc.out.later hb9)
      clear hb9
      refine hK.out _ _ ?_ (fun hHeld2 => ?_)
      ·exact ⟨HKc.out.c0, HKc.out.c1, HKc.out.c2, HKc.out.c3, HKc.out.c4, HKc.out.c5, HKc.out.c6, HKc.out.c7⟩
      clear hK K hHeld
      have hHeld := hHeld2
      clear hHeld2
      try simp only [Act.put, List.setIfInBounds_toArray, List.set_cons_zero, List.set_cons_succ]
      refine Tk 7 73 ?_
      refine Tk 8 8 ?_
      refine wpAnyH_done (by kernel_rfl) ?_ _
      clear hHeld
      go_wp2_with fail
      go_ret
      exact ⟨by first | rfl | simp, HKc.out.below⟩
   ·have f20 : decide ((20 : Int) < (nl : Int)) = true := decide_eq_true (by omega)
    go_wp2_with fail
    refine (awake_any _).mono ?_
    rintro e v9 ⟨rfl, hb9⟩
    have HKc := Lib.hid (HKc.out.later hb9)
    clear hb9
    go_wp2_with fail
    go_ret
    exact ⟨rfl, HKc.out.below⟩
set_option maxRecDepth 100000 in
theorem lifted (os : Os) (started : os.Started) (H : Type) (enc : TypeId × Value → H) :
  ReturnsInHanded {} Tryz.checked os 11 .any (Rows.causalEntrySpec.pre6 enc Tryz.prog Tryz.f11 Rows.causalEntryRow.domain false) (Rows.causalEntrySpec.post enc Tryz.prog Tryz.f11 false true false false) := by
 refine returnsInHanded_of_change_sized (C := Tryz.checked) own started (by kernel_rfl) Tryz.func11
  (ChangeSpec.witness6 (enc := enc) (C := Tryz.checked) false ⟨#[], #[.agg #[.slice none 0 0, .slice none 0 0, .slice none 0 0], .agg #[.slice none 0 0, .slice none 0 0, .slice none 0 0], .slice none 0 0, .agg #[.int .i64 0, .int .i64 0]], []⟩ 8 (by kernel_rfl) (by kernel_rfl) (by kernel_rfl) (by kernel_rfl)) ?_
 intro W base args ds gs before hval0 hW _ hsz0 _
 have hval : ∀ (j : Nat) t v, Tryz.f11.params[j]? = some t → args[j]? = some v → Value.okWide Tryz.prog W .any base t v := hval0
 have hW' := hW
 obtain ⟨p, q, hA0, hV, rfl, hfz, hnd⟩ := hW
 have hA : DataW.TrodAll enc Tryz.prog W 0 (fun _ => true) true Tryz.f11.params.toList args.toList ds p := hA0
 rw [Tryz.params11] at hA hval
 obtain ⟨v0, v1, v2, v3, d0, d1, d2, d3, p0, p1, p2, p3, rfl, rfl, rfl, h0, h1, h2, h3⟩ := trodAll_four hA
 obtain ⟨rfl, rfl⟩ := trodVars_none hV
 have hsz : (DataW.weightsEach Tryz.prog (29 :: 29 :: 42 :: 48 :: _) (d0 :: d1 :: d2 :: d3 :: _)).all (· ≤ reachBytes) = true := hsz0
 obtain ⟨hw0, hsz⟩ := Tr.weights_head hsz
 obtain ⟨hw1, hsz⟩ := Tr.weights_head hsz
 obtain ⟨hw2, hsz⟩ := Tr.weights_head hsz
 obtain ⟨hw3, hsz⟩ := Tr.weights_head hsz
 obtain ⟨t0, s0, A0, B0, C0, n0, m0, ne0, nk0, nc0, nd0, rfl, hr0, hl0⟩ := Cs.cauV_of_trod (hval 0 29 v0 rfl rfl) h0 hw0
 obtain ⟨t1, s1, A1, B1, C1, n1, m1, ne1, nk1, nc1, nd1, rfl, hr1, hl1⟩ := Cs.cauV_of_trod (hval 1 29 v1 rfl rfl) h1 hw1
 obtain ⟨a2, len2, cap2, rfl⟩ := okWide_slice Tryz.underlying42 (hval 2 42 v2 rfl rfl)
 obtain ⟨fuel2, hf2⟩ := h2
 obtain ⟨l2, hll2, hr2, _⟩ := Tr.strs_of_trod hf2
 obtain ⟨da3, dn3, rfl, _, _⟩ := Dt.dot_of_trod (hval 3 48 v3 rfl rfl) h3
 refine (walk_any t0 s0 A0 B0 C0 n0 m0 ne0 nk0 nc0 nd0 t1 s1 A1 B1 C1 n1 m1 ne1 nk1 nc1 nd1 l2 len2 a2 cap2 da3 dn3 W hr0 hl0 hr1 hl1 hll2 hr2).mono fun e W' ⟨he, hb⟩ => ?_
 subst he
 exact ⟨_, rfl, law_post hW' (by kernel_rfl) rfl rfl rfl hb⟩
theorem proved : Rows.CausalEntrySaid :=
 OpenClaim.holds_of_wide 11 Tryz.f11 rfl rfl rfl rfl rfl rfl rfl ⟨rfl, rfl, rfl, rfl, rfl⟩ rfl rfl rfl rfl rfl (by kernel_rfl) Tryz.func11 (by kernel_rfl)
  (of_decide_eq_true (by kernel_rfl)) (by unfold Func.isWrapper; first | (rw [if_pos (by decide +kernel)]; kernel_rfl) | (rw [if_neg (by decide +kernel)]; exact ⟨rfl, rfl⟩))
  (fun os started H enc _ => lifted os started H enc)
#print axioms proved
end lawCausalEntry
end Go.Proofs.YtcbclefemcmhpaaGreat
