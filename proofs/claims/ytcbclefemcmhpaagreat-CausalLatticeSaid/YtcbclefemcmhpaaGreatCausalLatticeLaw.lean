/- CausalLattice: a law of layer 9, walked, and proved. -/
import Derived.Test.YtcbclefemcmhpaaGreatG00
import Derived.Test.YtcbclefemcmhpaaGreatG40
open Go.ChangeShapes Go.WideShapes Go.ChangeAt Go.RowKit
namespace Go.Proofs.YtcbclefemcmhpaaGreat
namespace lawCausalLattice
open Tr Cx Cs Sp Rw Classical
theorem boxL (w : World) (Ae Ak Ac : Option Addr) (ae1 ak1 ae2 ak2 ac1 ac2 : Nat) (Be Bk Bc : Option Addr) (be1 bk1 be2 bk2 bc1 bc2 : Nat) (Ce Ck Cc : Option Addr) (ce1 ck1 ce2 ck2 cc1 cc2 : Nat) : ∃ (W : World) (p q r : Nat), Hid (W = (((w.alloc (.cells #[.slice Ae ae1 ae2, .slice Ak ak1 ak2, .slice Ac ac1 ac2] 29)).alloc (.cells #[.slice Be be1 be2, .slice Bk bk1 bk2, .slice Bc bc1 bc2] 29)).alloc (.cells #[.slice Ce ce1 ce2, .slice Ck ck1 ck2, .slice Cc cc1 cc2] 29))) ∧ Hid (p = w.heap.size) ∧ Hid (q = p + 1) ∧ Hid (r = q + 1) ∧ Hid (Kept [(⟨p, 0, none⟩, .slice Ae ae1 ae2), (⟨p, 1, none⟩, .slice Ak ak1 ak2), (⟨p, 2, none⟩, .slice Ac ac1 ac2), (⟨q, 0, none⟩, .slice Be be1 be2), (⟨q, 1, none⟩, .slice Bk bk1 bk2), (⟨q, 2, none⟩, .slice Bc bc1 bc2), (⟨r, 0, none⟩, .slice Ce ce1 ce2), (⟨r, 1, none⟩, .slice Ck ck1 ck2), (⟨r, 2, none⟩, .slice Cc cc1 cc2)] w W) := by
  refine ⟨_, _, _, _, rfl, rfl, rfl, rfl, ?_⟩
  have h0 := Kept.nil_of (show Below w.heap.size w ((((w.alloc (.cells #[.slice Ae ae1 ae2, .slice Ak ak1 ak2, .slice Ac ac1 ac2] 29)).alloc (.cells #[.slice Be be1 be2, .slice Bk bk1 bk2, .slice Bc bc1 bc2] 29)).alloc (.cells #[.slice Ce ce1 ce2, .slice Ck ck1 ck2, .slice Cc cc1 cc2] 29))) from (((Below.refl _ _).alloc (Nat.le_refl _) _).alloc (by simp) _).alloc (by simp; omega) _)
  refine (((((((((h0).cons_of ?_).cons_of ?_).cons_of ?_).cons_of ?_).cons_of ?_).cons_of ?_).cons_of ?_).cons_of ?_).cons_of ?_ <;> go_simp
set_option maxRecDepth 100000 in
set_option maxHeartbeats 4000000 in
theorem walk_any (ta : T) (sa : List S3) (Ae Ak Ac : Option Addr) (ae1 ak1 ae2 ak2 ac1 ac2 : Nat) (tb : T) (sb : List S3) (Be Bk Bc : Option Addr) (be1 bk1 be2 bk2 bc1 bc2 : Nat) (tc : T) (sc : List S3) (Ce Ck Cc : Option Addr) (ce1 ck1 ce2 ck2 cc1 cc2 : Nat)  (w : World) (hra : RdP w ⟨(ta, sa), ⟨Ae, ae1, ae2⟩, ⟨Ak, ak1, ak2⟩, ⟨Ac, ac1, ac2⟩⟩) (hla : LenT reachBytes ta) (hrb : RdP w ⟨(tb, sb), ⟨Be, be1, be2⟩, ⟨Bk, bk1, bk2⟩, ⟨Bc, bc1, bc2⟩⟩) (hlb : LenT reachBytes tb) (hrc : RdP w ⟨(tc, sc), ⟨Ce, ce1, ce2⟩, ⟨Ck, ck1, ck2⟩, ⟨Cc, cc1, cc2⟩⟩) (hlc : LenT reachBytes tc)  :
    Calls Tryz.prog 5 #[.agg #[.slice Ae ae1 ae2, .slice Ak ak1 ak2, .slice Ac ac1 ac2], .agg #[.slice Be be1 be2, .slice Bk bk1 bk2, .slice Bc bc1 bc2], .agg #[.slice Ce ce1 ce2, .slice Ck ck1 ck2, .slice Cc cc1 cc2]] w fun e w' => e = .returned (.bool true) ∧ Below w.heap.size w w' := by
  obtain ⟨W, p, q, r, HW, HP, HQ, HR, HKc⟩ := boxL w Ae Ak Ac ae1 ak1 ae2 ak2 ac1 ac2 Be Bk Bc be1 bk1 be2 bk2 bc1 bc2 Ce Ck Cc ce1 ck1 ce2 ck2 cc1 cc2
  have Ra := Lib.hid (hra.later HKc.out.below)
  have La := Lib.hid hla
  have Rb := Lib.hid (hrb.later HKc.out.below)
  have Lb := Lib.hid hlb
  have Rc := Lib.hid (hrc.later HKc.out.below)
  have Lc := Lib.hid hlc
  clear hra hla hrb hlb hrc hlc
  have c0 := HKc.out.c0
  have c1 := HKc.out.c1
  have c2 := HKc.out.c2
  have c3 := HKc.out.c3
  have c4 := HKc.out.c4
  have c5 := HKc.out.c5
  have c6 := HKc.out.c6
  have c7 := HKc.out.c7
  have c8 := HKc.out.tail.tail.tail.tail.tail.tail.tail.tail.c0
  go_enter Tryz.func5, Tryz.ntmps5
  go_wp2_with fail
  rw [← HW.out, ← HP.out, ← HQ.out, ← HR.out]
  refine (awake_any W).mono ?_
  rintro e v1 ⟨rfl, hb9⟩
  have Ra := Lib.hid (Ra.out.later hb9)
  have Rb := Lib.hid (Rb.out.later hb9)
  have Rc := Lib.hid (Rc.out.later hb9)
  have HKc := Lib.hid (HKc.out.later hb9)
  clear hb9
  clear c0 c1 c2 c3 c4 c5 c6 c7 c8
  have c0 := HKc.out.c0
  have c1 := HKc.out.c1
  have c2 := HKc.out.c2
  have c3 := HKc.out.c3
  have c4 := HKc.out.c4
  have c5 := HKc.out.c5
  have c6 := HKc.out.c6
  have c7 := HKc.out.c7
  have c8 := HKc.out.tail.tail.tail.tail.tail.tail.tail.tail.c0
  obtain ⟨g2, hg2⟩ : ∃ g, g = v1.heap.size := ⟨_, rfl⟩
  obtain ⟨v2, hv2⟩ : ∃ W, W = v1.alloc (.cells #[.slice Ae ae1 ae2, .slice Ak ak1 ak2, .slice Ac ac1 ac2, .slice Be be1 be2, .slice Bk bk1 bk2, .slice Bc bc1 bc2, .slice Ce ce1 ce2, .slice Ck ck1 ck2, .slice Cc cc1 cc2] 29) := ⟨_, rfl⟩
  have hb9 : Below v1.heap.size v1 v2 := by rw [hv2]; exact Dt.box_below _ _ _
  have HCP : Hid (CellsP v2 g2 [⟨(ta, sa), ⟨Ae, ae1, ae2⟩, ⟨Ak, ak1, ak2⟩, ⟨Ac, ac1, ac2⟩⟩, ⟨(tb, sb), ⟨Be, be1, be2⟩, ⟨Bk, bk1, bk2⟩, ⟨Bc, bc1, bc2⟩⟩, ⟨(tc, sc), ⟨Ce, ce1, ce2⟩, ⟨Ck, ck1, ck2⟩, ⟨Cc, cc1, cc2⟩⟩]) := by
    intro k hk
    simp at hk
    rcases (by omega : k = 0 ∨ k = 1 ∨ k = 2) with rfl | rfl | rfl <;> refine ⟨?_, ?_, ?_⟩ <;> (rw [hv2, hg2]; go_simp)
  have Hg2 := Lib.hid hg2
  have Hv2 := Lib.hid hv2
  clear hg2 hv2
  have Ra := Lib.hid (Ra.out.later hb9)
  have Rb := Lib.hid (Rb.out.later hb9)
  have Rc := Lib.hid (Rc.out.later hb9)
  have HKc := Lib.hid (HKc.out.later hb9)
  clear hb9
  have HPS : Hid (∀ p ∈ ([⟨(ta, sa), ⟨Ae, ae1, ae2⟩, ⟨Ak, ak1, ak2⟩, ⟨Ac, ac1, ac2⟩⟩, ⟨(tb, sb), ⟨Be, be1, be2⟩, ⟨Bk, bk1, bk2⟩, ⟨Bc, bc1, bc2⟩⟩, ⟨(tc, sc), ⟨Ce, ce1, ce2⟩, ⟨Ck, ck1, ck2⟩, ⟨Cc, cc1, cc2⟩⟩] : List CP), RdP v2 p) := by
    intro p hp
    simp at hp
    rcases hp with rfl | rfl | rfl
    · exact Ra.out
    · exact Rb.out
    · exact Rc.out
  have HLT : Hid (∀ p ∈ ([⟨(ta, sa), ⟨Ae, ae1, ae2⟩, ⟨Ak, ak1, ak2⟩, ⟨Ac, ac1, ac2⟩⟩, ⟨(tb, sb), ⟨Be, be1, be2⟩, ⟨Bk, bk1, bk2⟩, ⟨Bc, bc1, bc2⟩⟩, ⟨(tc, sc), ⟨Ce, ce1, ce2⟩, ⟨Ck, ck1, ck2⟩, ⟨Cc, cc1, cc2⟩⟩] : List CP), LenT reachBytes p.k.1) := by
    intro p hp
    simp at hp
    rcases hp with rfl | rfl | rfl
    · exact La.out
    · exact Lb.out
    · exact Lc.out
  have HSM := Lib.hid (small_any9 [⟨(ta, sa), ⟨Ae, ae1, ae2⟩, ⟨Ak, ak1, ak2⟩, ⟨Ac, ac1, ac2⟩⟩, ⟨(tb, sb), ⟨Be, be1, be2⟩, ⟨Bk, bk1, bk2⟩, ⟨Bc, bc1, bc2⟩⟩, ⟨(tc, sc), ⟨Ce, ce1, ce2⟩, ⟨Ck, ck1, ck2⟩, ⟨Cc, cc1, cc2⟩⟩] 3 g2 3 v2 rfl (by omega) HCP.out HPS.out HLT.out)
  clear HCP HPS HLT
  go_wp2_with fail
  rw [← Hv2.out, ← Hg2.out]
  refine HSM.out.mono ?_
  rintro e v3 ⟨b, rfl, hsm, hb9⟩
  have Ra := Lib.hid (Ra.out.later hb9)
  have Rb := Lib.hid (Rb.out.later hb9)
  have Rc := Lib.hid (Rc.out.later hb9)
  have HKc := Lib.hid (HKc.out.later hb9)
  clear hb9
  clear c0 c1 c2 c3 c4 c5 c6 c7 c8 HSM
  cases b with
  | false =>
    clear hsm
    go_wp2_with fail
    refine (awake_any _).mono ?_
    rintro e v9 ⟨rfl, hb9⟩
    have HKc := Lib.hid (HKc.out.later hb9)
    clear hb9
    go_wp2_with fail
    go_ret
    exact ⟨rfl, HKc.out.below⟩
  | true =>
    have hsa := hsm rfl ⟨(ta, sa), ⟨Ae, ae1, ae2⟩, ⟨Ak, ak1, ak2⟩, ⟨Ac, ac1, ac2⟩⟩ (by simp)
    have Na : Hid (nodes ta ≤ 40) := hsa.1
    have Qa : Hid (ac1 ≤ 40) := hsa.2
    have hsb := hsm rfl ⟨(tb, sb), ⟨Be, be1, be2⟩, ⟨Bk, bk1, bk2⟩, ⟨Bc, bc1, bc2⟩⟩ (by simp)
    have Nb : Hid (nodes tb ≤ 40) := hsb.1
    have Qb : Hid (bc1 ≤ 40) := hsb.2
    have hsc := hsm rfl ⟨(tc, sc), ⟨Ce, ce1, ce2⟩, ⟨Ck, ck1, ck2⟩, ⟨Cc, cc1, cc2⟩⟩ (by simp)
    have Nc : Hid (nodes tc ≤ 40) := hsc.1
    have Qc : Hid (cc1 ≤ 40) := hsc.2
    clear hsm hsa hsb hsc
    have c0 := HKc.out.c0
    have c1 := HKc.out.c1
    have c2 := HKc.out.c2
    have c3 := HKc.out.c3
    have c4 := HKc.out.c4
    have c5 := HKc.out.c5
    have c6 := HKc.out.c6
    have c7 := HKc.out.c7
    have c8 := HKc.out.tail.tail.tail.tail.tail.tail.tail.tail.c0
    obtain ⟨g4, hg4⟩ : ∃ g, g = v3.heap.size := ⟨_, rfl⟩
    obtain ⟨v4, hv4⟩ : ∃ W, W = v3.alloc (.cells #[.slice Ae ae1 ae2, .slice Ak ak1 ak2, .slice Ac ac1 ac2, .slice Be be1 be2, .slice Bk bk1 bk2, .slice Bc bc1 bc2, .slice Ce ce1 ce2, .slice Ck ck1 ck2, .slice Cc cc1 cc2] 29) := ⟨_, rfl⟩
    have hb9 : Below v3.heap.size v3 v4 := by rw [hv4]; exact Dt.box_below _ _ _
    have HCP : Hid (CellsP v4 g4 [⟨(ta, sa), ⟨Ae, ae1, ae2⟩, ⟨Ak, ak1, ak2⟩, ⟨Ac, ac1, ac2⟩⟩, ⟨(tb, sb), ⟨Be, be1, be2⟩, ⟨Bk, bk1, bk2⟩, ⟨Bc, bc1, bc2⟩⟩, ⟨(tc, sc), ⟨Ce, ce1, ce2⟩, ⟨Ck, ck1, ck2⟩, ⟨Cc, cc1, cc2⟩⟩]) := by
      intro k hk
      simp at hk
      rcases (by omega : k = 0 ∨ k = 1 ∨ k = 2) with rfl | rfl | rfl <;> refine ⟨?_, ?_, ?_⟩ <;> (rw [hv4, hg4]; go_simp)
    have Hg4 := Lib.hid hg4
    have Hv4 := Lib.hid hv4
    clear hg4 hv4
    have Ra := Lib.hid (Ra.out.later hb9)
    have Rb := Lib.hid (Rb.out.later hb9)
    have Rc := Lib.hid (Rc.out.later hb9)
    have HKc := Lib.hid (HKc.out.later hb9)
    clear hb9
    have HPS : Hid (∀ p ∈ ([⟨(ta, sa), ⟨Ae, ae1, ae2⟩, ⟨Ak, ak1, ak2⟩, ⟨Ac, ac1, ac2⟩⟩, ⟨(tb, sb), ⟨Be, be1, be2⟩, ⟨Bk, bk1, bk2⟩, ⟨Bc, bc1, bc2⟩⟩, ⟨(tc, sc), ⟨Ce, ce1, ce2⟩, ⟨Ck, ck1, ck2⟩, ⟨Cc, cc1, cc2⟩⟩] : List CP), RdP v4 p) := by
      intro p hp
      simp at hp
      rcases hp with rfl | rfl | rfl
      · exact Ra.out
      · exact Rb.out
      · exact Rc.out
    have HLT : Hid (∀ p ∈ ([⟨(ta, sa), ⟨Ae, ae1, ae2⟩, ⟨Ak, ak1, ak2⟩, ⟨Ac, ac1, ac2⟩⟩, ⟨(tb, sb), ⟨Be, be1, be2⟩, ⟨Bk, bk1, bk2⟩, ⟨Bc, bc1, bc2⟩⟩, ⟨(tc, sc), ⟨Ce, ce1, ce2⟩, ⟨Ck, ck1, ck2⟩, ⟨Cc, cc1, cc2⟩⟩] : List CP), nodes p.k.1 ≤ 200 ∧ p.c.n ≤ 1000) := by
      intro p hp
      simp at hp
      rcases hp with rfl | rfl | rfl
      · exact ⟨by have := Na.out; show nodes ta ≤ 200; omega, by have := Qa.out; show ac1 ≤ 1000; omega⟩
      · exact ⟨by have := Nb.out; show nodes tb ≤ 200; omega, by have := Qb.out; show bc1 ≤ 1000; omega⟩
      · exact ⟨by have := Nc.out; show nodes tc ≤ 200; omega, by have := Qc.out; show cc1 ≤ 1000; omega⟩
    obtain ⟨z, hz⟩ : ∃ z, ([⟨(ta, sa), ⟨Ae, ae1, ae2⟩, ⟨Ak, ak1, ak2⟩, ⟨Ac, ac1, ac2⟩⟩, ⟨(tb, sb), ⟨Be, be1, be2⟩, ⟨Bk, bk1, bk2⟩, ⟨Bc, bc1, bc2⟩⟩, ⟨(tc, sc), ⟨Ce, ce1, ce2⟩, ⟨Ck, ck1, ck2⟩, ⟨Cc, cc1, cc2⟩⟩] : List CP).all (fun p => rightKB p.k) = z := ⟨_, rfl⟩
    have HRT := Lib.hid (right_any9 [⟨(ta, sa), ⟨Ae, ae1, ae2⟩, ⟨Ak, ak1, ak2⟩, ⟨Ac, ac1, ac2⟩⟩, ⟨(tb, sb), ⟨Be, be1, be2⟩, ⟨Bk, bk1, bk2⟩, ⟨Bc, bc1, bc2⟩⟩, ⟨(tc, sc), ⟨Ce, ce1, ce2⟩, ⟨Ck, ck1, ck2⟩, ⟨Cc, cc1, cc2⟩⟩] 3 g4 3 v4 rfl (by omega) HCP.out HPS.out HLT.out z hz)
    have HZ := Lib.hid hz
    clear HCP HPS HLT hz
    go_wp2_with fail
    rw [← Hv4.out, ← Hg4.out]
    refine HRT.out.mono ?_
    rintro e v5 ⟨rfl, hb9⟩
    have Ra := Lib.hid (Ra.out.later hb9)
    have Rb := Lib.hid (Rb.out.later hb9)
    have Rc := Lib.hid (Rc.out.later hb9)
    have HKc := Lib.hid (HKc.out.later hb9)
    clear hb9
    clear c0 c1 c2 c3 c4 c5 c6 c7 c8 HRT
    cases z with
    | false =>
      clear HZ
      go_wp2_with fail
      refine (awake_any _).mono ?_
      rintro e v9 ⟨rfl, hb9⟩
      have HKc := Lib.hid (HKc.out.later hb9)
      clear hb9
      go_wp2_with fail
      go_ret
      exact ⟨rfl, HKc.out.below⟩
    | true =>
      have hz := HZ.out
      rw [List.all_eq_true] at hz
      have Ka : Hid (RK (ta, sa)) := rightKB_iff.1 (hz ⟨(ta, sa), ⟨Ae, ae1, ae2⟩, ⟨Ak, ak1, ak2⟩, ⟨Ac, ac1, ac2⟩⟩ (by simp))
      have Kb : Hid (RK (tb, sb)) := rightKB_iff.1 (hz ⟨(tb, sb), ⟨Be, be1, be2⟩, ⟨Bk, bk1, bk2⟩, ⟨Bc, bc1, bc2⟩⟩ (by simp))
      have Kc : Hid (RK (tc, sc)) := rightKB_iff.1 (hz ⟨(tc, sc), ⟨Ce, ce1, ce2⟩, ⟨Ck, ck1, ck2⟩, ⟨Cc, cc1, cc2⟩⟩ (by simp))
      clear hz HZ
      have c0 := HKc.out.c0
      have c1 := HKc.out.c1
      have c2 := HKc.out.c2
      have c3 := HKc.out.c3
      have c4 := HKc.out.c4
      have c5 := HKc.out.c5
      have c6 := HKc.out.c6
      have c7 := HKc.out.c7
      have c8 := HKc.out.tail.tail.tail.tail.tail.tail.tail.tail.c0
      go_wp2_with fail
      refine wp_region_held_drew (S := fun W => W.cell? ⟨p, 0, none⟩ = some (.slice Ae ae1 ae2) ∧ W.cell? ⟨p, 1, none⟩ = some (.slice Ak ak1 ak2) ∧ W.cell? ⟨p, 2, none⟩ = some (.slice Ac ac1 ac2) ∧ W.cell? ⟨q, 0, none⟩ = some (.slice Be be1 be2) ∧ W.cell? ⟨q, 1, none⟩ = some (.slice Bk bk1 bk2) ∧ W.cell? ⟨q, 2, none⟩ = some (.slice Bc bc1 bc2) ∧ W.cell? ⟨r, 0, none⟩ = some (.slice Ce ce1 ce2) ∧ W.cell? ⟨r, 1, none⟩ = some (.slice Ck ck1 ck2) ∧ W.cell? ⟨r, 2, none⟩ = some (.slice Cc cc1 cc2)) (by kernel_rfl) (by have h9 := HKc.out.drew; exact ⟨h9.c0, h9.c1, h9.c2, h9.c3, h9.c4, h9.c5, h9.c6, h9.c7, h9.tail.tail.tail.tail.tail.tail.tail.tail.c0⟩) (fun hHeld => ?_)
      obtain ⟨w1, hw1⟩ : ∃ v, v = v5.drew := ⟨_, rfl⟩
      have HKc : Hid (Kept [(⟨p, 0, none⟩, .slice Ae ae1 ae2), (⟨p, 1, none⟩, .slice Ak ak1 ak2), (⟨p, 2, none⟩, .slice Ac ac1 ac2), (⟨q, 0, none⟩, .slice Be be1 be2), (⟨q, 1, none⟩, .slice Bk bk1 bk2), (⟨q, 2, none⟩, .slice Bc bc1 bc2), (⟨r, 0, none⟩, .slice Ce ce1 ce2), (⟨r, 1, none⟩, .slice Ck ck1 ck2), (⟨r, 2, none⟩, .slice Cc cc1 cc2)] w w1) := by unfold Hid; rw [hw1]; exact HKc.out.drew
      have Ra : Hid (RdP w1 ⟨(ta, sa), ⟨Ae, ae1, ae2⟩, ⟨Ak, ak1, ak2⟩, ⟨Ac, ac1, ac2⟩⟩) := by unfold Hid; rw [hw1]; exact Ra.out.later ((Below.refl _ _).drew)
      have Rb : Hid (RdP w1 ⟨(tb, sb), ⟨Be, be1, be2⟩, ⟨Bk, bk1, bk2⟩, ⟨Bc, bc1, bc2⟩⟩) := by unfold Hid; rw [hw1]; exact Rb.out.later ((Below.refl _ _).drew)
      have Rc : Hid (RdP w1 ⟨(tc, sc), ⟨Ce, ce1, ce2⟩, ⟨Ck, ck1, ck2⟩, ⟨Cc, cc1, cc2⟩⟩) := by unfold Hid; rw [hw1]; exact Rc.out.later ((Below.refl _ _).drew)
      rw [← hw1] at hHeld ⊢
      clear hw1
      refine Tk 0 26 ?_
      refine Tk 1 27 ?_
      refine Tk 3 29 ?_
      refine wpAnyH_ready (rs := [2]) (by kernel_rfl) (by simp) ?_
      refine AllReadyH.cons (o := ⟨some 28, _, _, _, _, _⟩) rfl (fun K hK => ?_) AllReadyH.nil
      go_simp
      (go_at_call 22; refine (joinL_any ta ta sa sa Ae Ak Ac Ae Ak Ac ae1 ak1 ae2 ak2 ac1 ac2 ae1 ak1 ae2 ak2 ac1 ac2 _ (by have := Na.out; omega) Ra.out.len (by have := Qa.out; omega) Ra.out.tree Ra.out.ctx (by have := Na.out; omega) Ra.out.len (by have := Qa.out; omega) Ra.out.tree Ra.out.ctx).mono ?_)
      rintro e xd ⟨kd, hj, _, De, de1, de2, Dk, dk1, dk2, Dc, dc1, dc2, rfl, how, hb9⟩
      have Jd : Hid (IsJ (ta, sa) (ta, sa) kd) := (hj ⟨Ka.out, Ka.out⟩).1
      have Kd : Hid (RK kd) := Jd.out.right Ka.out Ka.out
      have Nd : Hid (nodes kd.1 ≤ 80) := by
        have h1 := joinT_nodes 5 sa sa ta ta
        have h2 := Na.out
        have h3 := Na.out
        unfold Hid
        rw [Jd.out.tree]
        show nodes (joinT 5 sa sa ta ta) ≤ _
        omega
      have Qd : Hid (dc1 ≤ 80) := by
        have h1 := (hj ⟨Ka.out, Ka.out⟩).2
        have h2 := how.len
        have h3 := Qa.out
        have h4 := Qa.out
        unfold Hid
        omega
      have Rd := Lib.hid (RdP.of_own how)
      clear hj how
      have Ra := Lib.hid (Ra.out.later hb9)
      have Rb := Lib.hid (Rb.out.later hb9)
      have Rc := Lib.hid (Rc.out.later hb9)
      have HKc := Lib.hid (HKc.out.later hb9)
      clear hb9
      refine hK.out _ _ ?_ (fun hHeld2 => ?_)
      · exact ⟨HKc.out.c0, HKc.out.c1, HKc.out.c2, HKc.out.c3, HKc.out.c4, HKc.out.c5, HKc.out.c6, HKc.out.c7, HKc.out.tail.tail.tail.tail.tail.tail.tail.tail.c0⟩
      clear hK K hHeld
      have hHeld := hHeld2
      clear hHeld2
      try simp only [Act.put, List.setIfInBounds_toArray, List.set_cons_zero, List.set_cons_succ]
      refine wpAnyH_ready (rs := [4]) (by kernel_rfl) (by simp) ?_
      refine AllReadyH.cons (o := ⟨some 30, _, _, _, _, _⟩) rfl (fun K hK => ?_) AllReadyH.nil
      go_simp
      (go_at_call 21; refine (sameK_any kd.1 ta kd.2 sa De Dk Dc Ae Ak Ac de1 dk1 de2 dk2 dc1 dc2 ae1 ak1 ae2 ak2 ac1 ac2 _ (by have := Nd.out; omega) Rd.out.len (by have := Qd.out; omega) Rd.out.tree Rd.out.ctx (by have := Na.out; omega) Ra.out.len (by have := Qa.out; omega) Ra.out.tree Ra.out.ctx).mono ?_)
      rw [show sameKB (kd.1, kd.2) (ta, sa) = true from same_true Kd.out (join_self Ka.out Jd.out)]
      rintro e y1 ⟨rfl, hb9⟩
      have Ra := Lib.hid (Ra.out.later hb9)
      have Rb := Lib.hid (Rb.out.later hb9)
      have Rc := Lib.hid (Rc.out.later hb9)
      have Rd := Lib.hid (Rd.out.later hb9)
      have HKc := Lib.hid (HKc.out.later hb9)
      clear hb9
      refine hK.out _ _ ?_ (fun hHeld2 => ?_)
      · exact ⟨HKc.out.c0, HKc.out.c1, HKc.out.c2, HKc.out.c3, HKc.out.c4, HKc.out.c5, HKc.out.c6, HKc.out.c7, HKc.out.tail.tail.tail.tail.tail.tail.tail.tail.c0⟩
      clear hK K hHeld
      have hHeld := hHeld2
      clear hHeld2
      try simp only [Act.put, List.setIfInBounds_toArray, List.set_cons_zero, List.set_cons_succ]
      refine Tk 5 31 ?_
      refine Tk 6 32 ?_
      refine Tk 7 33 ?_
      refine Tk 9 35 ?_
      refine Tk 10 36 ?_
      refine wpAnyH_ready (rs := [8]) (by kernel_rfl) (by simp) ?_
      refine AllReadyH.cons (o := ⟨some 34, _, _, _, _, _⟩) rfl (fun K hK => ?_) AllReadyH.nil
      go_simp
      (go_at_call 22; refine (joinL_any ta tb sa sb Ae Ak Ac Be Bk Bc ae1 ak1 ae2 ak2 ac1 ac2 be1 bk1 be2 bk2 bc1 bc2 _ (by have := Na.out; omega) Ra.out.len (by have := Qa.out; omega) Ra.out.tree Ra.out.ctx (by have := Nb.out; omega) Rb.out.len (by have := Qb.out; omega) Rb.out.tree Rb.out.ctx).mono ?_)
      rintro e xf ⟨kf, hj, _, Fe, fe1, fe2, Fk, fk1, fk2, Fc, fc1, fc2, rfl, how, hb9⟩
      have Jf : Hid (IsJ (ta, sa) (tb, sb) kf) := (hj ⟨Ka.out, Kb.out⟩).1
      have Kf : Hid (RK kf) := Jf.out.right Ka.out Kb.out
      have Nf : Hid (nodes kf.1 ≤ 80) := by
        have h1 := joinT_nodes 5 sa sb ta tb
        have h2 := Na.out
        have h3 := Nb.out
        unfold Hid
        rw [Jf.out.tree]
        show nodes (joinT 5 sa sb ta tb) ≤ _
        omega
      have Qf : Hid (fc1 ≤ 80) := by
        have h1 := (hj ⟨Ka.out, Kb.out⟩).2
        have h2 := how.len
        have h3 := Qa.out
        have h4 := Qb.out
        unfold Hid
        omega
      have Rf := Lib.hid (RdP.of_own how)
      clear hj how
      have Ra := Lib.hid (Ra.out.later hb9)
      have Rb := Lib.hid (Rb.out.later hb9)
      have Rc := Lib.hid (Rc.out.later hb9)
      have Rd := Lib.hid (Rd.out.later hb9)
      have HKc := Lib.hid (HKc.out.later hb9)
      clear hb9
      refine hK.out _ _ ?_ (fun hHeld2 => ?_)
      · exact ⟨HKc.out.c0, HKc.out.c1, HKc.out.c2, HKc.out.c3, HKc.out.c4, HKc.out.c5, HKc.out.c6, HKc.out.c7, HKc.out.tail.tail.tail.tail.tail.tail.tail.tail.c0⟩
      clear hK K hHeld
      have hHeld := hHeld2
      clear hHeld2
      try simp only [Act.put, List.setIfInBounds_toArray, List.set_cons_zero, List.set_cons_succ]
      refine wpAnyH_ready (rs := [11]) (by kernel_rfl) (by simp) ?_
      refine AllReadyH.cons (o := ⟨some 37, _, _, _, _, _⟩) rfl (fun K hK => ?_) AllReadyH.nil
      go_simp
      (go_at_call 22; refine (joinL_any tb ta sb sa Be Bk Bc Ae Ak Ac be1 bk1 be2 bk2 bc1 bc2 ae1 ak1 ae2 ak2 ac1 ac2 _ (by have := Nb.out; omega) Rb.out.len (by have := Qb.out; omega) Rb.out.tree Rb.out.ctx (by have := Na.out; omega) Ra.out.len (by have := Qa.out; omega) Ra.out.tree Ra.out.ctx).mono ?_)
      rintro e xg ⟨kg, hj, _, Ge, ge1, ge2, Gk, gk1, gk2, Gc, gc1, gc2, rfl, how, hb9⟩
      have Jg : Hid (IsJ (tb, sb) (ta, sa) kg) := (hj ⟨Kb.out, Ka.out⟩).1
      have Kg : Hid (RK kg) := Jg.out.right Kb.out Ka.out
      have Ng : Hid (nodes kg.1 ≤ 80) := by
        have h1 := joinT_nodes 5 sb sa tb ta
        have h2 := Nb.out
        have h3 := Na.out
        unfold Hid
        rw [Jg.out.tree]
        show nodes (joinT 5 sb sa tb ta) ≤ _
        omega
      have Qg : Hid (gc1 ≤ 80) := by
        have h1 := (hj ⟨Kb.out, Ka.out⟩).2
        have h2 := how.len
        have h3 := Qb.out
        have h4 := Qa.out
        unfold Hid
        omega
      have Rg := Lib.hid (RdP.of_own how)
      clear hj how
      have Ra := Lib.hid (Ra.out.later hb9)
      have Rb := Lib.hid (Rb.out.later hb9)
      have Rc := Lib.hid (Rc.out.later hb9)
      have Rd := Lib.hid (Rd.out.later hb9)
      have Rf := Lib.hid (Rf.out.later hb9)
      have HKc := Lib.hid (HKc.out.later hb9)
      clear hb9
      refine hK.out _ _ ?_ (fun hHeld2 => ?_)
      · exact ⟨HKc.out.c0, HKc.out.c1, HKc.out.c2, HKc.out.c3, HKc.out.c4, HKc.out.c5, HKc.out.c6, HKc.out.c7, HKc.out.tail.tail.tail.tail.tail.tail.tail.tail.c0⟩
      clear hK K hHeld
      have hHeld := hHeld2
      clear hHeld2
      try simp only [Act.put, List.setIfInBounds_toArray, List.set_cons_zero, List.set_cons_succ]
      refine wpAnyH_ready (rs := [12]) (by kernel_rfl) (by simp) ?_
      refine AllReadyH.cons (o := ⟨some 38, _, _, _, _, _⟩) rfl (fun K hK => ?_) AllReadyH.nil
      go_simp
      (go_at_call 21; refine (sameK_any kf.1 kg.1 kf.2 kg.2 Fe Fk Fc Ge Gk Gc fe1 fk1 fe2 fk2 fc1 fc2 ge1 gk1 ge2 gk2 gc1 gc2 _ (by have := Nf.out; omega) Rf.out.len (by have := Qf.out; omega) Rf.out.tree Rf.out.ctx (by have := Ng.out; omega) Rg.out.len (by have := Qg.out; omega) Rg.out.tree Rg.out.ctx).mono ?_)
      rw [show sameKB (kf.1, kf.2) (kg.1, kg.2) = true from same_true Kf.out (join_comm Ka.out Kb.out Jf.out Jg.out)]
      rintro e y2 ⟨rfl, hb9⟩
      have Ra := Lib.hid (Ra.out.later hb9)
      have Rb := Lib.hid (Rb.out.later hb9)
      have Rc := Lib.hid (Rc.out.later hb9)
      have Rd := Lib.hid (Rd.out.later hb9)
      have Rf := Lib.hid (Rf.out.later hb9)
      have Rg := Lib.hid (Rg.out.later hb9)
      have HKc := Lib.hid (HKc.out.later hb9)
      clear hb9
      refine hK.out _ _ ?_ (fun hHeld2 => ?_)
      · exact ⟨HKc.out.c0, HKc.out.c1, HKc.out.c2, HKc.out.c3, HKc.out.c4, HKc.out.c5, HKc.out.c6, HKc.out.c7, HKc.out.tail.tail.tail.tail.tail.tail.tail.tail.c0⟩
      clear hK K hHeld
      have hHeld := hHeld2
      clear hHeld2
      try simp only [Act.put, List.setIfInBounds_toArray, List.set_cons_zero, List.set_cons_succ]
      refine Tk 13 39 ?_
      refine Tk 14 40 ?_
      refine Tk 15 41 ?_
      refine Tk 16 42 ?_
      refine Tk 18 44 ?_
      refine Tk 20 46 ?_
      refine Tk 21 47 ?_
      refine Tk 22 48 ?_
      refine wpAnyH_ready (rs := [17]) (by kernel_rfl) (by simp) ?_
      refine AllReadyH.cons (o := ⟨some 43, _, _, _, _, _⟩) rfl (fun K hK => ?_) AllReadyH.nil
      go_simp
      (go_at_call 22; refine (joinL_any ta tb sa sb Ae Ak Ac Be Bk Bc ae1 ak1 ae2 ak2 ac1 ac2 be1 bk1 be2 bk2 bc1 bc2 _ (by have := Na.out; omega) Ra.out.len (by have := Qa.out; omega) Ra.out.tree Ra.out.ctx (by have := Nb.out; omega) Rb.out.len (by have := Qb.out; omega) Rb.out.tree Rb.out.ctx).mono ?_)
      rintro e xh ⟨kh, hj, _, He, he1, he2, Hk, hk1, hk2, Hc, hc1, hc2, rfl, how, hb9⟩
      have Jh : Hid (IsJ (ta, sa) (tb, sb) kh) := (hj ⟨Ka.out, Kb.out⟩).1
      have Kh : Hid (RK kh) := Jh.out.right Ka.out Kb.out
      have Nh : Hid (nodes kh.1 ≤ 80) := by
        have h1 := joinT_nodes 5 sa sb ta tb
        have h2 := Na.out
        have h3 := Nb.out
        unfold Hid
        rw [Jh.out.tree]
        show nodes (joinT 5 sa sb ta tb) ≤ _
        omega
      have Qh : Hid (hc1 ≤ 80) := by
        have h1 := (hj ⟨Ka.out, Kb.out⟩).2
        have h2 := how.len
        have h3 := Qa.out
        have h4 := Qb.out
        unfold Hid
        omega
      have Rh := Lib.hid (RdP.of_own how)
      clear hj how
      have Ra := Lib.hid (Ra.out.later hb9)
      have Rb := Lib.hid (Rb.out.later hb9)
      have Rc := Lib.hid (Rc.out.later hb9)
      have Rd := Lib.hid (Rd.out.later hb9)
      have Rf := Lib.hid (Rf.out.later hb9)
      have Rg := Lib.hid (Rg.out.later hb9)
      have HKc := Lib.hid (HKc.out.later hb9)
      clear hb9
      refine hK.out _ _ ?_ (fun hHeld2 => ?_)
      · exact ⟨HKc.out.c0, HKc.out.c1, HKc.out.c2, HKc.out.c3, HKc.out.c4, HKc.out.c5, HKc.out.c6, HKc.out.c7, HKc.out.tail.tail.tail.tail.tail.tail.tail.tail.c0⟩
      clear hK K hHeld
      have hHeld := hHeld2
      clear hHeld2
      try simp only [Act.put, List.setIfInBounds_toArray, List.set_cons_zero, List.set_cons_succ]
      refine wpAnyH_ready (rs := [19]) (by kernel_rfl) (by simp) ?_
      refine AllReadyH.cons (o := ⟨some 45, _, _, _, _, _⟩) rfl (fun K hK => ?_) AllReadyH.nil
      go_simp
      (go_at_call 22; refine (joinL_any kh.1 tc kh.2 sc He Hk Hc Ce Ck Cc he1 hk1 he2 hk2 hc1 hc2 ce1 ck1 ce2 ck2 cc1 cc2 _ (by have := Nh.out; omega) Rh.out.len (by have := Qh.out; omega) Rh.out.tree Rh.out.ctx (by have := Nc.out; omega) Rc.out.len (by have := Qc.out; omega) Rc.out.tree Rc.out.ctx).mono ?_)
      rintro e xi ⟨ki, hj, _, Ie, ie1, ie2, Ik, ik1, ik2, Ic, ic1, ic2, rfl, how, hb9⟩
      have Ji : Hid (IsJ kh (tc, sc) ki) := (hj ⟨Kh.out, Kc.out⟩).1
      have Ki : Hid (RK ki) := Ji.out.right Kh.out Kc.out
      have Ni : Hid (nodes ki.1 ≤ 120) := by
        have h1 := joinT_nodes 5 kh.2 sc kh.1 tc
        have h2 := Nh.out
        have h3 := Nc.out
        unfold Hid
        rw [Ji.out.tree]
        show nodes (joinT 5 kh.2 sc kh.1 tc) ≤ _
        omega
      have Qi : Hid (ic1 ≤ 120) := by
        have h1 := (hj ⟨Kh.out, Kc.out⟩).2
        have h2 := how.len
        have h3 := Qh.out
        have h4 := Qc.out
        unfold Hid
        omega
      have Ri := Lib.hid (RdP.of_own how)
      clear hj how
      have Ra := Lib.hid (Ra.out.later hb9)
      have Rb := Lib.hid (Rb.out.later hb9)
      have Rc := Lib.hid (Rc.out.later hb9)
      have Rd := Lib.hid (Rd.out.later hb9)
      have Rf := Lib.hid (Rf.out.later hb9)
      have Rg := Lib.hid (Rg.out.later hb9)
      have Rh := Lib.hid (Rh.out.later hb9)
      have HKc := Lib.hid (HKc.out.later hb9)
      clear hb9
      refine hK.out _ _ ?_ (fun hHeld2 => ?_)
      · exact ⟨HKc.out.c0, HKc.out.c1, HKc.out.c2, HKc.out.c3, HKc.out.c4, HKc.out.c5, HKc.out.c6, HKc.out.c7, HKc.out.tail.tail.tail.tail.tail.tail.tail.tail.c0⟩
      clear hK K hHeld
      have hHeld := hHeld2
      clear hHeld2
      try simp only [Act.put, List.setIfInBounds_toArray, List.set_cons_zero, List.set_cons_succ]
      refine wpAnyH_ready (rs := [23]) (by kernel_rfl) (by simp) ?_
      refine AllReadyH.cons (o := ⟨some 49, _, _, _, _, _⟩) rfl (fun K hK => ?_) AllReadyH.nil
      go_simp
      (go_at_call 22; refine (joinL_any tb tc sb sc Be Bk Bc Ce Ck Cc be1 bk1 be2 bk2 bc1 bc2 ce1 ck1 ce2 ck2 cc1 cc2 _ (by have := Nb.out; omega) Rb.out.len (by have := Qb.out; omega) Rb.out.tree Rb.out.ctx (by have := Nc.out; omega) Rc.out.len (by have := Qc.out; omega) Rc.out.tree Rc.out.ctx).mono ?_)
      rintro e xj ⟨kj, hj, _, Je, je1, je2, Jk, jk1, jk2, Jc, jc1, jc2, rfl, how, hb9⟩
      have Jj : Hid (IsJ (tb, sb) (tc, sc) kj) := (hj ⟨Kb.out, Kc.out⟩).1
      have Kj : Hid (RK kj) := Jj.out.right Kb.out Kc.out
      have Nj : Hid (nodes kj.1 ≤ 80) := by
        have h1 := joinT_nodes 5 sb sc tb tc
        have h2 := Nb.out
        have h3 := Nc.out
        unfold Hid
        rw [Jj.out.tree]
        show nodes (joinT 5 sb sc tb tc) ≤ _
        omega
      have Qj : Hid (jc1 ≤ 80) := by
        have h1 := (hj ⟨Kb.out, Kc.out⟩).2
        have h2 := how.len
        have h3 := Qb.out
        have h4 := Qc.out
        unfold Hid
        omega
      have Rj := Lib.hid (RdP.of_own how)
      clear hj how
      have Ra := Lib.hid (Ra.out.later hb9)
      have Rb := Lib.hid (Rb.out.later hb9)
      have Rc := Lib.hid (Rc.out.later hb9)
      have Rd := Lib.hid (Rd.out.later hb9)
      have Rf := Lib.hid (Rf.out.later hb9)
      have Rg := Lib.hid (Rg.out.later hb9)
      have Rh := Lib.hid (Rh.out.later hb9)
      have Ri := Lib.hid (Ri.out.later hb9)
      have HKc := Lib.hid (HKc.out.later hb9)
      clear hb9
      refine hK.out _ _ ?_ (fun hHeld2 => ?_)
      · exact ⟨HKc.out.c0, HKc.out.c1, HKc.out.c2, HKc.out.c3, HKc.out.c4, HKc.out.c5, HKc.out.c6, HKc.out.c7, HKc.out.tail.tail.tail.tail.tail.tail.tail.tail.c0⟩
      clear hK K hHeld
      have hHeld := hHeld2
      clear hHeld2
      try simp only [Act.put, List.setIfInBounds_toArray, List.set_cons_zero, List.set_cons_succ]
      refine wpAnyH_ready (rs := [24]) (by kernel_rfl) (by simp) ?_
      refine AllReadyH.cons (o := ⟨some 50, _, _, _, _, _⟩) rfl (fun K hK => ?_) AllReadyH.nil
      go_simp
      (go_at_call 22; refine (joinL_any ta kj.1 sa kj.2 Ae Ak Ac Je Jk Jc ae1 ak1 ae2 ak2 ac1 ac2 je1 jk1 je2 jk2 jc1 jc2 _ (by have := Na.out; omega) Ra.out.len (by have := Qa.out; omega) Ra.out.tree Ra.out.ctx (by have := Nj.out; omega) Rj.out.len (by have := Qj.out; omega) Rj.out.tree Rj.out.ctx).mono ?_)
      rintro e xm ⟨km, hj, _, Me, me1, me2, Mk, mk1, mk2, Mc, mc1, mc2, rfl, how, hb9⟩
      have Jm : Hid (IsJ (ta, sa) kj km) := (hj ⟨Ka.out, Kj.out⟩).1
      have Km : Hid (RK km) := Jm.out.right Ka.out Kj.out
      have Nm : Hid (nodes km.1 ≤ 120) := by
        have h1 := joinT_nodes 5 sa kj.2 ta kj.1
        have h2 := Na.out
        have h3 := Nj.out
        unfold Hid
        rw [Jm.out.tree]
        show nodes (joinT 5 sa kj.2 ta kj.1) ≤ _
        omega
      have Qm : Hid (mc1 ≤ 120) := by
        have h1 := (hj ⟨Ka.out, Kj.out⟩).2
        have h2 := how.len
        have h3 := Qa.out
        have h4 := Qj.out
        unfold Hid
        omega
      have Rm := Lib.hid (RdP.of_own how)
      clear hj how
      have Ra := Lib.hid (Ra.out.later hb9)
      have Rb := Lib.hid (Rb.out.later hb9)
      have Rc := Lib.hid (Rc.out.later hb9)
      have Rd := Lib.hid (Rd.out.later hb9)
      have Rf := Lib.hid (Rf.out.later hb9)
      have Rg := Lib.hid (Rg.out.later hb9)
      have Rh := Lib.hid (Rh.out.later hb9)
      have Ri := Lib.hid (Ri.out.later hb9)
      have Rj := Lib.hid (Rj.out.later hb9)
      have HKc := Lib.hid (HKc.out.later hb9)
      clear hb9
      refine hK.out _ _ ?_ (fun hHeld2 => ?_)
      · exact ⟨HKc.out.c0, HKc.out.c1, HKc.out.c2, HKc.out.c3, HKc.out.c4, HKc.out.c5, HKc.out.c6, HKc.out.c7, HKc.out.tail.tail.tail.tail.tail.tail.tail.tail.c0⟩
      clear hK K hHeld
      have hHeld := hHeld2
      clear hHeld2
      try simp only [Act.put, List.setIfInBounds_toArray, List.set_cons_zero, List.set_cons_succ]
      refine wpAnyH_ready (rs := [25]) (by kernel_rfl) (by simp) ?_
      refine AllReadyH.cons (o := ⟨some 51, _, _, _, _, _⟩) rfl (fun K hK => ?_) AllReadyH.nil
      go_simp
      (go_at_call 21; refine (sameK_any ki.1 km.1 ki.2 km.2 Ie Ik Ic Me Mk Mc ie1 ik1 ie2 ik2 ic1 ic2 me1 mk1 me2 mk2 mc1 mc2 _ (by have := Ni.out; omega) Ri.out.len (by have := Qi.out; omega) Ri.out.tree Ri.out.ctx (by have := Nm.out; omega) Rm.out.len (by have := Qm.out; omega) Rm.out.tree Rm.out.ctx).mono ?_)
      rw [show sameKB (ki.1, ki.2) (km.1, km.2) = true from same_true Ki.out (join_assoc Ka.out Kb.out Kc.out Jh.out Ji.out Jj.out Jm.out)]
      rintro e y3 ⟨rfl, hb9⟩
      have Ra := Lib.hid (Ra.out.later hb9)
      have Rb := Lib.hid (Rb.out.later hb9)
      have Rc := Lib.hid (Rc.out.later hb9)
      have Rd := Lib.hid (Rd.out.later hb9)
      have Rf := Lib.hid (Rf.out.later hb9)
      have Rg := Lib.hid (Rg.out.later hb9)
      have Rh := Lib.hid (Rh.out.later hb9)
      have Ri := Lib.hid (Ri.out.later hb9)
      have Rj := Lib.hid (Rj.out.later hb9)
      have Rm := Lib.hid (Rm.out.later hb9)
      have HKc := Lib.hid (HKc.out.later hb9)
      clear hb9
      refine hK.out _ _ ?_ (fun hHeld2 => ?_)
      · exact ⟨HKc.out.c0, HKc.out.c1, HKc.out.c2, HKc.out.c3, HKc.out.c4, HKc.out.c5, HKc.out.c6, HKc.out.c7, HKc.out.tail.tail.tail.tail.tail.tail.tail.tail.c0⟩
      clear hK K hHeld
      have hHeld := hHeld2
      clear hHeld2
      try simp only [Act.put, List.setIfInBounds_toArray, List.set_cons_zero, List.set_cons_succ]
      refine Tk 26 52 ?_
      refine Tk 27 53 ?_
      refine Tk 28 54 ?_
      refine Tk 29 55 ?_
      refine wpAnyH_ready (rs := [30]) (by kernel_rfl) (by simp) ?_
      refine AllReadyH.cons (o := ⟨some 56, _, _, _, _, _⟩) rfl (fun K hK => ?_) AllReadyH.nil
      go_simp
      (go_at_call 22; refine (joinL_any ta tb sa sb Ae Ak Ac Be Bk Bc ae1 ak1 ae2 ak2 ac1 ac2 be1 bk1 be2 bk2 bc1 bc2 _ (by have := Na.out; omega) Ra.out.len (by have := Qa.out; omega) Ra.out.tree Ra.out.ctx (by have := Nb.out; omega) Rb.out.len (by have := Qb.out; omega) Rb.out.tree Rb.out.ctx).mono ?_)
      rintro e xl ⟨kl, hj, _, Le, le1, le2, Lk, lk1, lk2, Lc, lc1, lc2, rfl, how, hb9⟩
      have Jl : Hid (IsJ (ta, sa) (tb, sb) kl) := (hj ⟨Ka.out, Kb.out⟩).1
      have Kl : Hid (RK kl) := Jl.out.right Ka.out Kb.out
      have Nl : Hid (nodes kl.1 ≤ 80) := by
        have h1 := joinT_nodes 5 sa sb ta tb
        have h2 := Na.out
        have h3 := Nb.out
        unfold Hid
        rw [Jl.out.tree]
        show nodes (joinT 5 sa sb ta tb) ≤ _
        omega
      have Ql : Hid (lc1 ≤ 80) := by
        have h1 := (hj ⟨Ka.out, Kb.out⟩).2
        have h2 := how.len
        have h3 := Qa.out
        have h4 := Qb.out
        unfold Hid
        omega
      have Rl := Lib.hid (RdP.of_own how)
      clear hj how
      have Ra := Lib.hid (Ra.out.later hb9)
      have Rb := Lib.hid (Rb.out.later hb9)
      have Rc := Lib.hid (Rc.out.later hb9)
      have Rd := Lib.hid (Rd.out.later hb9)
      have Rf := Lib.hid (Rf.out.later hb9)
      have Rg := Lib.hid (Rg.out.later hb9)
      have Rh := Lib.hid (Rh.out.later hb9)
      have Ri := Lib.hid (Ri.out.later hb9)
      have Rj := Lib.hid (Rj.out.later hb9)
      have Rm := Lib.hid (Rm.out.later hb9)
      have HKc := Lib.hid (HKc.out.later hb9)
      clear hb9
      refine hK.out _ _ ?_ (fun hHeld2 => ?_)
      · exact ⟨HKc.out.c0, HKc.out.c1, HKc.out.c2, HKc.out.c3, HKc.out.c4, HKc.out.c5, HKc.out.c6, HKc.out.c7, HKc.out.tail.tail.tail.tail.tail.tail.tail.tail.c0⟩
      clear hK K hHeld
      have hHeld := hHeld2
      clear hHeld2
      try simp only [Act.put, List.setIfInBounds_toArray, List.set_cons_zero, List.set_cons_succ]
      refine wpAnyH_ready (rs := [31]) (by kernel_rfl) (by simp) ?_
      refine AllReadyH.cons (o := ⟨some 57, _, _, _, _, _⟩) rfl (fun K hK => ?_) AllReadyH.nil
      go_simp
      (go_at_call 15; refine (rightK_any kl.1 kl.2 Le Lk Lc le1 lk1 le2 lk2 lc1 lc2 _ (by have := Nl.out; omega) Rl.out.len (by have := Ql.out; omega) Rl.out.tree Rl.out.ctx).mono ?_)
      rw [show rightKB (kl.1, kl.2) = true from rightKB_iff.2 Kl.out]
      rintro e y4 ⟨rfl, hb9⟩
      have Ra := Lib.hid (Ra.out.later hb9)
      have Rb := Lib.hid (Rb.out.later hb9)
      have Rc := Lib.hid (Rc.out.later hb9)
      have Rd := Lib.hid (Rd.out.later hb9)
      have Rf := Lib.hid (Rf.out.later hb9)
      have Rg := Lib.hid (Rg.out.later hb9)
      have Rh := Lib.hid (Rh.out.later hb9)
      have Ri := Lib.hid (Ri.out.later hb9)
      have Rj := Lib.hid (Rj.out.later hb9)
      have Rm := Lib.hid (Rm.out.later hb9)
      have Rl := Lib.hid (Rl.out.later hb9)
      have HKc := Lib.hid (HKc.out.later hb9)
      clear hb9
      refine hK.out _ _ ?_ (fun hHeld2 => ?_)
      · exact ⟨HKc.out.c0, HKc.out.c1, HKc.out.c2, HKc.out.c3, HKc.out.c4, HKc.out.c5, HKc.out.c6, HKc.out.c7, HKc.out.tail.tail.tail.tail.tail.tail.tail.tail.c0⟩
      clear hK K hHeld
      have hHeld := hHeld2
      clear hHeld2
      try simp only [Act.put, List.setIfInBounds_toArray, List.set_cons_zero, List.set_cons_succ]
      refine Tk 32 58 ?_
      refine Tk 33 6 ?_
      refine wpAnyH_done (by kernel_rfl) ?_ _
      clear hHeld
      go_wp2_with fail
      go_ret
      exact ⟨by first | rfl | simp, HKc.out.below⟩
set_option maxRecDepth 100000 in
theorem lifted (os : Os) (started : os.Started) (H : Type) (enc : TypeId × Value → H) :
    ReturnsInHanded {} Tryz.checked os 5 .any (Rows.causalLatticeSpec.pre6 enc Tryz.prog Tryz.f5 Rows.causalLatticeRow.domain false) (Rows.causalLatticeSpec.post enc Tryz.prog Tryz.f5 false true false false) := by
  refine returnsInHanded_of_change_sized (C := Tryz.checked) own started (by kernel_rfl) Tryz.func5
    (ChangeSpec.witness6 (enc := enc) (C := Tryz.checked) false ⟨#[], #[.agg #[.slice none 0 0, .slice none 0 0, .slice none 0 0], .agg #[.slice none 0 0, .slice none 0 0, .slice none 0 0], .agg #[.slice none 0 0, .slice none 0 0, .slice none 0 0]], []⟩ 8 (by kernel_rfl) (by kernel_rfl) (by kernel_rfl) (by kernel_rfl)) ?_
  intro W base args ds gs before hval0 hW _ hsz0 _
  have hval : ∀ (j : Nat) t v, Tryz.f5.params[j]? = some t → args[j]? = some v → Value.okWide Tryz.prog W .any base t v := hval0
  have hW' := hW
  obtain ⟨p, q, hA0, hV, rfl, hfz, hnd⟩ := hW
  have hA : DataW.TrodAll enc Tryz.prog W 0 (fun _ => true) true Tryz.f5.params.toList args.toList ds p := hA0
  rw [Tryz.params5] at hA hval
  obtain ⟨v0, v1, v2, d0, d1, d2, p0, p1, p2, rfl, rfl, rfl, h0, h1, h2⟩ := trodAll_three hA
  obtain ⟨rfl, rfl⟩ := trodVars_none hV
  have hsz : (DataW.weightsEach Tryz.prog (29 :: 29 :: 29 :: _) (d0 :: d1 :: d2 :: _)).all (· ≤ reachBytes) = true := hsz0
  obtain ⟨hw0, hsz⟩ := Tr.weights_head hsz
  obtain ⟨hw1, hsz⟩ := Tr.weights_head hsz
  obtain ⟨hw2, hsz⟩ := Tr.weights_head hsz
  obtain ⟨t0, s0, A0, B0, C0, n0, m0, ne0, nk0, nc0, nd0, rfl, hr0, hl0⟩ := Cs.cauV_of_trod (hval 0 29 v0 rfl rfl) h0 hw0
  obtain ⟨t1, s1, A1, B1, C1, n1, m1, ne1, nk1, nc1, nd1, rfl, hr1, hl1⟩ := Cs.cauV_of_trod (hval 1 29 v1 rfl rfl) h1 hw1
  obtain ⟨t2, s2, A2, B2, C2, n2, m2, ne2, nk2, nc2, nd2, rfl, hr2, hl2⟩ := Cs.cauV_of_trod (hval 2 29 v2 rfl rfl) h2 hw2
  refine (walk_any t0 s0 A0 B0 C0 n0 m0 ne0 nk0 nc0 nd0 t1 s1 A1 B1 C1 n1 m1 ne1 nk1 nc1 nd1 t2 s2 A2 B2 C2 n2 m2 ne2 nk2 nc2 nd2 W hr0 hl0 hr1 hl1 hr2 hl2).mono fun e W' ⟨he, hb⟩ => ?_
  subst he
  exact ⟨_, rfl, law_post hW' (by kernel_rfl) rfl rfl rfl hb⟩
theorem proved : Rows.CausalLatticeSaid :=
  OpenClaim.holds_of_wide 5 Tryz.f5 rfl rfl rfl rfl rfl rfl rfl ⟨rfl, rfl, rfl, rfl, rfl⟩ rfl rfl rfl rfl rfl (by kernel_rfl) Tryz.func5 (by kernel_rfl)
    (of_decide_eq_true (by kernel_rfl)) (by unfold Func.isWrapper; first | (rw [if_pos (by decide +kernel)]; kernel_rfl) | (rw [if_neg (by decide +kernel)]; exact ⟨rfl, rfl⟩))
    (fun os started H enc _ => lifted os started H enc)
#print axioms proved
end lawCausalLattice
end Go.Proofs.YtcbclefemcmhpaaGreat
