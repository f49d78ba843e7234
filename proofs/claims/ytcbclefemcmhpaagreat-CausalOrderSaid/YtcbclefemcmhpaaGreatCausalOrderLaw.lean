/- CausalOrder: a law of layer 9, walked, and proved. -/
import Derived.Test.YtcbclefemcmhpaaGreatG00
import Derived.Test.YtcbclefemcmhpaaGreatG40
open Go.ChangeShapes Go.WideShapes Go.ChangeAt Go.RowKit
namespace Go.Proofs.YtcbclefemcmhpaaGreat
namespace lawCausalOrder
open Tr Cx Cs Sp Rw Classical
theorem boxL (w : World) (Ae Ak Ac : Option Addr) (ae1 ak1 ae2 ak2 ac1 ac2 : Nat) (Be Bk Bc : Option Addr) (be1 bk1 be2 bk2 bc1 bc2 : Nat) (Ce Ck Cc : Option Addr) (ce1 ck1 ce2 ck2 cc1 cc2 : Nat) : ∃ (W : World) (p q r : Nat), Hid (W = (((w.alloc (.cells #[.slice Ae ae1 ae2, .slice Ak ak1 ak2, .slice Ac ac1 ac2] 29)).alloc (.cells #[.slice Be be1 be2, .slice Bk bk1 bk2, .slice Bc bc1 bc2] 29)).alloc (.cells #[.slice Ce ce1 ce2, .slice Ck ck1 ck2, .slice Cc cc1 cc2] 29))) ∧ Hid (p = w.heap.size) ∧ Hid (q = p + 1) ∧ Hid (r = q + 1) ∧ Hid (Kept [(⟨p, 0, none⟩, .slice Ae ae1 ae2), (⟨p, 1, none⟩, .slice Ak ak1 ak2), (⟨p, 2, none⟩, .slice Ac ac1 ac2), (⟨q, 0, none⟩, .slice Be be1 be2), (⟨q, 1, none⟩, .slice Bk bk1 bk2), (⟨q, 2, none⟩, .slice Bc bc1 bc2), (⟨r, 0, none⟩, .slice Ce ce1 ce2), (⟨r, 1, none⟩, .slice Ck ck1 ck2), (⟨r, 2, none⟩, .slice Cc cc1 cc2)] w W) := by
  refine ⟨_, _, _, _, rfl, rfl, rfl, rfl, ?_⟩
  have h0 := Kept.nil_of (show Below w.heap.size w ((((w.alloc (.cells #[.slice Ae ae1 ae2, .slice Ak ak1 ak2, .slice Ac ac1 ac2] 29)).alloc (.cells #[.slice Be be1 be2, .slice Bk bk1 bk2, .slice Bc bc1 bc2] 29)).alloc (.cells #[.slice Ce ce1 ce2, .slice Ck ck1 ck2, .slice Cc cc1 cc2] 29))) from (((Below.refl _ _).alloc (Nat.le_refl _) _).alloc (by simp) _).alloc (by simp; omega) _)
  refine (((((((((h0).cons_of ?_).cons_of ?_).cons_of ?_).cons_of ?_).cons_of ?_).cons_of ?_).cons_of ?_).cons_of ?_).cons_of ?_ <;> go_simp
set_option maxRecDepth 100000 in
set_option maxHeartbeats 4000000 in
theorem walk_any (ta : T) (sa : List S3) (Ae Ak Ac : Option Addr) (ae1 ak1 ae2 ak2 ac1 ac2 : Nat) (tb : T) (sb : List S3) (Be Bk Bc : Option Addr) (be1 bk1 be2 bk2 bc1 bc2 : Nat) (tc : T) (sc : List S3) (Ce Ck Cc : Option Addr) (ce1 ck1 ce2 ck2 cc1 cc2 : Nat)  (w : World) (hra : RdP w ⟨(ta, sa), ⟨Ae, ae1, ae2⟩, ⟨Ak, ak1, ak2⟩, ⟨Ac, ac1, ac2⟩⟩) (hla : LenT reachBytes ta) (hrb : RdP w ⟨(tb, sb), ⟨Be, be1, be2⟩, ⟨Bk, bk1, bk2⟩, ⟨Bc, bc1, bc2⟩⟩) (hlb : LenT reachBytes tb) (hrc : RdP w ⟨(tc, sc), ⟨Ce, ce1, ce2⟩, ⟨Ck, ck1, ck2⟩, ⟨Cc, cc1, cc2⟩⟩) (hlc : LenT reachBytes tc)  :
    Calls Tryz.prog 7 #[.agg #[.slice Ae ae1 ae2, .slice Ak ak1 ak2, .slice Ac ac1 ac2], .agg #[.slice Be be1 be2, .slice Bk bk1 bk2, .slice Bc bc1 bc2], .agg #[.slice Ce ce1 ce2, .slice Ck ck1 ck2, .slice Cc cc1 cc2]] w fun e w' => e = .returned (.bool true) ∧ Below w.heap.size w w' := by
  obtain ⟨W, p, q, r, HW, HP, HQ, HR, HKc⟩ := boxL w Ae Ak Ac ae1 ak1 ae2 ak2 ac1 ac2 Be Bk Bc be1 bk1 be2 bk2 bc1 bc2 Ce Ck Cc ce1 ck1 ce2 ck2 cc1 cc2
  have Ra := Lib.hid (hra.later HKc.out.below)
  have La := Lib.hid hla
  have Rb := Lib.hid (hrb.later HKc.out.below)
  have Lb := Lib.hid hlb
  have Rc := Lib.hid (hrc.later HKc.out.below)
  have Lc := Lib.hid hlc
  clear hra hla hrb hlb hrc hlc
  have c0 := HKc.out.c0
  have c1 := HKc.out.c1
  have c2 := HKc.out.c2
  have c3 := HKc.out.c3
  have c4 := HKc.out.c4
  have c5 := HKc.out.c5
  have c6 := HKc.out.c6
  have c7 := HKc.out.c7
  have c8 := HKc.out.tail.tail.tail.tail.tail.tail.tail.tail.c0
  go_enter Tryz.func7, Tryz.ntmps7
  go_wp2_with fail
  rw [← HW.out, ← HP.out, ← HQ.out, ← HR.out]
  refine (awake_any W).mono ?_
  rintro e v1 ⟨rfl, hb9⟩
  have Ra := Lib.hid (Ra.out.later hb9)
  have Rb := Lib.hid (Rb.out.later hb9)
  have Rc := Lib.hid (Rc.out.later hb9)
  have HKc := Lib.hid (HKc.out.later hb9)
  clear hb9
  clear c0 c1 c2 c3 c4 c5 c6 c7 c8
  have c0 := HKc.out.c0
  have c1 := HKc.out.c1
  have c2 := HKc.out.c2
  have c3 := HKc.out.c3
  have c4 := HKc.out.c4
  have c5 := HKc.out.c5
  have c6 := HKc.out.c6
  have c7 := HKc.out.c7
  have c8 := HKc.out.tail.tail.tail.tail.tail.tail.tail.tail.c0
  obtain ⟨g2, hg2⟩ : ∃ g, g = v1.heap.size := ⟨_, rfl⟩
  obtain ⟨v2, hv2⟩ : ∃ W, W = v1.alloc (.cells #[.slice Ae ae1 ae2, .slice Ak ak1 ak2, .slice Ac ac1 ac2, .slice Be be1 be2, .slice Bk bk1 bk2, .slice Bc bc1 bc2, .slice Ce ce1 ce2, .slice Ck ck1 ck2, .slice Cc cc1 cc2] 29) := ⟨_, rfl⟩
  have hb9 : Below v1.heap.size v1 v2 := by rw [hv2]; exact Dt.box_below _ _ _
  have HCP : Hid (CellsP v2 g2 [⟨(ta, sa), ⟨Ae, ae1, ae2⟩, ⟨Ak, ak1, ak2⟩, ⟨Ac, ac1, ac2⟩⟩, ⟨(tb, sb), ⟨Be, be1, be2⟩, ⟨Bk, bk1, bk2⟩, ⟨Bc, bc1, bc2⟩⟩, ⟨(tc, sc), ⟨Ce, ce1, ce2⟩, ⟨Ck, ck1, ck2⟩, ⟨Cc, cc1, cc2⟩⟩]) := by
    intro k hk
    simp at hk
    rcases (by omega : k = 0 ∨ k = 1 ∨ k = 2) with rfl | rfl | rfl <;> refine ⟨?_, ?_, ?_⟩ <;> (rw [hv2, hg2]; go_simp)
  have Hg2 := Lib.hid hg2
  have Hv2 := Lib.hid hv2
  clear hg2 hv2
  have Ra := Lib.hid (Ra.out.later hb9)
  have Rb := Lib.hid (Rb.out.later hb9)
  have Rc := Lib.hid (Rc.out.later hb9)
  have HKc := Lib.hid (HKc.out.later hb9)
  clear hb9
  have HPS : Hid (∀ p ∈ ([⟨(ta, sa), ⟨Ae, ae1, ae2⟩, ⟨Ak, ak1, ak2⟩, ⟨Ac, ac1, ac2⟩⟩, ⟨(tb, sb), ⟨Be, be1, be2⟩, ⟨Bk, bk1, bk2⟩, ⟨Bc, bc1, bc2⟩⟩, ⟨(tc, sc), ⟨Ce, ce1, ce2⟩, ⟨Ck, ck1, ck2⟩, ⟨Cc, cc1, cc2⟩⟩] : List CP), RdP v2 p) := by
    intro p hp
    simp at hp
    rcases hp with rfl | rfl | rfl
    · exact Ra.out
    · exact Rb.out
    · exact Rc.out
  have HLT : Hid (∀ p ∈ ([⟨(ta, sa), ⟨Ae, ae1, ae2⟩, ⟨Ak, ak1, ak2⟩, ⟨Ac, ac1, ac2⟩⟩, ⟨(tb, sb), ⟨Be, be1, be2⟩, ⟨Bk, bk1, bk2⟩, ⟨Bc, bc1, bc2⟩⟩, ⟨(tc, sc), ⟨Ce, ce1, ce2⟩, ⟨Ck, ck1, ck2⟩, ⟨Cc, cc1, cc2⟩⟩] : List CP), LenT reachBytes p.k.1) := by
    intro p hp
    simp at hp
    rcases hp with rfl | rfl | rfl
    · exact La.out
    · exact Lb.out
    · exact Lc.out
  have HSM := Lib.hid (small_any9 [⟨(ta, sa), ⟨Ae, ae1, ae2⟩, ⟨Ak, ak1, ak2⟩, ⟨Ac, ac1, ac2⟩⟩, ⟨(tb, sb), ⟨Be, be1, be2⟩, ⟨Bk, bk1, bk2⟩, ⟨Bc, bc1, bc2⟩⟩, ⟨(tc, sc), ⟨Ce, ce1, ce2⟩, ⟨Ck, ck1, ck2⟩, ⟨Cc, cc1, cc2⟩⟩] 3 g2 3 v2 rfl (by omega) HCP.out HPS.out HLT.out)
  clear HCP HPS HLT
  go_wp2_with fail
  rw [← Hv2.out, ← Hg2.out]
  refine HSM.out.mono ?_
  rintro e v3 ⟨b, rfl, hsm, hb9⟩
  have Ra := Lib.hid (Ra.out.later hb9)
  have Rb := Lib.hid (Rb.out.later hb9)
  have Rc := Lib.hid (Rc.out.later hb9)
  have HKc := Lib.hid (HKc.out.later hb9)
  clear hb9
  clear c0 c1 c2 c3 c4 c5 c6 c7 c8 HSM
  cases b with
  | false =>
    clear hsm
    go_wp2_with fail
    refine (awake_any _).mono ?_
    rintro e v9 ⟨rfl, hb9⟩
    have HKc := Lib.hid (HKc.out.later hb9)
    clear hb9
    go_wp2_with fail
    go_ret
    exact ⟨rfl, HKc.out.below⟩
  | true =>
    have hsa := hsm rfl ⟨(ta, sa), ⟨Ae, ae1, ae2⟩, ⟨Ak, ak1, ak2⟩, ⟨Ac, ac1, ac2⟩⟩ (by simp)
    have Na : Hid (nodes ta ≤ 40) := hsa.1
    have Qa : Hid (ac1 ≤ 40) := hsa.2
    have hsb := hsm rfl ⟨(tb, sb), ⟨Be, be1, be2⟩, ⟨Bk, bk1, bk2⟩, ⟨Bc, bc1, bc2⟩⟩ (by simp)
    have Nb : Hid (nodes tb ≤ 40) := hsb.1
    have Qb : Hid (bc1 ≤ 40) := hsb.2
    have hsc := hsm rfl ⟨(tc, sc), ⟨Ce, ce1, ce2⟩, ⟨Ck, ck1, ck2⟩, ⟨Cc, cc1, cc2⟩⟩ (by simp)
    have Nc : Hid (nodes tc ≤ 40) := hsc.1
    have Qc : Hid (cc1 ≤ 40) := hsc.2
    clear hsm hsa hsb hsc
    have c0 := HKc.out.c0
    have c1 := HKc.out.c1
    have c2 := HKc.out.c2
    have c3 := HKc.out.c3
    have c4 := HKc.out.c4
    have c5 := HKc.out.c5
    have c6 := HKc.out.c6
    have c7 := HKc.out.c7
    have c8 := HKc.out.tail.tail.tail.tail.tail.tail.tail.tail.c0
    obtain ⟨g4, hg4⟩ : ∃ g, g = v3.heap.size := ⟨_, rfl⟩
    obtain ⟨v4, hv4⟩ : ∃ W, W = v3.alloc (.cells #[.slice Ae ae1 ae2, .slice Ak ak1 ak2, .slice Ac ac1 ac2, .slice Be be1 be2, .slice Bk bk1 bk2, .slice Bc bc1 bc2, .slice Ce ce1 ce2, .slice Ck ck1 ck2, .slice Cc cc1 cc2] 29) := ⟨_, rfl⟩
    have hb9 : Below v3.heap.size v3 v4 := by rw [hv4]; exact Dt.box_below _ _ _
    have HCP : Hid (CellsP v4 g4 [⟨(ta, sa), ⟨Ae, ae1, ae2⟩, ⟨Ak, ak1, ak2⟩, ⟨Ac, ac1, ac2⟩⟩, ⟨(tb, sb), ⟨Be, be1, be2⟩, ⟨Bk, bk1, bk2⟩, ⟨Bc, bc1, bc2⟩⟩, ⟨(tc, sc), ⟨Ce, ce1, ce2⟩, ⟨Ck, ck1, ck2⟩, ⟨Cc, cc1, cc2⟩⟩]) := by
      intro k hk
      simp at hk
      rcases (by omega : k = 0 ∨ k = 1 ∨ k = 2) with rfl | rfl | rfl <;> refine ⟨?_, ?_, ?_⟩ <;> (rw [hv4, hg4]; go_simp)
    have Hg4 := Lib.hid hg4
    have Hv4 := Lib.hid hv4
    clear hg4 hv4
    have Ra := Lib.hid (Ra.out.later hb9)
    have Rb := Lib.hid (Rb.out.later hb9)
    have Rc := Lib.hid (Rc.out.later hb9)
    have HKc := Lib.hid (HKc.out.later hb9)
    clear hb9
    have HPS : Hid (∀ p ∈ ([⟨(ta, sa), ⟨Ae, ae1, ae2⟩, ⟨Ak, ak1, ak2⟩, ⟨Ac, ac1, ac2⟩⟩, ⟨(tb, sb), ⟨Be, be1, be2⟩, ⟨Bk, bk1, bk2⟩, ⟨Bc, bc1, bc2⟩⟩, ⟨(tc, sc), ⟨Ce, ce1, ce2⟩, ⟨Ck, ck1, ck2⟩, ⟨Cc, cc1, cc2⟩⟩] : List CP), RdP v4 p) := by
      intro p hp
      simp at hp
      rcases hp with rfl | rfl | rfl
      · exact Ra.out
      · exact Rb.out
      · exact Rc.out
    have HLT : Hid (∀ p ∈ ([⟨(ta, sa), ⟨Ae, ae1, ae2⟩, ⟨Ak, ak1, ak2⟩, ⟨Ac, ac1, ac2⟩⟩, ⟨(tb, sb), ⟨Be, be1, be2⟩, ⟨Bk, bk1, bk2⟩, ⟨Bc, bc1, bc2⟩⟩, ⟨(tc, sc), ⟨Ce, ce1, ce2⟩, ⟨Ck, ck1, ck2⟩, ⟨Cc, cc1, cc2⟩⟩] : List CP), nodes p.k.1 ≤ 200 ∧ p.c.n ≤ 1000) := by
      intro p hp
      simp at hp
      rcases hp with rfl | rfl | rfl
      · exact ⟨by have := Na.out; show nodes ta ≤ 200; omega, by have := Qa.out; show ac1 ≤ 1000; omega⟩
      · exact ⟨by have := Nb.out; show nodes tb ≤ 200; omega, by have := Qb.out; show bc1 ≤ 1000; omega⟩
      · exact ⟨by have := Nc.out; show nodes tc ≤ 200; omega, by have := Qc.out; show cc1 ≤ 1000; omega⟩
    obtain ⟨z, hz⟩ : ∃ z, ([⟨(ta, sa), ⟨Ae, ae1, ae2⟩, ⟨Ak, ak1, ak2⟩, ⟨Ac, ac1, ac2⟩⟩, ⟨(tb, sb), ⟨Be, be1, be2⟩, ⟨Bk, bk1, bk2⟩, ⟨Bc, bc1, bc2⟩⟩, ⟨(tc, sc), ⟨Ce, ce1, ce2⟩, ⟨Ck, ck1, ck2⟩, ⟨Cc, cc1, cc2⟩⟩] : List CP).all (fun p => rightKB p.k) = z := ⟨_, rfl⟩
    have HRT := Lib.hid (right_any9 [⟨(ta, sa), ⟨Ae, ae1, ae2⟩, ⟨Ak, ak1, ak2⟩, ⟨Ac, ac1, ac2⟩⟩, ⟨(tb, sb), ⟨Be, be1, be2⟩, ⟨Bk, bk1, bk2⟩, ⟨Bc, bc1, bc2⟩⟩, ⟨(tc, sc), ⟨Ce, ce1, ce2⟩, ⟨Ck, ck1, ck2⟩, ⟨Cc, cc1, cc2⟩⟩] 3 g4 3 v4 rfl (by omega) HCP.out HPS.out HLT.out z hz)
    have HZ := Lib.hid hz
    clear HCP HPS HLT hz
    go_wp2_with fail
    rw [← Hv4.out, ← Hg4.out]
    refine HRT.out.mono ?_
    rintro e v5 ⟨rfl, hb9⟩
    have Ra := Lib.hid (Ra.out.later hb9)
    have Rb := Lib.hid (Rb.out.later hb9)
    have Rc := Lib.hid (Rc.out.later hb9)
    have HKc := Lib.hid (HKc.out.later hb9)
    clear hb9
    clear c0 c1 c2 c3 c4 c5 c6 c7 c8 HRT
    cases z with
    | false =>
      clear HZ
      go_wp2_with fail
      refine (awake_any _).mono ?_
      rintro e v9 ⟨rfl, hb9⟩
      have HKc := Lib.hid (HKc.out.later hb9)
      clear hb9
      go_wp2_with fail
      go_ret
      exact ⟨rfl, HKc.out.below⟩
    | true =>
      have hz := HZ.out
      rw [List.all_eq_true] at hz
      have Ka : Hid (RK (ta, sa)) := rightKB_iff.1 (hz ⟨(ta, sa), ⟨Ae, ae1, ae2⟩, ⟨Ak, ak1, ak2⟩, ⟨Ac, ac1, ac2⟩⟩ (by simp))
      have Kb : Hid (RK (tb, sb)) := rightKB_iff.1 (hz ⟨(tb, sb), ⟨Be, be1, be2⟩, ⟨Bk, bk1, bk2⟩, ⟨Bc, bc1, bc2⟩⟩ (by simp))
      have Kc : Hid (RK (tc, sc)) := rightKB_iff.1 (hz ⟨(tc, sc), ⟨Ce, ce1, ce2⟩, ⟨Ck, ck1, ck2⟩, ⟨Cc, cc1, cc2⟩⟩ (by simp))
      clear hz HZ
      have c0 := HKc.out.c0
      have c1 := HKc.out.c1
      have c2 := HKc.out.c2
      have c3 := HKc.out.c3
      have c4 := HKc.out.c4
      have c5 := HKc.out.c5
      have c6 := HKc.out.c6
      have c7 := HKc.out.c7
      have c8 := HKc.out.tail.tail.tail.tail.tail.tail.tail.tail.c0
      obtain ⟨p9, hp9⟩ : ∃ z, leqB (ta, sa) (tb, sb) = z := ⟨_, rfl⟩
      obtain ⟨q9, hq9⟩ : ∃ z, leqB (tb, sb) (ta, sa) = z := ⟨_, rfl⟩
      obtain ⟨r9, hr9⟩ : ∃ z, leqB (tb, sb) (tc, sc) = z := ⟨_, rfl⟩
      obtain ⟨t9, ht9⟩ : ∃ z, leqB (ta, sa) (tc, sc) = z := ⟨_, rfl⟩
      have HAN : Hid (sameKB (ta, sa) (tb, sb) = (p9 && q9)) := by
        unfold Hid
        rw [← hp9, ← hq9, leq_anti Ka.out Kb.out]
        unfold sameKB
        rw [rightKB_iff.2 Ka.out]
        rfl
      have HTR : Hid ((!p9 || (!r9 || t9)) = true) := by
        unfold Hid
        cases h1 : p9 with
        | false => rfl
        | true =>
          cases h2 : r9 with
          | false => rfl
          | true =>
            rw [← ht9]
            exact leq_trans Ka.out Kb.out Kc.out (hp9.trans h1) (hr9.trans h2)
      have HP9 := Lib.hid hp9
      have HQ9 := Lib.hid hq9
      have HR9 := Lib.hid hr9
      have HT9 := Lib.hid ht9
      clear hp9 hq9 hr9 ht9 c0 c1 c2 c3 c4 c5 c6 c7 c8
      go_wp2_with fail
      refine wp_region_held_drew (S := fun W => W.cell? ⟨p, 0, none⟩ = some (.slice Ae ae1 ae2) ∧ W.cell? ⟨p, 1, none⟩ = some (.slice Ak ak1 ak2) ∧ W.cell? ⟨p, 2, none⟩ = some (.slice Ac ac1 ac2) ∧ W.cell? ⟨q, 0, none⟩ = some (.slice Be be1 be2) ∧ W.cell? ⟨q, 1, none⟩ = some (.slice Bk bk1 bk2) ∧ W.cell? ⟨q, 2, none⟩ = some (.slice Bc bc1 bc2) ∧ W.cell? ⟨r, 0, none⟩ = some (.slice Ce ce1 ce2) ∧ W.cell? ⟨r, 1, none⟩ = some (.slice Ck ck1 ck2) ∧ W.cell? ⟨r, 2, none⟩ = some (.slice Cc cc1 cc2)) (by kernel_rfl) (by have h9 := HKc.out.drew; exact ⟨h9.c0, h9.c1, h9.c2, h9.c3, h9.c4, h9.c5, h9.c6, h9.c7, h9.tail.tail.tail.tail.tail.tail.tail.tail.c0⟩) (fun hHeld => ?_)
      obtain ⟨w1, hw1⟩ : ∃ v, v = v5.drew := ⟨_, rfl⟩
      have HKc : Hid (Kept [(⟨p, 0, none⟩, .slice Ae ae1 ae2), (⟨p, 1, none⟩, .slice Ak ak1 ak2), (⟨p, 2, none⟩, .slice Ac ac1 ac2), (⟨q, 0, none⟩, .slice Be be1 be2), (⟨q, 1, none⟩, .slice Bk bk1 bk2), (⟨q, 2, none⟩, .slice Bc bc1 bc2), (⟨r, 0, none⟩, .slice Ce ce1 ce2), (⟨r, 1, none⟩, .slice Ck ck1 ck2), (⟨r, 2, none⟩, .slice Cc cc1 cc2)] w w1) := by unfold Hid; rw [hw1]; exact HKc.out.drew
      have Ra : Hid (RdP w1 ⟨(ta, sa), ⟨Ae, ae1, ae2⟩, ⟨Ak, ak1, ak2⟩, ⟨Ac, ac1, ac2⟩⟩) := by unfold Hid; rw [hw1]; exact Ra.out.later ((Below.refl _ _).drew)
      have Rb : Hid (RdP w1 ⟨(tb, sb), ⟨Be, be1, be2⟩, ⟨Bk, bk1, bk2⟩, ⟨Bc, bc1, bc2⟩⟩) := by unfold Hid; rw [hw1]; exact Rb.out.later ((Below.refl _ _).drew)
      have Rc : Hid (RdP w1 ⟨(tc, sc), ⟨Ce, ce1, ce2⟩, ⟨Ck, ck1, ck2⟩, ⟨Cc, cc1, cc2⟩⟩) := by unfold Hid; rw [hw1]; exact Rc.out.later ((Below.refl _ _).drew)
      rw [← hw1] at hHeld ⊢
      clear hw1
      refine Tk 0 28 ?_
      refine Tk 1 29 ?_
      refine Tk 3 31 ?_
      refine Tk 4 32 ?_
      refine wpAnyH_ready (rs := [2]) (by kernel_rfl) (by simp) ?_
      refine AllReadyH.cons (o := ⟨some 30, _, _, _, _, _⟩) rfl (fun K hK => ?_) AllReadyH.nil
      go_simp
      (go_at_call 23; refine (leqK_any ta tb sa sb Ae Ak Ac Be Bk Bc ae1 ak1 ae2 ak2 ac1 ac2 be1 bk1 be2 bk2 bc1 bc2 _ (by have := Na.out; omega) Ra.out.len (by have := Qa.out; omega) Ra.out.tree Ra.out.ctx (by have := Nb.out; omega) Rb.out.len (by have := Qb.out; omega) Rb.out.tree Rb.out.ctx (by have := Na.out; have := Nb.out; omega) (by have := Qa.out; have := Qb.out; omega) p9 (by rw [show rightKB (ta, sa) = true from rightKB_iff.2 Ka.out]; (try rw [show rightKB (tb, sb) = true from rightKB_iff.2 Kb.out]); exact HP9.out)).mono ?_)
      rintro e y1 ⟨rfl, hb9⟩
      have Ra := Lib.hid (Ra.out.later hb9)
      have Rb := Lib.hid (Rb.out.later hb9)
      have Rc := Lib.hid (Rc.out.later hb9)
      have HKc := Lib.hid (HKc.out.later hb9)
      clear hb9
      refine hK.out _ _ ?_ (fun hHeld2 => ?_)
      · exact ⟨HKc.out.c0, HKc.out.c1, HKc.out.c2, HKc.out.c3, HKc.out.c4, HKc.out.c5, HKc.out.c6, HKc.out.c7, HKc.out.tail.tail.tail.tail.tail.tail.tail.tail.c0⟩
      clear hK K hHeld
      have hHeld := hHeld2
      clear hHeld2
      try simp only [Act.put, List.setIfInBounds_toArray, List.set_cons_zero, List.set_cons_succ]
      refine wpAnyH_ready (rs := [5]) (by kernel_rfl) (by simp) ?_
      refine AllReadyH.cons (o := ⟨some 33, _, _, _, _, _⟩) rfl (fun K hK => ?_) AllReadyH.nil
      go_simp
      (go_at_call 23; refine (leqK_any tb ta sb sa Be Bk Bc Ae Ak Ac be1 bk1 be2 bk2 bc1 bc2 ae1 ak1 ae2 ak2 ac1 ac2 _ (by have := Nb.out; omega) Rb.out.len (by have := Qb.out; omega) Rb.out.tree Rb.out.ctx (by have := Na.out; omega) Ra.out.len (by have := Qa.out; omega) Ra.out.tree Ra.out.ctx (by have := Nb.out; have := Na.out; omega) (by have := Qb.out; have := Qa.out; omega) q9 (by rw [show rightKB (tb, sb) = true from rightKB_iff.2 Kb.out]; (try rw [show rightKB (ta, sa) = true from rightKB_iff.2 Ka.out]); exact HQ9.out)).mono ?_)
      rintro e y2 ⟨rfl, hb9⟩
      have Ra := Lib.hid (Ra.out.later hb9)
      have Rb := Lib.hid (Rb.out.later hb9)
      have Rc := Lib.hid (Rc.out.later hb9)
      have HKc := Lib.hid (HKc.out.later hb9)
      clear hb9
      refine hK.out _ _ ?_ (fun hHeld2 => ?_)
      · exact ⟨HKc.out.c0, HKc.out.c1, HKc.out.c2, HKc.out.c3, HKc.out.c4, HKc.out.c5, HKc.out.c6, HKc.out.c7, HKc.out.tail.tail.tail.tail.tail.tail.tail.tail.c0⟩
      clear hK K hHeld
      have hHeld := hHeld2
      clear hHeld2
      try simp only [Act.put, List.setIfInBounds_toArray, List.set_cons_zero, List.set_cons_succ]
      refine Tk 6 7 ?_
      refine Tk 7 8 ?_
      refine wpAnyH_done (by kernel_rfl) ?_ _
      clear hHeld
      have c0 := HKc.out.c0
      have c1 := HKc.out.c1
      have c2 := HKc.out.c2
      have c3 := HKc.out.c3
      have c4 := HKc.out.c4
      have c5 := HKc.out.c5
      have c6 := HKc.out.c6
      have c7 := HKc.out.c7
      have c8 := HKc.out.tail.tail.tail.tail.tail.tail.tail.tail.c0
      go_wp2_with fail
      refine (leqK_any ta ta sa sa Ae Ak Ac Ae Ak Ac ae1 ak1 ae2 ak2 ac1 ac2 ae1 ak1 ae2 ak2 ac1 ac2 _ (by have := Na.out; omega) Ra.out.len (by have := Qa.out; omega) Ra.out.tree Ra.out.ctx (by have := Na.out; omega) Ra.out.len (by have := Qa.out; omega) Ra.out.tree Ra.out.ctx (by have := Na.out; have := Na.out; omega) (by have := Qa.out; have := Qa.out; omega) true (by rw [show rightKB (ta, sa) = true from rightKB_iff.2 Ka.out]; (try rw [show rightKB (ta, sa) = true from rightKB_iff.2 Ka.out]); exact leq_refl Ka.out)).mono ?_
      rintro e y3 ⟨rfl, hb9⟩
      have Ra := Lib.hid (Ra.out.later hb9)
      have Rb := Lib.hid (Rb.out.later hb9)
      have Rc := Lib.hid (Rc.out.later hb9)
      have HKc := Lib.hid (HKc.out.later hb9)
      clear hb9
      clear c0 c1 c2 c3 c4 c5 c6 c7 c8
      cases p9 with
      | false =>
        cases q9 with
        | false =>
          have c0 := HKc.out.c0
          have c1 := HKc.out.c1
          have c2 := HKc.out.c2
          have c3 := HKc.out.c3
          have c4 := HKc.out.c4
          have c5 := HKc.out.c5
          have c6 := HKc.out.c6
          have c7 := HKc.out.c7
          have c8 := HKc.out.tail.tail.tail.tail.tail.tail.tail.tail.c0
          go_wp2_with fail
          refine (sameK_any ta tb sa sb Ae Ak Ac Be Bk Bc ae1 ak1 ae2 ak2 ac1 ac2 be1 bk1 be2 bk2 bc1 bc2 _ (by have := Na.out; omega) Ra.out.len (by have := Qa.out; omega) Ra.out.tree Ra.out.ctx (by have := Nb.out; omega) Rb.out.len (by have := Qb.out; omega) Rb.out.tree Rb.out.ctx).mono ?_
          rw [show sameKB (ta, sa) (tb, sb) = _ from HAN.out]
          rintro e y4 ⟨rfl, hb9⟩
          have Ra := Lib.hid (Ra.out.later hb9)
          have Rb := Lib.hid (Rb.out.later hb9)
          have Rc := Lib.hid (Rc.out.later hb9)
          have HKc := Lib.hid (HKc.out.later hb9)
          clear hb9
          clear c0 c1 c2 c3 c4 c5 c6 c7 c8
          have c0 := HKc.out.c0
          have c1 := HKc.out.c1
          have c2 := HKc.out.c2
          have c3 := HKc.out.c3
          have c4 := HKc.out.c4
          have c5 := HKc.out.c5
          have c6 := HKc.out.c6
          have c7 := HKc.out.c7
          have c8 := HKc.out.tail.tail.tail.tail.tail.tail.tail.tail.c0
          go_wp2_with fail
          refine (leqK_any none_ ta [] sa none none none Ae Ak Ac 0 0 0 0 0 0 ae1 ak1 ae2 ak2 ac1 ac2 _ (by rw [nodes_none]; omega) rfl (by omega) (RdP.zero _).tree (RdP.zero _).ctx (by have := Na.out; omega) Ra.out.len (by have := Qa.out; omega) Ra.out.tree Ra.out.ctx (by rw [nodes_none]; have := Na.out; omega) (by have := Qa.out; omega) true (by rw [show rightKB (none_, []) = true from rightKB_iff.2 right_noneK, show rightKB (ta, sa) = true from rightKB_iff.2 Ka.out]; exact leq_none Ka.out)).mono ?_
          rintro e y8 ⟨rfl, hb9⟩
          have Ra := Lib.hid (Ra.out.later hb9)
          have Rb := Lib.hid (Rb.out.later hb9)
          have Rc := Lib.hid (Rc.out.later hb9)
          have HKc := Lib.hid (HKc.out.later hb9)
          clear hb9
          clear c0 c1 c2 c3 c4 c5 c6 c7 c8
          go_wp2_with fail
          go_ret
          exact ⟨by first | rfl | simp, HKc.out.below⟩
        | true =>
          have c0 := HKc.out.c0
          have c1 := HKc.out.c1
          have c2 := HKc.out.c2
          have c3 := HKc.out.c3
          have c4 := HKc.out.c4
          have c5 := HKc.out.c5
          have c6 := HKc.out.c6
          have c7 := HKc.out.c7
          have c8 := HKc.out.tail.tail.tail.tail.tail.tail.tail.tail.c0
          go_wp2_with fail
          refine (sameK_any ta tb sa sb Ae Ak Ac Be Bk Bc ae1 ak1 ae2 ak2 ac1 ac2 be1 bk1 be2 bk2 bc1 bc2 _ (by have := Na.out; omega) Ra.out.len (by have := Qa.out; omega) Ra.out.tree Ra.out.ctx (by have := Nb.out; omega) Rb.out.len (by have := Qb.out; omega) Rb.out.tree Rb.out.ctx).mono ?_
          rw [show sameKB (ta, sa) (tb, sb) = _ from HAN.out]
          rintro e y4 ⟨rfl, hb9⟩
          have Ra := Lib.hid (Ra.out.later hb9)
          have Rb := Lib.hid (Rb.out.later hb9)
          have Rc := Lib.hid (Rc.out.later hb9)
          have HKc := Lib.hid (HKc.out.later hb9)
          clear hb9
          clear c0 c1 c2 c3 c4 c5 c6 c7 c8
          have c0 := HKc.out.c0
          have c1 := HKc.out.c1
          have c2 := HKc.out.c2
          have c3 := HKc.out.c3
          have c4 := HKc.out.c4
          have c5 := HKc.out.c5
          have c6 := HKc.out.c6
          have c7 := HKc.out.c7
          have c8 := HKc.out.tail.tail.tail.tail.tail.tail.tail.tail.c0
          go_wp2_with fail
          refine (leqK_any none_ ta [] sa none none none Ae Ak Ac 0 0 0 0 0 0 ae1 ak1 ae2 ak2 ac1 ac2 _ (by rw [nodes_none]; omega) rfl (by omega) (RdP.zero _).tree (RdP.zero _).ctx (by have := Na.out; omega) Ra.out.len (by have := Qa.out; omega) Ra.out.tree Ra.out.ctx (by rw [nodes_none]; have := Na.out; omega) (by have := Qa.out; omega) true (by rw [show rightKB (none_, []) = true from rightKB_iff.2 right_noneK, show rightKB (ta, sa) = true from rightKB_iff.2 Ka.out]; exact leq_none Ka.out)).mono ?_
          rintro e y8 ⟨rfl, hb9⟩
          have Ra := Lib.hid (Ra.out.later hb9)
          have Rb := Lib.hid (Rb.out.later hb9)
          have Rc := Lib.hid (Rc.out.later hb9)
          have HKc := Lib.hid (HKc.out.later hb9)
          clear hb9
          clear c0 c1 c2 c3 c4 c5 c6 c7 c8
          go_wp2_with fail
          go_ret
          exact ⟨by first | rfl | simp, HKc.out.below⟩
      | true =>
        cases q9 with
        | false =>
          have c0 := HKc.out.c0
          have c1 := HKc.out.c1
          have c2 := HKc.out.c2
          have c3 := HKc.out.c3
          have c4 := HKc.out.c4
          have c5 := HKc.out.c5
          have c6 := HKc.out.c6
          have c7 := HKc.out.c7
          have c8 := HKc.out.tail.tail.tail.tail.tail.tail.tail.tail.c0
          go_wp2_with fail
          refine (sameK_any ta tb sa sb Ae Ak Ac Be Bk Bc ae1 ak1 ae2 ak2 ac1 ac2 be1 bk1 be2 bk2 bc1 bc2 _ (by have := Na.out; omega) Ra.out.len (by have := Qa.out; omega) Ra.out.tree Ra.out.ctx (by have := Nb.out; omega) Rb.out.len (by have := Qb.out; omega) Rb.out.tree Rb.out.ctx).mono ?_
          rw [show sameKB (ta, sa) (tb, sb) = _ from HAN.out]
          rintro e y4 ⟨rfl, hb9⟩
          have Ra := Lib.hid (Ra.out.later hb9)
          have Rb := Lib.hid (Rb.out.later hb9)
          have Rc := Lib.hid (Rc.out.later hb9)
          have HKc := Lib.hid (HKc.out.later hb9)
          clear hb9
          clear c0 c1 c2 c3 c4 c5 c6 c7 c8
          have c0 := HKc.out.c0
          have c1 := HKc.out.c1
          have c2 := HKc.out.c2
          have c3 := HKc.out.c3
          have c4 := HKc.out.c4
          have c5 := HKc.out.c5
          have c6 := HKc.out.c6
          have c7 := HKc.out.c7
          have c8 := HKc.out.tail.tail.tail.tail.tail.tail.tail.tail.c0
          go_wp2_with fail
          refine (leqK_any tb tc sb sc Be Bk Bc Ce Ck Cc be1 bk1 be2 bk2 bc1 bc2 ce1 ck1 ce2 ck2 cc1 cc2 _ (by have := Nb.out; omega) Rb.out.len (by have := Qb.out; omega) Rb.out.tree Rb.out.ctx (by have := Nc.out; omega) Rc.out.len (by have := Qc.out; omega) Rc.out.tree Rc.out.ctx (by have := Nb.out; have := Nc.out; omega) (by have := Qb.out; have := Qc.out; omega) r9 (by rw [show rightKB (tb, sb) = true from rightKB_iff.2 Kb.out]; (try rw [show rightKB (tc, sc) = true from rightKB_iff.2 Kc.out]); exact HR9.out)).mono ?_
          rintro e y5 ⟨rfl, hb9⟩
          have Ra := Lib.hid (Ra.out.later hb9)
          have Rb := Lib.hid (Rb.out.later hb9)
          have Rc := Lib.hid (Rc.out.later hb9)
          have HKc := Lib.hid (HKc.out.later hb9)
          clear hb9
          clear c0 c1 c2 c3 c4 c5 c6 c7 c8
          cases r9 with
          | false =>
            have c0 := HKc.out.c0
            have c1 := HKc.out.c1
            have c2 := HKc.out.c2
            have c3 := HKc.out.c3
            have c4 := HKc.out.c4
            have c5 := HKc.out.c5
            have c6 := HKc.out.c6
            have c7 := HKc.out.c7
            have c8 := HKc.out.tail.tail.tail.tail.tail.tail.tail.tail.c0
            go_wp2_with fail
            refine (leqK_any none_ ta [] sa none none none Ae Ak Ac 0 0 0 0 0 0 ae1 ak1 ae2 ak2 ac1 ac2 _ (by rw [nodes_none]; omega) rfl (by omega) (RdP.zero _).tree (RdP.zero _).ctx (by have := Na.out; omega) Ra.out.len (by have := Qa.out; omega) Ra.out.tree Ra.out.ctx (by rw [nodes_none]; have := Na.out; omega) (by have := Qa.out; omega) true (by rw [show rightKB (none_, []) = true from rightKB_iff.2 right_noneK, show rightKB (ta, sa) = true from rightKB_iff.2 Ka.out]; exact leq_none Ka.out)).mono ?_
            rintro e y8 ⟨rfl, hb9⟩
            have Ra := Lib.hid (Ra.out.later hb9)
            have Rb := Lib.hid (Rb.out.later hb9)
            have Rc := Lib.hid (Rc.out.later hb9)
            have HKc := Lib.hid (HKc.out.later hb9)
            clear hb9
            clear c0 c1 c2 c3 c4 c5 c6 c7 c8
            go_wp2_with fail
            go_ret
            exact ⟨by first | rfl | simp, HKc.out.below⟩
          | true =>
            have ht : t9 = true := by have h := HTR.out; simpa using h
            subst ht
            have c0 := HKc.out.c0
            have c1 := HKc.out.c1
            have c2 := HKc.out.c2
            have c3 := HKc.out.c3
            have c4 := HKc.out.c4
            have c5 := HKc.out.c5
            have c6 := HKc.out.c6
            have c7 := HKc.out.c7
            have c8 := HKc.out.tail.tail.tail.tail.tail.tail.tail.tail.c0
            go_wp2_with fail
            refine (leqK_any ta tc sa sc Ae Ak Ac Ce Ck Cc ae1 ak1 ae2 ak2 ac1 ac2 ce1 ck1 ce2 ck2 cc1 cc2 _ (by have := Na.out; omega) Ra.out.len (by have := Qa.out; omega) Ra.out.tree Ra.out.ctx (by have := Nc.out; omega) Rc.out.len (by have := Qc.out; omega) Rc.out.tree Rc.out.ctx (by have := Na.out; have := Nc.out; omega) (by have := Qa.out; have := Qc.out; omega) true (by rw [show rightKB (ta, sa) = true from rightKB_iff.2 Ka.out]; (try rw [show rightKB (tc, sc) = true from rightKB_iff.2 Kc.out]); exact HT9.out)).mono ?_
            rintro e y6 ⟨rfl, hb9⟩
            have Ra := Lib.hid (Ra.out.later hb9)
            have Rb := Lib.hid (Rb.out.later hb9)
            have Rc := Lib.hid (Rc.out.later hb9)
            have HKc := Lib.hid (HKc.out.later hb9)
            clear hb9
            clear c0 c1 c2 c3 c4 c5 c6 c7 c8
            have c0 := HKc.out.c0
            have c1 := HKc.out.c1
            have c2 := HKc.out.c2
            have c3 := HKc.out.c3
            have c4 := HKc.out.c4
            have c5 := HKc.out.c5
            have c6 := HKc.out.c6
            have c7 := HKc.out.c7
            have c8 := HKc.out.tail.tail.tail.tail.tail.tail.tail.tail.c0
            go_wp2_with fail
            refine (leqK_any none_ ta [] sa none none none Ae Ak Ac 0 0 0 0 0 0 ae1 ak1 ae2 ak2 ac1 ac2 _ (by rw [nodes_none]; omega) rfl (by omega) (RdP.zero _).tree (RdP.zero _).ctx (by have := Na.out; omega) Ra.out.len (by have := Qa.out; omega) Ra.out.tree Ra.out.ctx (by rw [nodes_none]; have := Na.out; omega) (by have := Qa.out; omega) true (by rw [show rightKB (none_, []) = true from rightKB_iff.2 right_noneK, show rightKB (ta, sa) = true from rightKB_iff.2 Ka.out]; exact leq_none Ka.out)).mono ?_
            rintro e y8 ⟨rfl, hb9⟩
            have Ra := Lib.hid (Ra.out.later hb9)
            have Rb := Lib.hid (Rb.out.later hb9)
            have Rc := Lib.hid (Rc.out.later hb9)
            have HKc := Lib.hid (HKc.out.later hb9)
            clear hb9
            clear c0 c1 c2 c3 c4 c5 c6 c7 c8
            go_wp2_with fail
            go_ret
            exact ⟨by first | rfl | simp, HKc.out.below⟩
        | true =>
          have c0 := HKc.out.c0
          have c1 := HKc.out.c1
          have c2 := HKc.out.c2
          have c3 := HKc.out.c3
          have c4 := HKc.out.c4
          have c5 := HKc.out.c5
          have c6 := HKc.out.c6
          have c7 := HKc.out.c7
          have c8 := HKc.out.tail.tail.tail.tail.tail.tail.tail.tail.c0
          go_wp2_with fail
          refine (sameK_any ta tb sa sb Ae Ak Ac Be Bk Bc ae1 ak1 ae2 ak2 ac1 ac2 be1 bk1 be2 bk2 bc1 bc2 _ (by have := Na.out; omega) Ra.out.len (by have := Qa.out; omega) Ra.out.tree Ra.out.ctx (by have := Nb.out; omega) Rb.out.len (by have := Qb.out; omega) Rb.out.tree Rb.out.ctx).mono ?_
          rw [show sameKB (ta, sa) (tb, sb) = _ from HAN.out]
          rintro e y4 ⟨rfl, hb9⟩
          have Ra := Lib.hid (Ra.out.later hb9)
          have Rb := Lib.hid (Rb.out.later hb9)
          have Rc := Lib.hid (Rc.out.later hb9)
          have HKc := Lib.hid (HKc.out.later hb9)
          clear hb9
          clear c0 c1 c2 c3 c4 c5 c6 c7 c8
          have c0 := HKc.out.c0
          have c1 := HKc.out.c1
          have c2 := HKc.out.c2
          have c3 := HKc.out.c3
          have c4 := HKc.out.c4
          have c5 := HKc.out.c5
          have c6 := HKc.out.c6
          have c7 := HKc.out.c7
          have c8 := HKc.out.tail.tail.tail.tail.tail.tail.tail.tail.c0
          go_wp2_with fail
          refine (leqK_any tb tc sb sc Be Bk Bc Ce Ck Cc be1 bk1 be2 bk2 bc1 bc2 ce1 ck1 ce2 ck2 cc1 cc2 _ (by have := Nb.out; omega) Rb.out.len (by have := Qb.out; omega) Rb.out.tree Rb.out.ctx (by have := Nc.out; omega) Rc.out.len (by have := Qc.out; omega) Rc.out.tree Rc.out.ctx (by have := Nb.out; have := Nc.out; omega) (by have := Qb.out; have := Qc.out; omega) r9 (by rw [show rightKB (tb, sb) = true from rightKB_iff.2 Kb.out]; (try rw [show rightKB (tc, sc) = true from rightKB_iff.2 Kc.out]); exact HR9.out)).mono ?_
          rintro e y5 ⟨rfl, hb9⟩
          have Ra := Lib.hid (Ra.out.later hb9)
          have Rb := Lib.hid (Rb.out.later hb9)
          have Rc := Lib.hid (Rc.out.later hb9)
          have HKc := Lib.hid (HKc.out.later hb9)
          clear hb9
          clear c0 c1 c2 c3 c4 c5 c6 c7 c8
          cases r9 with
          | false =>
            have c0 := HKc.out.c0
            have c1 := HKc.out.c1
            have c2 := HKc.out.c2
            have c3 := HKc.out.c3
            have c4 := HKc.out.c4
            have c5 := HKc.out.c5
            have c6 := HKc.out.c6
            have c7 := HKc.out.c7
            have c8 := HKc.out.tail.tail.tail.tail.tail.tail.tail.tail.c0
            go_wp2_with fail
            refine (leqK_any none_ ta [] sa none none none Ae Ak Ac 0 0 0 0 0 0 ae1 ak1 ae2 ak2 ac1 ac2 _ (by rw [nodes_none]; omega) rfl (by omega) (RdP.zero _).tree (RdP.zero _).ctx (by have := Na.out; omega) Ra.out.len (by have := Qa.out; omega) Ra.out.tree Ra.out.ctx (by rw [nodes_none]; have := Na.out; omega) (by have := Qa.out; omega) true (by rw [show rightKB (none_, []) = true from rightKB_iff.2 right_noneK, show rightKB (ta, sa) = true from rightKB_iff.2 Ka.out]; exact leq_none Ka.out)).mono ?_
            rintro e y8 ⟨rfl, hb9⟩
            have Ra := Lib.hid (Ra.out.later hb9)
            have Rb := Lib.hid (Rb.out.later hb9)
            have Rc := Lib.hid (Rc.out.later hb9)
            have HKc := Lib.hid (HKc.out.later hb9)
            clear hb9
            clear c0 c1 c2 c3 c4 c5 c6 c7 c8
            go_wp2_with fail
            go_ret
            exact ⟨by first | rfl | simp, HKc.out.below⟩
          | true =>
            have ht : t9 = true := by have h := HTR.out; simpa using h
            subst ht
            have c0 := HKc.out.c0
            have c1 := HKc.out.c1
            have c2 := HKc.out.c2
            have c3 := HKc.out.c3
            have c4 := HKc.out.c4
            have c5 := HKc.out.c5
            have c6 := HKc.out.c6
            have c7 := HKc.out.c7
            have c8 := HKc.out.tail.tail.tail.tail.tail.tail.tail.tail.c0
            go_wp2_with fail
            refine (leqK_any ta tc sa sc Ae Ak Ac Ce Ck Cc ae1 ak1 ae2 ak2 ac1 ac2 ce1 ck1 ce2 ck2 cc1 cc2 _ (by have := Na.out; omega) Ra.out.len (by have := Qa.out; omega) Ra.out.tree Ra.out.ctx (by have := Nc.out; omega) Rc.out.len (by have := Qc.out; omega) Rc.out.tree Rc.out.ctx (by have := Na.out; have := Nc.out; omega) (by have := Qa.out; have := Qc.out; omega) true (by rw [show rightKB (ta, sa) = true from rightKB_iff.2 Ka.out]; (try rw [show rightKB (tc, sc) = true from rightKB_iff.2 Kc.out]); exact HT9.out)).mono ?_
            rintro e y6 ⟨rfl, hb9⟩
            have Ra := Lib.hid (Ra.out.later hb9)
            have Rb := Lib.hid (Rb.out.later hb9)
            have Rc := Lib.hid (Rc.out.later hb9)
            have HKc := Lib.hid (HKc.out.later hb9)
            clear hb9
            clear c0 c1 c2 c3 c4 c5 c6 c7 c8
            have c0 := HKc.out.c0
            have c1 := HKc.out.c1
            have c2 := HKc.out.c2
            have c3 := HKc.out.c3
            have c4 := HKc.out.c4
            have c5 := HKc.out.c5
            have c6 := HKc.out.c6
            have c7 := HKc.out.c7
            have c8 := HKc.out.tail.tail.tail.tail.tail.tail.tail.tail.c0
            go_wp2_with fail
            refine (leqK_any none_ ta [] sa none none none Ae Ak Ac 0 0 0 0 0 0 ae1 ak1 ae2 ak2 ac1 ac2 _ (by rw [nodes_none]; omega) rfl (by omega) (RdP.zero _).tree (RdP.zero _).ctx (by have := Na.out; omega) Ra.out.len (by have := Qa.out; omega) Ra.out.tree Ra.out.ctx (by rw [nodes_none]; have := Na.out; omega) (by have := Qa.out; omega) true (by rw [show rightKB (none_, []) = true from rightKB_iff.2 right_noneK, show rightKB (ta, sa) = true from rightKB_iff.2 Ka.out]; exact leq_none Ka.out)).mono ?_
            rintro e y8 ⟨rfl, hb9⟩
            have Ra := Lib.hid (Ra.out.later hb9)
            have Rb := Lib.hid (Rb.out.later hb9)
            have Rc := Lib.hid (Rc.out.later hb9)
            have HKc := Lib.hid (HKc.out.later hb9)
            clear hb9
            clear c0 c1 c2 c3 c4 c5 c6 c7 c8
            go_wp2_with fail
            go_ret
            exact ⟨by first | rfl | simp, HKc.out.below⟩
set_option maxRecDepth 100000 in
theorem lifted (os : Os) (started : os.Started) (H : Type) (enc : TypeId × Value → H) :
    ReturnsInHanded {} Tryz.checked os 7 .any (Rows.causalOrderSpec.pre6 enc Tryz.prog Tryz.f7 Rows.causalOrderRow.domain false) (Rows.causalOrderSpec.post enc Tryz.prog Tryz.f7 false true false false) := by
  refine returnsInHanded_of_change_sized (C := Tryz.checked) own started (by kernel_rfl) Tryz.func7
    (ChangeSpec.witness6 (enc := enc) (C := Tryz.checked) false ⟨#[], #[.agg #[.slice none 0 0, .slice none 0 0, .slice none 0 0], .agg #[.slice none 0 0, .slice none 0 0, .slice none 0 0], .agg #[.slice none 0 0, .slice none 0 0, .slice none 0 0]], []⟩ 8 (by kernel_rfl) (by kernel_rfl) (by kernel_rfl) (by kernel_rfl)) ?_
  intro W base args ds gs before hval0 hW _ hsz0 _
  have hval : ∀ (j : Nat) t v, Tryz.f7.params[j]? = some t → args[j]? = some v → Value.okWide Tryz.prog W .any base t v := hval0
  have hW' := hW
  obtain ⟨p, q, hA0, hV, rfl, hfz, hnd⟩ := hW
  have hA : DataW.TrodAll enc Tryz.prog W 0 (fun _ => true) true Tryz.f7.params.toList args.toList ds p := hA0
  rw [Tryz.params7] at hA hval
  obtain ⟨v0, v1, v2, d0, d1, d2, p0, p1, p2, rfl, rfl, rfl, h0, h1, h2⟩ := trodAll_three hA
  obtain ⟨rfl, rfl⟩ := trodVars_none hV
  have hsz : (DataW.weightsEach Tryz.prog (29 :: 29 :: 29 :: _) (d0 :: d1 :: d2 :: _)).all (· ≤ reachBytes) = true := hsz0
  obtain ⟨hw0, hsz⟩ := Tr.weights_head hsz
  obtain ⟨hw1, hsz⟩ := Tr.weights_head hsz
  obtain ⟨hw2, hsz⟩ := Tr.weights_head hsz
  obtain ⟨t0, s0, A0, B0, C0, n0, m0, ne0, nk0, nc0, nd0, rfl, hr0, hl0⟩ := Cs.cauV_of_trod (hval 0 29 v0 rfl rfl) h0 hw0
  obtain ⟨t1, s1, A1, B1, C1, n1, m1, ne1, nk1, nc1, nd1, rfl, hr1, hl1⟩ := Cs.cauV_of_trod (hval 1 29 v1 rfl rfl) h1 hw1
  obtain ⟨t2, s2, A2, B2, C2, n2, m2, ne2, nk2, nc2, nd2, rfl, hr2, hl2⟩ := Cs.cauV_of_trod (hval 2 29 v2 rfl rfl) h2 hw2
  refine (walk_any t0 s0 A0 B0 C0 n0 m0 ne0 nk0 nc0 nd0 t1 s1 A1 B1 C1 n1 m1 ne1 nk1 nc1 nd1 t2 s2 A2 B2 C2 n2 m2 ne2 nk2 nc2 nd2 W hr0 hl0 hr1 hl1 hr2 hl2).mono fun e W' ⟨he, hb⟩ => ?_
  subst he
  exact ⟨_, rfl, law_post hW' (by kernel_rfl) rfl rfl rfl hb⟩
theorem proved : Rows.CausalOrderSaid :=
  OpenClaim.holds_of_wide 7 Tryz.f7 rfl rfl rfl rfl rfl rfl rfl ⟨rfl, rfl, rfl, rfl, rfl⟩ rfl rfl rfl rfl rfl (by kernel_rfl) Tryz.func7 (by kernel_rfl)
    (of_decide_eq_true (by kernel_rfl)) (by unfold Func.isWrapper; first | (rw [if_pos (by decide +kernel)]; kernel_rfl) | (rw [if_neg (by decide +kernel)]; exact ⟨rfl, rfl⟩))
    (fun os started H enc _ => lifted os started H enc)
#print axioms proved
end lawCausalOrder
end Go.Proofs.YtcbclefemcmhpaaGreat
