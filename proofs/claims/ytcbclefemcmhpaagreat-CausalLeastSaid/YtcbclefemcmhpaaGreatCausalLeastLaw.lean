/- CausalLeast: a law of layer 9, walked, and proved. -/
import Derived.Test.YtcbclefemcmhpaaGreatG00
import Derived.Test.YtcbclefemcmhpaaGreatG40
open Go.ChangeShapes Go.WideShapes Go.ChangeAt Go.RowKit
namespace Go.Proofs.YtcbclefemcmhpaaGreat
namespace lawCausalLeast
open Tr Cx Cs Sp Rw Classical
theorem boxL (w : World) (Ae Ak Ac : Option Addr) (ae1 ak1 ae2 ak2 ac1 ac2 : Nat) (Be Bk Bc : Option Addr) (be1 bk1 be2 bk2 bc1 bc2 : Nat) (Ce Ck Cc : Option Addr) (ce1 ck1 ce2 ck2 cc1 cc2 : Nat) : ∃ (W : World) (p q r : Nat), Hid (W = (((w.alloc (.cells #[.slice Ae ae1 ae2, .slice Ak ak1 ak2, .slice Ac ac1 ac2] 29)).alloc (.cells #[.slice Be be1 be2, .slice Bk bk1 bk2, .slice Bc bc1 bc2] 29)).alloc (.cells #[.slice Ce ce1 ce2, .slice Ck ck1 ck2, .slice Cc cc1 cc2] 29))) ∧ Hid (p = w.heap.size) ∧ Hid (q = p + 1) ∧ Hid (r = q + 1) ∧ Hid (Kept [(⟨p, 0, none⟩, .slice Ae ae1 ae2), (⟨p, 1, none⟩, .slice Ak ak1 ak2), (⟨p, 2, none⟩, .slice Ac ac1 ac2), (⟨q, 0, none⟩, .slice Be be1 be2), (⟨q, 1, none⟩, .slice Bk bk1 bk2), (⟨q, 2, none⟩, .slice Bc bc1 bc2), (⟨r, 0, none⟩, .slice Ce ce1 ce2), (⟨r, 1, none⟩, .slice Ck ck1 ck2), (⟨r, 2, none⟩, .slice Cc cc1 cc2)] w W) := by
  refine ⟨_, _, _, _, rfl, rfl, rfl, rfl, ?_⟩
  have h0 := Kept.nil_of (show Below w.heap.size w ((((w.alloc (.cells #[.slice Ae ae1 ae2, .slice Ak ak1 ak2, .slice Ac ac1 ac2] 29)).alloc (.cells #[.slice Be be1 be2, .slice Bk bk1 bk2, .slice Bc bc1 bc2] 29)).alloc (.cells #[.slice Ce ce1 ce2, .slice Ck ck1 ck2, .slice Cc cc1 cc2] 29))) from (((Below.refl _ _).alloc (Nat.le_refl _) _).alloc (by simp) _).alloc (by simp; omega) _)
  refine (((((((((h0).cons_of ?_).cons_of ?_).cons_of ?_).cons_of ?_).cons_of ?_).cons_of ?_).cons_of ?_).cons_of ?_).cons_of ?_ <;> go_simp
set_option maxRecDepth 100000 in
set_option maxHeartbeats 4000000 in
theorem walk_any (ta : T) (sa : List S3) (Ae Ak Ac : Option Addr) (ae1 ak1 ae2 ak2 ac1 ac2 : Nat) (tb : T) (sb : List S3) (Be Bk Bc : Option Addr) (be1 bk1 be2 bk2 bc1 bc2 : Nat) (tc : T) (sc : List S3) (Ce Ck Cc : Option Addr) (ce1 ck1 ce2 ck2 cc1 cc2 : Nat)  (w : World) (hra : RdP w ⟨(ta, sa), ⟨Ae, ae1, ae2⟩, ⟨Ak, ak1, ak2⟩, ⟨Ac, ac1, ac2⟩⟩) (hla : LenT reachBytes ta) (hrb : RdP w ⟨(tb, sb), ⟨Be, be1, be2⟩, ⟨Bk, bk1, bk2⟩, ⟨Bc, bc1, bc2⟩⟩) (hlb : LenT reachBytes tb) (hrc : RdP w ⟨(tc, sc), ⟨Ce, ce1, ce2⟩, ⟨Ck, ck1, ck2⟩, ⟨Cc, cc1, cc2⟩⟩) (hlc : LenT reachBytes tc)  :
    Calls Tryz.prog 6 #[.agg #[.slice Ae ae1 ae2, .slice Ak ak1 ak2, .slice Ac ac1 ac2], .agg #[.slice Be be1 be2, .slice Bk bk1 bk2, .slice Bc bc1 bc2], .agg #[.slice Ce ce1 ce2, .slice Ck ck1 ck2, .slice Cc cc1 cc2]] w fun e w' => e = .returned (.bool true) ∧ Below w.heap.size w w' := by
  obtain ⟨W, p, q, r, HW, HP, HQ, HR, HKc⟩ := boxL w Ae Ak Ac ae1 ak1 ae2 ak2 ac1 ac2 Be Bk Bc be1 bk1 be2 bk2 bc1 bc2 Ce Ck Cc ce1 ck1 ce2 ck2 cc1 cc2
  have Ra := Lib.hid (hra.later HKc.out.below)
  have La := Lib.hid hla
  have Rb := Lib.hid (hrb.later HKc.out.below)
  have Lb := Lib.hid hlb
  have Rc := Lib.hid (hrc.later HKc.out.below)
  have Lc := Lib.hid hlc
  clear hra hla hrb hlb hrc hlc
  have c0 := HKc.out.c0
  have c1 := HKc.out.c1
  have c2 := HKc.out.c2
  have c3 := HKc.out.c3
  have c4 := HKc.out.c4
  have c5 := HKc.out.c5
  have c6 := HKc.out.c6
  have c7 := HKc.out.c7
  have c8 := HKc.out.tail.tail.tail.tail.tail.tail.tail.tail.c0
  go_enter Tryz.func6, Tryz.ntmps6
  go_wp2_with fail
  rw [← HW.out, ← HP.out, ← HQ.out, ← HR.out]
  refine (awake_any W).mono ?_
  rintro e v1 ⟨rfl, hb9⟩
  have Ra := Lib.hid (Ra.out.later hb9)
  have Rb := Lib.hid (Rb.out.later hb9)
  have Rc := Lib.hid (Rc.out.later hb9)
  have HKc := Lib.hid (HKc.out.later hb9)
  clear hb9
  clear c0 c1 c2 c3 c4 c5 c6 c7 c8
  have c0 := HKc.out.c0
  have c1 := HKc.out.c1
  have c2 := HKc.out.c2
  have c3 := HKc.out.c3
  have c4 := HKc.out.c4
  have c5 := HKc.out.c5
  have c6 := HKc.out.c6
  have c7 := HKc.out.c7
  have c8 := HKc.out.tail.tail.tail.tail.tail.tail.tail.tail.c0
  obtain ⟨g2, hg2⟩ : ∃ g, g = v1.heap.size := ⟨_, rfl⟩
  obtain ⟨v2, hv2⟩ : ∃ W, W = v1.alloc (.cells #[.slice Ae ae1 ae2, .slice Ak ak1 ak2, .slice Ac ac1 ac2, .slice Be be1 be2, .slice Bk bk1 bk2, .slice Bc bc1 bc2, .slice Ce ce1 ce2, .slice Ck ck1 ck2, .slice Cc cc1 cc2] 29) := ⟨_, rfl⟩
  have hb9 : Below v1.heap.size v1 v2 := by rw [hv2]; exact Dt.box_below _ _ _
  have HCP : Hid (CellsP v2 g2 [⟨(ta, sa), ⟨Ae, ae1, ae2⟩, ⟨Ak, ak1, ak2⟩, ⟨Ac, ac1, ac2⟩⟩, ⟨(tb, sb), ⟨Be, be1, be2⟩, ⟨Bk, bk1, bk2⟩, ⟨Bc, bc1, bc2⟩⟩, ⟨(tc, sc), ⟨Ce, ce1, ce2⟩, ⟨Ck, ck1, ck2⟩, ⟨Cc, cc1, cc2⟩⟩]) := by
    intro k hk
    simp at hk
    rcases (by omega : k = 0 ∨ k = 1 ∨ k = 2) with rfl | rfl | rfl <;> refine ⟨?_, ?_, ?_⟩ <;> (rw [hv2, hg2]; go_simp)
  have Hg2 := Lib.hid hg2
  have Hv2 := Lib.hid hv2
  clear hg2 hv2
  have Ra := Lib.hid (Ra.out.later hb9)
  have Rb := Lib.hid (Rb.out.later hb9)
  have Rc := Lib.hid (Rc.out.later hb9)
  have HKc := Lib.hid (HKc.out.later hb9)
  clear hb9
  have HPS : Hid (∀ p ∈ ([⟨(ta, sa), ⟨Ae, ae1, ae2⟩, ⟨Ak, ak1, ak2⟩, ⟨Ac, ac1, ac2⟩⟩, ⟨(tb, sb), ⟨Be, be1, be2⟩, ⟨Bk, bk1, bk2⟩, ⟨Bc, bc1, bc2⟩⟩, ⟨(tc, sc), ⟨Ce, ce1, ce2⟩, ⟨Ck, ck1, ck2⟩, ⟨Cc, cc1, cc2⟩⟩] : List CP), RdP v2 p) := by
    intro p hp
    simp at hp
    rcases hp with rfl | rfl | rfl
    · exact Ra.out
    · exact Rb.out
    · exact Rc.out
  have HLT : Hid (∀ p ∈ ([⟨(ta, sa), ⟨Ae, ae1, ae2⟩, ⟨Ak, ak1, ak2⟩, ⟨Ac, ac1, ac2⟩⟩, ⟨(tb, sb), ⟨Be, be1, be2⟩, ⟨Bk, bk1, bk2⟩, ⟨Bc, bc1, bc2⟩⟩, ⟨(tc, sc), ⟨Ce, ce1, ce2⟩, ⟨Ck, ck1, ck2⟩, ⟨Cc, cc1, cc2⟩⟩] : List CP), LenT reachBytes p.k.1) := by
    intro p hp
    simp at hp
    rcases hp with rfl | rfl | rfl
    · exact La.out
    · exact Lb.out
    · exact Lc.out
  have HSM := Lib.hid (small_any9 [⟨(ta, sa), ⟨Ae, ae1, ae2⟩, ⟨Ak, ak1, ak2⟩, ⟨Ac, ac1, ac2⟩⟩, ⟨(tb, sb), ⟨Be, be1, be2⟩, ⟨Bk, bk1, bk2⟩, ⟨Bc, bc1, bc2⟩⟩, ⟨(tc, sc), ⟨Ce, ce1, ce2⟩, ⟨Ck, ck1, ck2⟩, ⟨Cc, cc1, cc2⟩⟩] 3 g2 3 v2 rfl (by omega) HCP.out HPS.out HLT.out)
  clear HCP HPS HLT
  go_wp2_with fail
  rw [← Hv2.out, ← Hg2.out]
  refine HSM.out.mono ?_
  rintro e v3 ⟨b, rfl, hsm, hb9⟩
  have Ra := Lib.hid (Ra.out.later hb9)
  have Rb := Lib.hid (Rb.out.later hb9)
  have Rc := Lib.hid (Rc.out.later hb9)
  have HKc := Lib.hid (HKc.out.later hb9)
  clear hb9
  clear c0 c1 c2 c3 c4 c5 c6 c7 c8 HSM
  cases b with
  | false =>
    clear hsm
    go_wp2_with fail
    refine (awake_any _).mono ?_
    rintro e v9 ⟨rfl, hb9⟩
    have HKc := Lib.hid (HKc.out.later hb9)
    clear hb9
    go_wp2_with fail
    go_ret
    exact ⟨rfl, HKc.out.below⟩
  | true =>
    have hsa := hsm rfl ⟨(ta, sa), ⟨Ae, ae1, ae2⟩, ⟨Ak, ak1, ak2⟩, ⟨Ac, ac1, ac2⟩⟩ (by simp)
    have Na : Hid (nodes ta ≤ 40) := hsa.1
    have Qa : Hid (ac1 ≤ 40) := hsa.2
    have hsb := hsm rfl ⟨(tb, sb), ⟨Be, be1, be2⟩, ⟨Bk, bk1, bk2⟩, ⟨Bc, bc1, bc2⟩⟩ (by simp)
    have Nb : Hid (nodes tb ≤ 40) := hsb.1
    have Qb : Hid (bc1 ≤ 40) := hsb.2
    have hsc := hsm rfl ⟨(tc, sc), ⟨Ce, ce1, ce2⟩, ⟨Ck, ck1, ck2⟩, ⟨Cc, cc1, cc2⟩⟩ (by simp)
    have Nc : Hid (nodes tc ≤ 40) := hsc.1
    have Qc : Hid (cc1 ≤ 40) := hsc.2
    clear hsm hsa hsb hsc
    have c0 := HKc.out.c0
    have c1 := HKc.out.c1
    have c2 := HKc.out.c2
    have c3 := HKc.out.c3
    have c4 := HKc.out.c4
    have c5 := HKc.out.c5
    have c6 := HKc.out.c6
    have c7 := HKc.out.c7
    have c8 := HKc.out.tail.tail.tail.tail.tail.tail.tail.tail.c0
    obtain ⟨g4, hg4⟩ : ∃ g, g = v3.heap.size := ⟨_, rfl⟩
    obtain ⟨v4, hv4⟩ : ∃ W, W = v3.alloc (.cells #[.slice Ae ae1 ae2, .slice Ak ak1 ak2, .slice Ac ac1 ac2, .slice Be be1 be2, .slice Bk bk1 bk2, .slice Bc bc1 bc2, .slice Ce ce1 ce2, .slice Ck ck1 ck2, .slice Cc cc1 cc2] 29) := ⟨_, rfl⟩
    have hb9 : Below v3.heap.size v3 v4 := by rw [hv4]; exact Dt.box_below _ _ _
    have HCP : Hid (CellsP v4 g4 [⟨(ta, sa), ⟨Ae, ae1, ae2⟩, ⟨Ak, ak1, ak2⟩, ⟨Ac, ac1, ac2⟩⟩, ⟨(tb, sb), ⟨Be, be1, be2⟩, ⟨Bk, bk1, bk2⟩, ⟨Bc, bc1, bc2⟩⟩, ⟨(tc, sc), ⟨Ce, ce1, ce2⟩, ⟨Ck, ck1, ck2⟩, ⟨Cc, cc1, cc2⟩⟩]) := by
      intro k hk
      simp at hk
      rcases (by omega : k = 0 ∨ k = 1 ∨ k = 2) with rfl | rfl | rfl <;> refine ⟨?_, ?_, ?_⟩ <;> (rw [hv4, hg4]; go_simp)
    have Hg4 := Lib.hid hg4
    have Hv4 := Lib.hid hv4
    clear hg4 hv4
    have Ra := Lib.hid (Ra.out.later hb9)
    have Rb := Lib.hid (Rb.out.later hb9)
    have Rc := Lib.hid (Rc.out.later hb9)
    have HKc := Lib.hid (HKc.out.later hb9)
    clear hb9
    have HPS : Hid (∀ p ∈ ([⟨(ta, sa), ⟨Ae, ae1, ae2⟩, ⟨Ak, ak1, ak2⟩, ⟨Ac, ac1, ac2⟩⟩, ⟨(tb, sb), ⟨Be, be1, be2⟩, ⟨Bk, bk1, bk2⟩, ⟨Bc, bc1, bc2⟩⟩, ⟨(tc, sc), ⟨Ce, ce1, ce2⟩, ⟨Ck, ck1, ck2⟩, ⟨Cc, cc1, cc2⟩⟩] : List CP), RdP v4 p) := by
      intro p hp
      simp at hp
      rcases hp with rfl | rfl | rfl
      · exact Ra.out
      · exact Rb.out
      · exact Rc.out
    have HLT : Hid (∀ p ∈ ([⟨(ta, sa), ⟨Ae, ae1, ae2⟩, ⟨Ak, ak1, ak2⟩, ⟨Ac, ac1, ac2⟩⟩, ⟨(tb, sb), ⟨Be, be1, be2⟩, ⟨Bk, bk1, bk2⟩, ⟨Bc, bc1, bc2⟩⟩, ⟨(tc, sc), ⟨Ce, ce1, ce2⟩, ⟨Ck, ck1, ck2⟩, ⟨Cc, cc1, cc2⟩⟩] : List CP), nodes p.k.1 ≤ 200 ∧ p.c.n ≤ 1000) := by
      intro p hp
      simp at hp
      rcases hp with rfl | rfl | rfl
      · exact ⟨by have := Na.out; show nodes ta ≤ 200; omega, by have := Qa.out; show ac1 ≤ 1000; omega⟩
      · exact ⟨by have := Nb.out; show nodes tb ≤ 200; omega, by have := Qb.out; show bc1 ≤ 1000; omega⟩
      · exact ⟨by have := Nc.out; show nodes tc ≤ 200; omega, by have := Qc.out; show cc1 ≤ 1000; omega⟩
    obtain ⟨z, hz⟩ : ∃ z, ([⟨(ta, sa), ⟨Ae, ae1, ae2⟩, ⟨Ak, ak1, ak2⟩, ⟨Ac, ac1, ac2⟩⟩, ⟨(tb, sb), ⟨Be, be1, be2⟩, ⟨Bk, bk1, bk2⟩, ⟨Bc, bc1, bc2⟩⟩, ⟨(tc, sc), ⟨Ce, ce1, ce2⟩, ⟨Ck, ck1, ck2⟩, ⟨Cc, cc1, cc2⟩⟩] : List CP).all (fun p => rightKB p.k) = z := ⟨_, rfl⟩
    have HRT := Lib.hid (right_any9 [⟨(ta, sa), ⟨Ae, ae1, ae2⟩, ⟨Ak, ak1, ak2⟩, ⟨Ac, ac1, ac2⟩⟩, ⟨(tb, sb), ⟨Be, be1, be2⟩, ⟨Bk, bk1, bk2⟩, ⟨Bc, bc1, bc2⟩⟩, ⟨(tc, sc), ⟨Ce, ce1, ce2⟩, ⟨Ck, ck1, ck2⟩, ⟨Cc, cc1, cc2⟩⟩] 3 g4 3 v4 rfl (by omega) HCP.out HPS.out HLT.out z hz)
    have HZ := Lib.hid hz
    clear HCP HPS HLT hz
    go_wp2_with fail
    rw [← Hv4.out, ← Hg4.out]
    refine HRT.out.mono ?_
    rintro e v5 ⟨rfl, hb9⟩
    have Ra := Lib.hid (Ra.out.later hb9)
    have Rb := Lib.hid (Rb.out.later hb9)
    have Rc := Lib.hid (Rc.out.later hb9)
    have HKc := Lib.hid (HKc.out.later hb9)
    clear hb9
    clear c0 c1 c2 c3 c4 c5 c6 c7 c8 HRT
    cases z with
    | false =>
      clear HZ
      go_wp2_with fail
      refine (awake_any _).mono ?_
      rintro e v9 ⟨rfl, hb9⟩
      have HKc := Lib.hid (HKc.out.later hb9)
      clear hb9
      go_wp2_with fail
      go_ret
      exact ⟨rfl, HKc.out.below⟩
    | true =>
      have hz := HZ.out
      rw [List.all_eq_true] at hz
      have Ka : Hid (RK (ta, sa)) := rightKB_iff.1 (hz ⟨(ta, sa), ⟨Ae, ae1, ae2⟩, ⟨Ak, ak1, ak2⟩, ⟨Ac, ac1, ac2⟩⟩ (by simp))
      have Kb : Hid (RK (tb, sb)) := rightKB_iff.1 (hz ⟨(tb, sb), ⟨Be, be1, be2⟩, ⟨Bk, bk1, bk2⟩, ⟨Bc, bc1, bc2⟩⟩ (by simp))
      have Kc : Hid (RK (tc, sc)) := rightKB_iff.1 (hz ⟨(tc, sc), ⟨Ce, ce1, ce2⟩, ⟨Ck, ck1, ck2⟩, ⟨Cc, cc1, cc2⟩⟩ (by simp))
      clear hz HZ
      have c0 := HKc.out.c0
      have c1 := HKc.out.c1
      have c2 := HKc.out.c2
      have c3 := HKc.out.c3
      have c4 := HKc.out.c4
      have c5 := HKc.out.c5
      have c6 := HKc.out.c6
      have c7 := HKc.out.c7
      have c8 := HKc.out.tail.tail.tail.tail.tail.tail.tail.tail.c0
      go_wp2_with fail
      refine (joinL_any ta tb sa sb Ae Ak Ac Be Bk Bc ae1 ak1 ae2 ak2 ac1 ac2 be1 bk1 be2 bk2 bc1 bc2 _ (by have := Na.out; omega) Ra.out.len (by have := Qa.out; omega) Ra.out.tree Ra.out.ctx (by have := Nb.out; omega) Rb.out.len (by have := Qb.out; omega) Rb.out.tree Rb.out.ctx).mono ?_
      rintro e xu ⟨ku, hj, _, Ue, ue1, ue2, Uk, uk1, uk2, Uc, uc1, uc2, rfl, how, hb9⟩
      have Ju : Hid (IsJ (ta, sa) (tb, sb) ku) := (hj ⟨Ka.out, Kb.out⟩).1
      have Ku : Hid (RK ku) := Ju.out.right Ka.out Kb.out
      have Nu : Hid (nodes ku.1 ≤ 80) := by
        have h1 := joinT_nodes 5 sa sb ta tb
        have h2 := Na.out
        have h3 := Nb.out
        unfold Hid
        rw [Ju.out.tree]
        show nodes (joinT 5 sa sb ta tb) ≤ _
        omega
      have Qu : Hid (uc1 ≤ 80) := by
        have h1 := (hj ⟨Ka.out, Kb.out⟩).2
        have h2 := how.len
        have h3 := Qa.out
        have h4 := Qb.out
        unfold Hid
        omega
      have Ru := Lib.hid (RdP.of_own how)
      clear hj how
      have Ra := Lib.hid (Ra.out.later hb9)
      have Rb := Lib.hid (Rb.out.later hb9)
      have Rc := Lib.hid (Rc.out.later hb9)
      have HKc := Lib.hid (HKc.out.later hb9)
      clear hb9
      obtain ⟨g, hg⟩ : ∃ g, g = xu.heap.size := ⟨_, rfl⟩
      obtain ⟨v7, hv7⟩ : ∃ W, W = xu.alloc (.cells #[.slice Ue ue1 ue2, .slice Uk uk1 uk2, .slice Uc uc1 uc2] 29) := ⟨_, rfl⟩
      have hb9 : Below xu.heap.size xu v7 := by rw [hv7]; exact Dt.box_below _ _ _
      have g0 : v7.cell? ⟨g, 0, none⟩ = some (.slice Ue ue1 ue2) := by rw [hv7, hg]; go_simp
      have g1 : v7.cell? ⟨g, 1, none⟩ = some (.slice Uk uk1 uk2) := by rw [hv7, hg]; go_simp
      have g2 : v7.cell? ⟨g, 2, none⟩ = some (.slice Uc uc1 uc2) := by rw [hv7, hg]; go_simp
      have Hg := Lib.hid hg
      have Hv7 := Lib.hid hv7
      have Ra := Lib.hid (Ra.out.later hb9)
      have Rb := Lib.hid (Rb.out.later hb9)
      have Rc := Lib.hid (Rc.out.later hb9)
      have Ru := Lib.hid (Ru.out.later hb9)
      have HKc := Lib.hid (HKc.out.later hb9)
      clear hb9
      have HKc : Hid (Kept [(⟨p, 0, none⟩, .slice Ae ae1 ae2), (⟨p, 1, none⟩, .slice Ak ak1 ak2), (⟨p, 2, none⟩, .slice Ac ac1 ac2), (⟨q, 0, none⟩, .slice Be be1 be2), (⟨q, 1, none⟩, .slice Bk bk1 bk2), (⟨q, 2, none⟩, .slice Bc bc1 bc2), (⟨r, 0, none⟩, .slice Ce ce1 ce2), (⟨r, 1, none⟩, .slice Ck ck1 ck2), (⟨r, 2, none⟩, .slice Cc cc1 cc2), (⟨g, 0, none⟩, .slice Ue ue1 ue2), (⟨g, 1, none⟩, .slice Uk uk1 uk2), (⟨g, 2, none⟩, .slice Uc uc1 uc2)] w v7) := ((((((((((((Kept.nil_of HKc.out.below).cons_of g2).cons_of g1).cons_of g0).cons_of HKc.out.tail.tail.tail.tail.tail.tail.tail.tail.c0).cons_of HKc.out.c7).cons_of HKc.out.c6).cons_of HKc.out.c5).cons_of HKc.out.c4).cons_of HKc.out.c3).cons_of HKc.out.c2).cons_of HKc.out.c1).cons_of HKc.out.c0
      obtain ⟨z1, hz1⟩ : ∃ z, leqB ku (tc, sc) = z := ⟨_, rfl⟩
      obtain ⟨z2, hz2⟩ : ∃ z, leqB (ta, sa) (tc, sc) = z := ⟨_, rfl⟩
      obtain ⟨z3, hz3⟩ : ∃ z, leqB (tb, sb) (tc, sc) = z := ⟨_, rfl⟩
      have HL : Hid (z1 = (z2 && z3)) := by unfold Hid; rw [← hz1, ← hz2, ← hz3]; exact leq_least Ka.out Kb.out Kc.out Ju.out
      have HZ1 := Lib.hid hz1
      have HZ2 := Lib.hid hz2
      have HZ3 := Lib.hid hz3
      clear hz1 hz2 hz3 g0 g1 g2 hg hv7 c0 c1 c2 c3 c4 c5 c6 c7 c8
      go_wp2_with fail
      rw [← Hg.out, ← Hv7.out]
      refine wp_region_held_drew (S := fun W => W.cell? ⟨p, 0, none⟩ = some (.slice Ae ae1 ae2) ∧ W.cell? ⟨p, 1, none⟩ = some (.slice Ak ak1 ak2) ∧ W.cell? ⟨p, 2, none⟩ = some (.slice Ac ac1 ac2) ∧ W.cell? ⟨q, 0, none⟩ = some (.slice Be be1 be2) ∧ W.cell? ⟨q, 1, none⟩ = some (.slice Bk bk1 bk2) ∧ W.cell? ⟨q, 2, none⟩ = some (.slice Bc bc1 bc2) ∧ W.cell? ⟨r, 0, none⟩ = some (.slice Ce ce1 ce2) ∧ W.cell? ⟨r, 1, none⟩ = some (.slice Ck ck1 ck2) ∧ W.cell? ⟨r, 2, none⟩ = some (.slice Cc cc1 cc2) ∧ W.cell? ⟨g, 0, none⟩ = some (.slice Ue ue1 ue2) ∧ W.cell? ⟨g, 1, none⟩ = some (.slice Uk uk1 uk2) ∧ W.cell? ⟨g, 2, none⟩ = some (.slice Uc uc1 uc2)) (by kernel_rfl) (by have h9 := HKc.out.drew; exact ⟨h9.c0, h9.c1, h9.c2, h9.c3, h9.c4, h9.c5, h9.c6, h9.c7, h9.tail.tail.tail.tail.tail.tail.tail.tail.c0, h9.tail.tail.tail.tail.tail.tail.tail.tail.c1, h9.tail.tail.tail.tail.tail.tail.tail.tail.c2, h9.tail.tail.tail.tail.tail.tail.tail.tail.c3⟩) (fun hHeld => ?_)
      obtain ⟨w1, hw1⟩ : ∃ v, v = v7.drew := ⟨_, rfl⟩
      have HKc : Hid (Kept [(⟨p, 0, none⟩, .slice Ae ae1 ae2), (⟨p, 1, none⟩, .slice Ak ak1 ak2), (⟨p, 2, none⟩, .slice Ac ac1 ac2), (⟨q, 0, none⟩, .slice Be be1 be2), (⟨q, 1, none⟩, .slice Bk bk1 bk2), (⟨q, 2, none⟩, .slice Bc bc1 bc2), (⟨r, 0, none⟩, .slice Ce ce1 ce2), (⟨r, 1, none⟩, .slice Ck ck1 ck2), (⟨r, 2, none⟩, .slice Cc cc1 cc2), (⟨g, 0, none⟩, .slice Ue ue1 ue2), (⟨g, 1, none⟩, .slice Uk uk1 uk2), (⟨g, 2, none⟩, .slice Uc uc1 uc2)] w w1) := by unfold Hid; rw [hw1]; exact HKc.out.drew
      have Ra : Hid (RdP w1 ⟨(ta, sa), ⟨Ae, ae1, ae2⟩, ⟨Ak, ak1, ak2⟩, ⟨Ac, ac1, ac2⟩⟩) := by unfold Hid; rw [hw1]; exact Ra.out.later ((Below.refl _ _).drew)
      have Rb : Hid (RdP w1 ⟨(tb, sb), ⟨Be, be1, be2⟩, ⟨Bk, bk1, bk2⟩, ⟨Bc, bc1, bc2⟩⟩) := by unfold Hid; rw [hw1]; exact Rb.out.later ((Below.refl _ _).drew)
      have Rc : Hid (RdP w1 ⟨(tc, sc), ⟨Ce, ce1, ce2⟩, ⟨Ck, ck1, ck2⟩, ⟨Cc, cc1, cc2⟩⟩) := by unfold Hid; rw [hw1]; exact Rc.out.later ((Below.refl _ _).drew)
      have Ru : Hid (RdP w1 ⟨ku, ⟨Ue, ue1, ue2⟩, ⟨Uk, uk1, uk2⟩, ⟨Uc, uc1, uc2⟩⟩) := by unfold Hid; rw [hw1]; exact Ru.out.later ((Below.refl _ _).drew)
      rw [← hw1] at hHeld ⊢
      clear hw1
      refine Tk 0 30 ?_
      refine Tk 1 31 ?_
      refine wpAnyH_ready (rs := [2]) (by kernel_rfl) (by simp) ?_
      refine AllReadyH.cons (o := ⟨some 32, _, _, _, _, _⟩) rfl (fun K hK => ?_) AllReadyH.nil
      go_simp
      (go_at_call 23; refine (leqK_any ta ku.1 sa ku.2 Ae Ak Ac Ue Uk Uc ae1 ak1 ae2 ak2 ac1 ac2 ue1 uk1 ue2 uk2 uc1 uc2 _ (by have := Na.out; omega) Ra.out.len (by have := Qa.out; omega) Ra.out.tree Ra.out.ctx (by have := Nu.out; omega) Ru.out.len (by have := Qu.out; omega) Ru.out.tree Ru.out.ctx (by have := Na.out; have := Nu.out; omega) (by have := Qa.out; have := Qu.out; omega) true (by rw [show rightKB (ta, sa) = true from rightKB_iff.2 Ka.out]; (try rw [show rightKB (ku.1, ku.2) = true from rightKB_iff.2 Ku.out]); exact leq_left Ka.out Kb.out Ju.out)).mono ?_)
      rintro e y1 ⟨rfl, hb9⟩
      have Ra := Lib.hid (Ra.out.later hb9)
      have Rb := Lib.hid (Rb.out.later hb9)
      have Rc := Lib.hid (Rc.out.later hb9)
      have Ru := Lib.hid (Ru.out.later hb9)
      have HKc := Lib.hid (HKc.out.later hb9)
      clear hb9
      refine hK.out _ _ ?_ (fun hHeld2 => ?_)
      · exact ⟨HKc.out.c0, HKc.out.c1, HKc.out.c2, HKc.out.c3, HKc.out.c4, HKc.out.c5, HKc.out.c6, HKc.out.c7, HKc.out.tail.tail.tail.tail.tail.tail.tail.tail.c0, HKc.out.tail.tail.tail.tail.tail.tail.tail.tail.c1, HKc.out.tail.tail.tail.tail.tail.tail.tail.tail.c2, HKc.out.tail.tail.tail.tail.tail.tail.tail.tail.c3⟩
      clear hK K hHeld
      have hHeld := hHeld2
      clear hHeld2
      try simp only [Act.put, List.setIfInBounds_toArray, List.set_cons_zero, List.set_cons_succ]
      refine Tk 3 33 ?_
      refine Tk 4 34 ?_
      refine Tk 5 35 ?_
      refine wpAnyH_ready (rs := [6]) (by kernel_rfl) (by simp) ?_
      refine AllReadyH.cons (o := ⟨some 36, _, _, _, _, _⟩) rfl (fun K hK => ?_) AllReadyH.nil
      go_simp
      (go_at_call 23; refine (leqK_any tb ku.1 sb ku.2 Be Bk Bc Ue Uk Uc be1 bk1 be2 bk2 bc1 bc2 ue1 uk1 ue2 uk2 uc1 uc2 _ (by have := Nb.out; omega) Rb.out.len (by have := Qb.out; omega) Rb.out.tree Rb.out.ctx (by have := Nu.out; omega) Ru.out.len (by have := Qu.out; omega) Ru.out.tree Ru.out.ctx (by have := Nb.out; have := Nu.out; omega) (by have := Qb.out; have := Qu.out; omega) true (by rw [show rightKB (tb, sb) = true from rightKB_iff.2 Kb.out]; (try rw [show rightKB (ku.1, ku.2) = true from rightKB_iff.2 Ku.out]); exact leq_right Ka.out Kb.out Ju.out)).mono ?_)
      rintro e y2 ⟨rfl, hb9⟩
      have Ra := Lib.hid (Ra.out.later hb9)
      have Rb := Lib.hid (Rb.out.later hb9)
      have Rc := Lib.hid (Rc.out.later hb9)
      have Ru := Lib.hid (Ru.out.later hb9)
      have HKc := Lib.hid (HKc.out.later hb9)
      clear hb9
      refine hK.out _ _ ?_ (fun hHeld2 => ?_)
      · exact ⟨HKc.out.c0, HKc.out.c1, HKc.out.c2, HKc.out.c3, HKc.out.c4, HKc.out.c5, HKc.out.c6, HKc.out.c7, HKc.out.tail.tail.tail.tail.tail.tail.tail.tail.c0, HKc.out.tail.tail.tail.tail.tail.tail.tail.tail.c1, HKc.out.tail.tail.tail.tail.tail.tail.tail.tail.c2, HKc.out.tail.tail.tail.tail.tail.tail.tail.tail.c3⟩
      clear hK K hHeld
      have hHeld := hHeld2
      clear hHeld2
      try simp only [Act.put, List.setIfInBounds_toArray, List.set_cons_zero, List.set_cons_succ]
      refine Tk 7 37 ?_
      refine Tk 8 38 ?_
      refine Tk 9 39 ?_
      refine Tk 10 40 ?_
      refine Tk 12 42 ?_
      refine Tk 13 43 ?_
      refine wpAnyH_ready (rs := [11]) (by kernel_rfl) (by simp) ?_
      refine AllReadyH.cons (o := ⟨some 41, _, _, _, _, _⟩) rfl (fun K hK => ?_) AllReadyH.nil
      go_simp
      (go_at_call 23; refine (leqK_any ku.1 tc ku.2 sc Ue Uk Uc Ce Ck Cc ue1 uk1 ue2 uk2 uc1 uc2 ce1 ck1 ce2 ck2 cc1 cc2 _ (by have := Nu.out; omega) Ru.out.len (by have := Qu.out; omega) Ru.out.tree Ru.out.ctx (by have := Nc.out; omega) Rc.out.len (by have := Qc.out; omega) Rc.out.tree Rc.out.ctx (by have := Nu.out; have := Nc.out; omega) (by have := Qu.out; have := Qc.out; omega) z1 (by rw [show rightKB (ku.1, ku.2) = true from rightKB_iff.2 Ku.out]; (try rw [show rightKB (tc, sc) = true from rightKB_iff.2 Kc.out]); exact HZ1.out)).mono ?_)
      rintro e y3 ⟨rfl, hb9⟩
      have Ra := Lib.hid (Ra.out.later hb9)
      have Rb := Lib.hid (Rb.out.later hb9)
      have Rc := Lib.hid (Rc.out.later hb9)
      have Ru := Lib.hid (Ru.out.later hb9)
      have HKc := Lib.hid (HKc.out.later hb9)
      clear hb9
      refine hK.out _ _ ?_ (fun hHeld2 => ?_)
      · exact ⟨HKc.out.c0, HKc.out.c1, HKc.out.c2, HKc.out.c3, HKc.out.c4, HKc.out.c5, HKc.out.c6, HKc.out.c7, HKc.out.tail.tail.tail.tail.tail.tail.tail.tail.c0, HKc.out.tail.tail.tail.tail.tail.tail.tail.tail.c1, HKc.out.tail.tail.tail.tail.tail.tail.tail.tail.c2, HKc.out.tail.tail.tail.tail.tail.tail.tail.tail.c3⟩
      clear hK K hHeld
      have hHeld := hHeld2
      clear hHeld2
      try simp only [Act.put, List.setIfInBounds_toArray, List.set_cons_zero, List.set_cons_succ]
      refine wpAnyH_ready (rs := [14]) (by kernel_rfl) (by simp) ?_
      refine AllReadyH.cons (o := ⟨some 44, _, _, _, _, _⟩) rfl (fun K hK => ?_) AllReadyH.nil
      go_simp
      (go_at_call 23; refine (leqK_any ta tc sa sc Ae Ak Ac Ce Ck Cc ae1 ak1 ae2 ak2 ac1 ac2 ce1 ck1 ce2 ck2 cc1 cc2 _ (by have := Na.out; omega) Ra.out.len (by have := Qa.out; omega) Ra.out.tree Ra.out.ctx (by have := Nc.out; omega) Rc.out.len (by have := Qc.out; omega) Rc.out.tree Rc.out.ctx (by have := Na.out; have := Nc.out; omega) (by have := Qa.out; have := Qc.out; omega) z2 (by rw [show rightKB (ta, sa) = true from rightKB_iff.2 Ka.out]; (try rw [show rightKB (tc, sc) = true from rightKB_iff.2 Kc.out]); exact HZ2.out)).mono ?_)
      rintro e y4 ⟨rfl, hb9⟩
      have Ra := Lib.hid (Ra.out.later hb9)
      have Rb := Lib.hid (Rb.out.later hb9)
      have Rc := Lib.hid (Rc.out.later hb9)
      have Ru := Lib.hid (Ru.out.later hb9)
      have HKc := Lib.hid (HKc.out.later hb9)
      clear hb9
      refine hK.out _ _ ?_ (fun hHeld2 => ?_)
      · exact ⟨HKc.out.c0, HKc.out.c1, HKc.out.c2, HKc.out.c3, HKc.out.c4, HKc.out.c5, HKc.out.c6, HKc.out.c7, HKc.out.tail.tail.tail.tail.tail.tail.tail.tail.c0, HKc.out.tail.tail.tail.tail.tail.tail.tail.tail.c1, HKc.out.tail.tail.tail.tail.tail.tail.tail.tail.c2, HKc.out.tail.tail.tail.tail.tail.tail.tail.tail.c3⟩
      clear hK K hHeld
      have hHeld := hHeld2
      clear hHeld2
      try simp only [Act.put, List.setIfInBounds_toArray, List.set_cons_zero, List.set_cons_succ]
      cases z2 with
      | true =>
        refine Tk 15 45 ?_
        refine Tk 16 46 ?_
        refine Tk 17 47 ?_
        refine wpAnyH_ready (rs := [18]) (by kernel_rfl) (by simp) ?_
        refine AllReadyH.cons (o := ⟨some 48, _, _, _, _, _⟩) rfl (fun K hK => ?_) AllReadyH.nil
        go_simp
        (go_at_call 23; refine (leqK_any tb tc sb sc Be Bk Bc Ce Ck Cc be1 bk1 be2 bk2 bc1 bc2 ce1 ck1 ce2 ck2 cc1 cc2 _ (by have := Nb.out; omega) Rb.out.len (by have := Qb.out; omega) Rb.out.tree Rb.out.ctx (by have := Nc.out; omega) Rc.out.len (by have := Qc.out; omega) Rc.out.tree Rc.out.ctx (by have := Nb.out; have := Nc.out; omega) (by have := Qb.out; have := Qc.out; omega) z3 (by rw [show rightKB (tb, sb) = true from rightKB_iff.2 Kb.out]; (try rw [show rightKB (tc, sc) = true from rightKB_iff.2 Kc.out]); exact HZ3.out)).mono ?_)
        rintro e y5 ⟨rfl, hb9⟩
        have Ra := Lib.hid (Ra.out.later hb9)
        have Rb := Lib.hid (Rb.out.later hb9)
        have Rc := Lib.hid (Rc.out.later hb9)
        have Ru := Lib.hid (Ru.out.later hb9)
        have HKc := Lib.hid (HKc.out.later hb9)
        clear hb9
        refine hK.out _ _ ?_ (fun hHeld2 => ?_)
        · exact ⟨HKc.out.c0, HKc.out.c1, HKc.out.c2, HKc.out.c3, HKc.out.c4, HKc.out.c5, HKc.out.c6, HKc.out.c7, HKc.out.tail.tail.tail.tail.tail.tail.tail.tail.c0, HKc.out.tail.tail.tail.tail.tail.tail.tail.tail.c1, HKc.out.tail.tail.tail.tail.tail.tail.tail.tail.c2, HKc.out.tail.tail.tail.tail.tail.tail.tail.tail.c3⟩
        clear hK K hHeld
        have hHeld := hHeld2
        clear hHeld2
        try simp only [Act.put, List.setIfInBounds_toArray, List.set_cons_zero, List.set_cons_succ]
        refine Tk 19 49 ?_
        refine Tk 20 50 ?_
        refine Tk 21 51 ?_
        refine Tk 22 6 ?_
        refine wpAnyH_done (by kernel_rfl) ?_ _
        clear hHeld
        obtain rfl : z1 = z3 := by have h := HL.out; rw [h]; first | rfl | simp
        go_wp2_with fail
        go_ret
        exact ⟨by first | rfl | simp | (cases z1 <;> rfl), HKc.out.below⟩
      | false =>
        refine Tk 15 45 ?_
        refine Tn 16 46 ?_
        refine Tn 17 47 ?_
        refine Tn 18 48 ?_
        refine Tk 19 49 ?_
        refine Tk 20 50 ?_
        refine Tk 21 51 ?_
        refine Tk 22 6 ?_
        refine wpAnyH_done (by kernel_rfl) ?_ _
        clear hHeld
        obtain rfl : z1 = false := by have h := HL.out; rw [h]; first | rfl | simp
        go_wp2_with fail
        go_ret
        exact ⟨by first | rfl | simp | (cases z1 <;> rfl), HKc.out.below⟩
set_option maxRecDepth 100000 in
theorem lifted (os : Os) (started : os.Started) (H : Type) (enc : TypeId × Value → H) :
    ReturnsInHanded {} Tryz.checked os 6 .any (Rows.causalLeastSpec.pre6 enc Tryz.prog Tryz.f6 Rows.causalLeastRow.domain false) (Rows.causalLeastSpec.post enc Tryz.prog Tryz.f6 false true false false) := by
  refine returnsInHanded_of_change_sized (C := Tryz.checked) own started (by kernel_rfl) Tryz.func6
    (ChangeSpec.witness6 (enc := enc) (C := Tryz.checked) false ⟨#[], #[.agg #[.slice none 0 0, .slice none 0 0, .slice none 0 0], .agg #[.slice none 0 0, .slice none 0 0, .slice none 0 0], .agg #[.slice none 0 0, .slice none 0 0, .slice none 0 0]], []⟩ 8 (by kernel_rfl) (by kernel_rfl) (by kernel_rfl) (by kernel_rfl)) ?_
  intro W base args ds gs before hval0 hW _ hsz0 _
  have hval : ∀ (j : Nat) t v, Tryz.f6.params[j]? = some t → args[j]? = some v → Value.okWide Tryz.prog W .any base t v := hval0
  have hW' := hW
  obtain ⟨p, q, hA0, hV, rfl, hfz, hnd⟩ := hW
  have hA : DataW.TrodAll enc Tryz.prog W 0 (fun _ => true) true Tryz.f6.params.toList args.toList ds p := hA0
  rw [Tryz.params6] at hA hval
  obtain ⟨v0, v1, v2, d0, d1, d2, p0, p1, p2, rfl, rfl, rfl, h0, h1, h2⟩ := trodAll_three hA
  obtain ⟨rfl, rfl⟩ := trodVars_none hV
  have hsz : (DataW.weightsEach Tryz.prog (29 :: 29 :: 29 :: _) (d0 :: d1 :: d2 :: _)).all (· ≤ reachBytes) = true := hsz0
  obtain ⟨hw0, hsz⟩ := Tr.weights_head hsz
  obtain ⟨hw1, hsz⟩ := Tr.weights_head hsz
  obtain ⟨hw2, hsz⟩ := Tr.weights_head hsz
  obtain ⟨t0, s0, A0, B0, C0, n0, m0, ne0, nk0, nc0, nd0, rfl, hr0, hl0⟩ := Cs.cauV_of_trod (hval 0 29 v0 rfl rfl) h0 hw0
  obtain ⟨t1, s1, A1, B1, C1, n1, m1, ne1, nk1, nc1, nd1, rfl, hr1, hl1⟩ := Cs.cauV_of_trod (hval 1 29 v1 rfl rfl) h1 hw1
  obtain ⟨t2, s2, A2, B2, C2, n2, m2, ne2, nk2, nc2, nd2, rfl, hr2, hl2⟩ := Cs.cauV_of_trod (hval 2 29 v2 rfl rfl) h2 hw2
  refine (walk_any t0 s0 A0 B0 C0 n0 m0 ne0 nk0 nc0 nd0 t1 s1 A1 B1 C1 n1 m1 ne1 nk1 nc1 nd1 t2 s2 A2 B2 C2 n2 m2 ne2 nk2 nc2 nd2 W hr0 hl0 hr1 hl1 hr2 hl2).mono fun e W' ⟨he, hb⟩ => ?_
  subst he
  exact ⟨_, rfl, law_post hW' (by kernel_rfl) rfl rfl rfl hb⟩
theorem proved : Rows.CausalLeastSaid :=
  OpenClaim.holds_of_wide 6 Tryz.f6 rfl rfl rfl rfl rfl rfl rfl ⟨rfl, rfl, rfl, rfl, rfl⟩ rfl rfl rfl rfl rfl (by kernel_rfl) Tryz.func6 (by kernel_rfl)
    (of_decide_eq_true (by kernel_rfl)) (by unfold Func.isWrapper; first | (rw [if_pos (by decide +kernel)]; kernel_rfl) | (rw [if_neg (by decide +kernel)]; exact ⟨rfl, rfl⟩))
    (fun os started H enc _ => lifted os started H enc)
#print axioms proved
end lawCausalLeast
end Go.Proofs.YtcbclefemcmhpaaGreat
