/- ContextSets answers true for every two lists of spans. No condition. -/
import Derived.Test.YtfkkjgebemnhnaaCtxBy
import Derived.Test.YtfkkjgebemnhnaaCtxAwake
import Derived.Test.YtfkkjgebemnhnaaCtxArgs
import Derived.ProofKit
import Derived.OpenShut
namespace Go.Proofs.Ytfkkjgebemnhnaa.lawContextSets
open Go.ChangeShapes Go.WideShapes Go.ChangeAt Go.RowKit Sp Rw Cx
theorem leqC_to (a b : List S3) (n m : Nat) (A B : Option Addr) (c d : Nat) (w : World) (hla : a.length = n) (hlb : b.length = m) (hn : n ≤ 50000) (hm : m ≤ 50000) (hra : Rd w w.heap.size 3 A n c (spsC a)) (hrb : Rd w w.heap.size 3 B m d (spsC b)) (ha : RightC a) (hb : RightC b) (u : List S3) (hu : PutC minF a b u) (z : Bool) (hz : decide (u = []) = z) :
    Calls Try.prog 33 #[.slice A n c, .slice B m d] w fun e w' => e = .returned (.bool z) ∧ Below w.heap.size w w' := by
  refine (leqC_any a b n m A B c d w hla hlb hn hm hra hrb ha hb).mono ?_
  rintro e w' ⟨l, hp, he, hb⟩
  rw [hp.eq hu, hz] at he
  exact ⟨he, hb⟩
set_option maxRecDepth 100000 in
set_option maxHeartbeats 4000000 in
theorem walk_any (ua : List S3) (Aa : Option Addr) (ca : Nat) (ub : List S3) (Ab : Option Addr) (cb : Nat) (w : World) (hra : Rd w w.heap.size 3 Aa ua.length ca (spsC ua)) (hrb : Rd w w.heap.size 3 Ab ub.length cb (spsC ub)) :
    Calls Try.prog 7 #[.slice Aa ua.length ca, .slice Ab ub.length cb] w fun e w' => e = .returned (.bool true) ∧ Below w.heap.size w w' := by
  obtain ⟨na, hna⟩ : ∃ n, n = ua.length := ⟨_, rfl⟩
  rw [← hna] at hra ⊢
  have HLa : Hid (ua.length = na) := hna.symm
  have Ra := Lib.hid hra
  clear hra hna
  obtain ⟨nb, hnb⟩ : ∃ n, n = ub.length := ⟨_, rfl⟩
  rw [← hnb] at hrb ⊢
  have HLb : Hid (ub.length = nb) := hnb.symm
  have Rb := Lib.hid hrb
  clear hrb hnb
  have HB0 : Hid (Below w.heap.size w w) := Below.refl _ _
  by_cases h40a : na ≤ 40
  · have f1 : decide ((40 : Int) < na) = false := decide_eq_false (by omega)
    by_cases h40b : nb ≤ 40
    · have f2 : decide ((40 : Int) < nb) = false := decide_eq_false (by omega)
      cases hR : (rightCB ua && rightCB ub) with
      | false =>
        have HZ : Hid (([⟨Aa, na, ca, ua⟩, ⟨Ab, nb, cb, ub⟩] : List CP).all CP.ok = false) := by unfold Hid; simp only [List.all_cons, List.all_nil, CP.ok, decide_eq_true h40a, decide_eq_true h40b, Bool.true_and, Bool.and_true, hR]
        have HR := Lib.hid hR
        have HSM : Hid (false = (rightCB ua && decide (ua = ub))) := by
          unfold Hid
          by_cases he : ua = ub
          · rw [← he, Bool.and_self] at hR; rw [hR]; rfl
          · rw [decide_eq_false he, Bool.and_false]
        clear hR
        go_enter Try.func7, Try.ntmps7
        go_wp2_with fail
        refine (Cx.awake_any _).mono ?_
        rintro e w1 ⟨rfl, hb⟩
        have HB1 := Lib.hid (HB0.out.trans (hb.mono HB0.out.size))
        have Ra := Lib.hid (Ra.out.later hb)
        have Rb := Lib.hid (Rb.out.later hb)
        clear hb
        go_wp2_with fail
        refine (unionC_bad ua ub na nb Aa Ab ca cb w1 HLa.out HLb.out (by omega) (by omega) Ra.out Rb.out HR.out).mono ?_
        rintro e w2 ⟨rfl, hb⟩
        have HB2 := Lib.hid (HB1.out.trans (hb.mono HB1.out.size))
        have Ra := Lib.hid (Ra.out.later hb)
        have Rb := Lib.hid (Rb.out.later hb)
        clear hb
        go_wp2_with fail
        refine (meetC_bad ua ub na nb Aa Ab ca cb w2 HLa.out HLb.out (by omega) (by omega) Ra.out Rb.out HR.out).mono ?_
        rintro e w3 ⟨rfl, hb⟩
        have HB3 := Lib.hid (HB2.out.trans (hb.mono HB2.out.size))
        have Ra := Lib.hid (Ra.out.later hb)
        have Rb := Lib.hid (Rb.out.later hb)
        clear hb
        go_wp2_with fail
        refine (minusC_bad ua ub na nb Aa Ab ca cb w3 HLa.out HLb.out (by omega) (by omega) Ra.out Rb.out HR.out).mono ?_
        rintro e w4 ⟨rfl, hb⟩
        have HB4 := Lib.hid (HB3.out.trans (hb.mono HB3.out.size))
        have Ra := Lib.hid (Ra.out.later hb)
        have Rb := Lib.hid (Rb.out.later hb)
        clear hb
        go_wp2_with fail
        refine (rights_to [⟨Aa, na, ca, ua⟩, ⟨Ab, nb, cb, ub⟩] #[.slice Aa na ca, .slice Ab nb cb] 2 w4 rfl rfl (by omega) (by intro p hp; simp only [List.mem_cons, List.not_mem_nil, or_false] at hp; rcases hp with rfl | rfl; all_goals first | exact ⟨HLa.out, Ra.out⟩ | exact ⟨HLb.out, Rb.out⟩) false HZ.out).mono ?_
        rintro e w5 ⟨rfl, hb⟩
        have HB5 := Lib.hid (HB4.out.trans (hb.mono HB4.out.size))
        have Ra := Lib.hid (Ra.out.later hb)
        have Rb := Lib.hid (Rb.out.later hb)
        clear hb
        go_wp2_with fail
        refine (leqC_bad ua ub na nb Aa Ab ca cb w5 HLa.out HLb.out (by omega) (by omega) Ra.out Rb.out HR.out).mono ?_
        rintro e w6 ⟨rfl, hb⟩
        have HB6 := Lib.hid (HB5.out.trans (hb.mono HB5.out.size))
        have Ra := Lib.hid (Ra.out.later hb)
        have Rb := Lib.hid (Rb.out.later hb)
        clear hb
        go_wp2_with fail
        refine (sameC_any ua ub na nb Aa Ab ca cb w6 HLa.out HLb.out (by omega) Ra.out Rb.out false HSM.out).mono ?_
        rintro e w7 ⟨rfl, hb⟩
        have HB7 := Lib.hid (HB6.out.trans (hb.mono HB6.out.size))
        have Ra := Lib.hid (Ra.out.later hb)
        have Rb := Lib.hid (Rb.out.later hb)
        clear hb
        go_wp2
        go_ret
        exact ⟨rfl, HB7.out⟩
      | true =>
        have HZ : Hid (([⟨Aa, na, ca, ua⟩, ⟨Ab, nb, cb, ub⟩] : List CP).all CP.ok = true) := by unfold Hid; simp only [List.all_cons, List.all_nil, CP.ok, decide_eq_true h40a, decide_eq_true h40b, Bool.true_and, Bool.and_true, hR]
        obtain ⟨hRa, hRb⟩ := Bool.and_eq_true_iff.1 hR
        obtain ⟨z, hz⟩ : ∃ z, z = decide (ua = ub) := ⟨_, rfl⟩
        have HSM : Hid (z = (rightCB ua && decide (ua = ub))) := by unfold Hid; rw [hRa, Bool.true_and, hz]
        have HSD : Hid (z = decide (ua = ub)) := hz
        have fz : (z == z) = true := by cases z <;> rfl
        have HRa : Hid (RightC ua) := Lib.hid (of_rightCB hRa)
        have HRb : Hid (RightC ub) := Lib.hid (of_rightCB hRb)
        clear hR hRa hRb hz
        go_enter Try.func7, Try.ntmps7
        go_wp2_with fail
        refine (Cx.awake_any _).mono ?_
        rintro e w1 ⟨rfl, hb⟩
        have HB1 := Lib.hid (HB0.out.trans (hb.mono HB0.out.size))
        have Ra := Lib.hid (Ra.out.later hb)
        have Rb := Lib.hid (Rb.out.later hb)
        clear hb
        go_wp2_with fail
        refine (unionC_any ua ub na nb Aa Ab ca cb w1 HLa.out HLb.out (by omega) (by omega) Ra.out Rb.out HRa.out HRb.out).mono ?_
        rintro e w2 ⟨uu, nu, Au, cu, rfl, HLu, HPu, hqu, Ru, hb⟩
        have HB2 := Lib.hid (HB1.out.trans (hb.mono HB1.out.size))
        have Ra := Lib.hid (Ra.out.later hb)
        have Rb := Lib.hid (Rb.out.later hb)
        clear hb
        go_wp2_with fail
        refine (meetC_any ua ub na nb Aa Ab ca cb w2 HLa.out HLb.out (by omega) (by omega) Ra.out Rb.out HRa.out HRb.out).mono ?_
        rintro e w3 ⟨um, nm, Am, cm, rfl, HLm, HPm, hqm, Rm, hb⟩
        have HB3 := Lib.hid (HB2.out.trans (hb.mono HB2.out.size))
        have Ra := Lib.hid (Ra.out.later hb)
        have Rb := Lib.hid (Rb.out.later hb)
        have Ru := Lib.hid (Ru.out.later hb)
        clear hb
        go_wp2_with fail
        refine (minusC_any ua ub na nb Aa Ab ca cb w3 HLa.out HLb.out (by omega) (by omega) Ra.out Rb.out HRa.out HRb.out).mono ?_
        rintro e w4 ⟨ud, nd, Ad, cd, rfl, HLd, HPd, hqd, Rd, hb⟩
        have HB4 := Lib.hid (HB3.out.trans (hb.mono HB3.out.size))
        have Ra := Lib.hid (Ra.out.later hb)
        have Rb := Lib.hid (Rb.out.later hb)
        have Ru := Lib.hid (Ru.out.later hb)
        have Rm := Lib.hid (Rm.out.later hb)
        clear hb
        go_wp2_with fail
        refine (rights_to [⟨Aa, na, ca, ua⟩, ⟨Ab, nb, cb, ub⟩] #[.slice Aa na ca, .slice Ab nb cb] 2 w4 rfl rfl (by omega) (by intro p hp; simp only [List.mem_cons, List.not_mem_nil, or_false] at hp; rcases hp with rfl | rfl; all_goals first | exact ⟨HLa.out, Ra.out⟩ | exact ⟨HLb.out, Rb.out⟩) true HZ.out).mono ?_
        rintro e w5 ⟨rfl, hb⟩
        have HB5 := Lib.hid (HB4.out.trans (hb.mono HB4.out.size))
        have Ra := Lib.hid (Ra.out.later hb)
        have Rb := Lib.hid (Rb.out.later hb)
        have Ru := Lib.hid (Ru.out.later hb)
        have Rm := Lib.hid (Rm.out.later hb)
        have Rd := Lib.hid (Rd.out.later hb)
        clear hb
        go_wp2_with fail
        refine (refbyC_any minF 2 (.inr (.inr ⟨rfl, rfl⟩)) ua ub ud na nb nd Aa Ab ca cb w5 HLa.out HLb.out HLd.out (by omega) (by omega) Ra.out Rb.out HRa.out HRb.out HPd.out (by omega)).mono ?_
        rintro e w6 ⟨Ap, cp, rfl, hrp, hb⟩
        have HB6 := Lib.hid (HB5.out.trans (hb.mono HB5.out.size))
        have Ra := Lib.hid (Ra.out.later hb)
        have Rb := Lib.hid (Rb.out.later hb)
        have Ru := Lib.hid (Ru.out.later hb)
        have Rm := Lib.hid (Rm.out.later hb)
        have Rd := Lib.hid (Rd.out.later hb)
        clear hb
        have Rp := Lib.hid hrp
        clear hrp
        go_wp2_with fail
        refine (refunionC_any ua ub uu na nb nu Aa Ab ca cb w6 HLa.out HLb.out HLu.out (by omega) (by omega) Ra.out Rb.out HRa.out HRb.out HPu.out (by omega)).mono ?_
        rintro e w7 ⟨Aq, cq, rfl, hrq, hb⟩
        have HB7 := Lib.hid (HB6.out.trans (hb.mono HB6.out.size))
        have Ra := Lib.hid (Ra.out.later hb)
        have Rb := Lib.hid (Rb.out.later hb)
        have Ru := Lib.hid (Ru.out.later hb)
        have Rm := Lib.hid (Rm.out.later hb)
        have Rd := Lib.hid (Rd.out.later hb)
        have Rp := Lib.hid (Rp.out.later hb)
        clear hb
        have Rq := Lib.hid hrq
        clear hrq
        go_wp2_with fail
        refine (refsameC_any uu uu nu nu Au Aq cu cq w7 HLu.out HLu.out (by omega) Ru.out Rq.out true (by simp)).mono ?_
        rintro e w8 ⟨rfl, hb⟩
        have HB8 := Lib.hid (HB7.out.trans (hb.mono HB7.out.size))
        have Ra := Lib.hid (Ra.out.later hb)
        have Rb := Lib.hid (Rb.out.later hb)
        have Ru := Lib.hid (Ru.out.later hb)
        have Rm := Lib.hid (Rm.out.later hb)
        have Rd := Lib.hid (Rd.out.later hb)
        have Rp := Lib.hid (Rp.out.later hb)
        have Rq := Lib.hid (Rq.out.later hb)
        clear hb
        go_wp2_with fail
        refine (refbyC_any metF 1 (.inr (.inl ⟨rfl, rfl⟩)) ua ub um na nb nm Aa Ab ca cb w8 HLa.out HLb.out HLm.out (by omega) (by omega) Ra.out Rb.out HRa.out HRb.out HPm.out (by omega)).mono ?_
        rintro e w9 ⟨Ar, cr, rfl, hrr, hb⟩
        have HB9 := Lib.hid (HB8.out.trans (hb.mono HB8.out.size))
        have Ra := Lib.hid (Ra.out.later hb)
        have Rb := Lib.hid (Rb.out.later hb)
        have Ru := Lib.hid (Ru.out.later hb)
        have Rm := Lib.hid (Rm.out.later hb)
        have Rd := Lib.hid (Rd.out.later hb)
        have Rp := Lib.hid (Rp.out.later hb)
        have Rq := Lib.hid (Rq.out.later hb)
        clear hb
        have Rr := Lib.hid hrr
        clear hrr
        go_wp2_with fail
        refine (refsameC_any um um nm nm Am Ar cm cr w9 HLm.out HLm.out (by omega) Rm.out Rr.out true (by simp)).mono ?_
        rintro e w10 ⟨rfl, hb⟩
        have HB10 := Lib.hid (HB9.out.trans (hb.mono HB9.out.size))
        have Ra := Lib.hid (Ra.out.later hb)
        have Rb := Lib.hid (Rb.out.later hb)
        have Ru := Lib.hid (Ru.out.later hb)
        have Rm := Lib.hid (Rm.out.later hb)
        have Rd := Lib.hid (Rd.out.later hb)
        have Rp := Lib.hid (Rp.out.later hb)
        have Rq := Lib.hid (Rq.out.later hb)
        have Rr := Lib.hid (Rr.out.later hb)
        clear hb
        go_wp2_with fail
        refine (refsameC_any ud ud nd nd Ad Ap cd cp w10 HLd.out HLd.out (by omega) Rd.out Rp.out true (by simp)).mono ?_
        rintro e w11 ⟨rfl, hb⟩
        have HB11 := Lib.hid (HB10.out.trans (hb.mono HB10.out.size))
        have Ra := Lib.hid (Ra.out.later hb)
        have Rb := Lib.hid (Rb.out.later hb)
        have Ru := Lib.hid (Ru.out.later hb)
        have Rm := Lib.hid (Rm.out.later hb)
        have Rd := Lib.hid (Rd.out.later hb)
        have Rp := Lib.hid (Rp.out.later hb)
        have Rq := Lib.hid (Rq.out.later hb)
        have Rr := Lib.hid (Rr.out.later hb)
        clear hb
        obtain ⟨y, hy⟩ : ∃ y, y = decide (ud = []) := ⟨_, rfl⟩
        have fy : ((nd : Int) == 0) = y := by rw [hy, ← HLd.out]; cases ud with | nil => rfl | cons r l => simp; omega
        have fyy : (y == y) = true := by cases y <;> rfl
        have HYY := Lib.hid hy.symm
        clear hy
        go_wp2_with fail
        refine (leqC_to ua ub na nb Aa Ab ca cb w11 HLa.out HLb.out (by omega) (by omega) Ra.out Rb.out HRa.out HRb.out ud HPd.out y HYY.out).mono ?_
        rintro e w12 ⟨rfl, hb⟩
        have HB12 := Lib.hid (HB11.out.trans (hb.mono HB11.out.size))
        have Ra := Lib.hid (Ra.out.later hb)
        have Rb := Lib.hid (Rb.out.later hb)
        have Ru := Lib.hid (Ru.out.later hb)
        have Rm := Lib.hid (Rm.out.later hb)
        have Rd := Lib.hid (Rd.out.later hb)
        have Rp := Lib.hid (Rp.out.later hb)
        have Rq := Lib.hid (Rq.out.later hb)
        have Rr := Lib.hid (Rr.out.later hb)
        clear hb
        go_wp2_with fail
        refine (sameC_any ua ub na nb Aa Ab ca cb w12 HLa.out HLb.out (by omega) Ra.out Rb.out z HSM.out).mono ?_
        rintro e w13 ⟨rfl, hb⟩
        have HB13 := Lib.hid (HB12.out.trans (hb.mono HB12.out.size))
        have Ra := Lib.hid (Ra.out.later hb)
        have Rb := Lib.hid (Rb.out.later hb)
        have Ru := Lib.hid (Ru.out.later hb)
        have Rm := Lib.hid (Rm.out.later hb)
        have Rd := Lib.hid (Rd.out.later hb)
        have Rp := Lib.hid (Rp.out.later hb)
        have Rq := Lib.hid (Rq.out.later hb)
        have Rr := Lib.hid (Rr.out.later hb)
        clear hb
        go_wp2_with fail
        refine (refsameC_any ua ub na nb Aa Ab ca cb w13 HLa.out HLb.out (by omega) Ra.out Rb.out z HSD.out).mono ?_
        rintro e w14 ⟨rfl, hb⟩
        have HB14 := Lib.hid (HB13.out.trans (hb.mono HB13.out.size))
        have Ra := Lib.hid (Ra.out.later hb)
        have Rb := Lib.hid (Rb.out.later hb)
        have Ru := Lib.hid (Ru.out.later hb)
        have Rm := Lib.hid (Rm.out.later hb)
        have Rd := Lib.hid (Rd.out.later hb)
        have Rp := Lib.hid (Rp.out.later hb)
        have Rq := Lib.hid (Rq.out.later hb)
        have Rr := Lib.hid (Rr.out.later hb)
        clear hb
        go_wp2
        go_ret
        exact ⟨rfl, HB14.out⟩
    · have f2 : decide ((40 : Int) < nb) = true := decide_eq_true (by omega)
      go_enter Try.func7, Try.ntmps7
      go_wp2_with fail
      refine (Cx.awake_any _).mono ?_
      rintro e w1 ⟨rfl, hb⟩
      have HB1 := Lib.hid (HB0.out.trans (hb.mono HB0.out.size))
      have Ra := Lib.hid (Ra.out.later hb)
      have Rb := Lib.hid (Rb.out.later hb)
      clear hb
      go_wp2_with fail
      refine (Cx.awake_any _).mono ?_
      rintro e w2 ⟨rfl, hb⟩
      have HB2 := Lib.hid (HB1.out.trans (hb.mono HB1.out.size))
      have Ra := Lib.hid (Ra.out.later hb)
      have Rb := Lib.hid (Rb.out.later hb)
      clear hb
      go_wp2
      go_ret
      exact ⟨rfl, HB2.out⟩
  · have f1 : decide ((40 : Int) < na) = true := decide_eq_true (by omega)
    go_enter Try.func7, Try.ntmps7
    go_wp2_with fail
    refine (Cx.awake_any _).mono ?_
    rintro e w1 ⟨rfl, hb⟩
    have HB1 := Lib.hid (HB0.out.trans (hb.mono HB0.out.size))
    have Ra := Lib.hid (Ra.out.later hb)
    have Rb := Lib.hid (Rb.out.later hb)
    clear hb
    go_wp2_with fail
    refine (Cx.awake_any _).mono ?_
    rintro e w2 ⟨rfl, hb⟩
    have HB2 := Lib.hid (HB1.out.trans (hb.mono HB1.out.size))
    have Ra := Lib.hid (Ra.out.later hb)
    have Rb := Lib.hid (Rb.out.later hb)
    clear hb
    go_wp2
    go_ret
    exact ⟨rfl, HB2.out⟩
set_option maxRecDepth 100000 in
theorem lifted (os : Os) (started : os.Started) (H : Type) (enc : TypeId × Value → H) :
    ReturnsInHanded {} Try.checked os 7 .any (Rows.contextSetsSpec.pre6 enc Try.prog Try.f7 Rows.contextSetsRow.domain false) (Rows.contextSetsSpec.post enc Try.prog Try.f7 false true false false) := by
  refine returnsInHanded_of_change (C := Try.checked) own started (by kernel_rfl) Try.func7
    (ChangeSpec.witness6 (enc := enc) (C := Try.checked) false ⟨#[], #[.slice none 0 0, .slice none 0 0], []⟩ 8 (by kernel_rfl) (by kernel_rfl) (by kernel_rfl) (by kernel_rfl)) ?_
  intro W base args ds gs before hval0 hW _ _
  have hval : ∀ (j : Nat) t v, Try.f7.params[j]? = some t → args[j]? = some v → Value.okWide Try.prog W .any base t v := hval0
  have hW' := hW
  obtain ⟨p, q, hA0, hV, rfl, hfz, hnd⟩ := hW
  have hA : DataW.TrodAll enc Try.prog W 0 (fun _ => true) true Try.f7.params.toList args.toList ds p := hA0
  rw [Try.params7] at hA hval
  obtain ⟨v0, v1, d0, d1, p0, p1, rfl, rfl, rfl, h0, h1⟩ := trodAll_two hA
  obtain ⟨rfl, rfl⟩ := trodVars_none hV
  obtain ⟨a0, len0, cap0, rfl⟩ := okWide_slice Try.underlying23 (hval 0 23 v0 rfl rfl)
  obtain ⟨fuel0, hf0⟩ := h0
  obtain ⟨l0, rfl, hr0, _⟩ := Cx.ctx_of_trod hf0
  obtain ⟨a1, len1, cap1, rfl⟩ := okWide_slice Try.underlying23 (hval 1 23 v1 rfl rfl)
  obtain ⟨fuel1, hf1⟩ := h1
  obtain ⟨l1, rfl, hr1, _⟩ := Cx.ctx_of_trod hf1
  refine (walk_any l0 a0 cap0 l1 a1 cap1 W hr0 hr1).mono fun e W' ⟨he, hb⟩ => ?_
  subst he
  exact ⟨_, rfl, law_post hW' (by kernel_rfl) rfl rfl rfl hb⟩
theorem proved : Rows.ContextSetsSaid :=
  OpenClaim.holds_of_wide 7 Try.f7 rfl rfl rfl rfl rfl rfl rfl ⟨rfl, rfl, rfl, rfl, rfl⟩ rfl rfl rfl rfl rfl (by kernel_rfl) Try.func7 (by kernel_rfl)
    (of_decide_eq_true (by kernel_rfl)) (by unfold Func.isWrapper; first | (rw [if_pos (by decide +kernel)]; kernel_rfl) | (rw [if_neg (by decide +kernel)]; exact ⟨rfl, rfl⟩))
    (fun os started H enc _ => lifted os started H enc)
#print axioms proved
end Go.Proofs.Ytfkkjgebemnhnaa.lawContextSets
