/- ContextHas answers true for every list of spans and every dot. No condition. -/
import Derived.Test.YtfkkjgebemnhnaaCtxHas
import Derived.Test.YtfkkjgebemnhnaaCtxAwake
import Derived.Test.YtfkkjgebemnhnaaCtxArgs
import Derived.ProofKit
import Derived.OpenShut
namespace Go.Proofs.Ytfkkjgebemnhnaa.lawContextHas
open Go.ChangeShapes Go.WideShapes Go.ChangeAt Go.RowKit Sp Rw Cx
set_option maxRecDepth 100000 in
set_option maxHeartbeats 2000000 in
theorem walk_any (ua : List S3) (Aa : Option Addr) (ca : Nat) (a v : Int) (w : World) (hra : Rd w w.heap.size 3 Aa ua.length ca (spsC ua)) :
    Calls Try.prog 6 #[.slice Aa ua.length ca, .agg #[.int .i64 a, .int .i64 v]] w fun e w' => e = .returned (.bool true) ∧ Below w.heap.size w w' := by
  obtain ⟨na, hna⟩ : ∃ n, n = ua.length := ⟨_, rfl⟩
  rw [← hna] at hra ⊢
  have HLa : Hid (ua.length = na) := hna.symm
  have Ra := Lib.hid hra
  clear hra hna
  obtain ⟨g, hg⟩ : ∃ g, g = w.heap.size := ⟨_, rfl⟩
  obtain ⟨W0, hW0⟩ : ∃ W, W = w.alloc (.cells #[.int .i64 a, .int .i64 v] 41) := ⟨_, rfl⟩
  have CK : Hid (Kept [(⟨g, 0, none⟩, .int .i64 a), (⟨g, 1, none⟩, .int .i64 v)] w W0) := by
    rw [hW0, hg]
    exact (((Kept.nil w).alloc _).cons_of (by go_simp)).cons_of (by go_simp)
  have HB0 : Hid (Below w.heap.size w W0) := CK.out.below
  have HG := Lib.hid hg
  have HW0 := Lib.hid hW0
  have Ra : Hid (Rd W0 W0.heap.size 3 Aa na ca (spsC ua)) := (Ra.out.below HB0.out).more HB0.out.size
  clear hg hW0
  by_cases h1000 : na ≤ 1000
  · have f1 : decide ((1000 : Int) < na) = false := decide_eq_false (by omega)
    cases hR : rightCB ua with
    | true =>
      have HR0 := Lib.hid hR
      obtain ⟨p, hp⟩ : ∃ p, p = hasCB ua a v := ⟨_, rfl⟩
      have HP := Lib.hid hp.symm
      clear hR hp
      go_enter Try.func6, Try.ntmps6
      go_wp2_with fail
      rw [← HG.out, ← HW0.out]
      refine (Cx.awake_any _).mono ?_
      rintro e w1 ⟨rfl, hb⟩
      have HB1 := Lib.hid (HB0.out.trans (hb.mono HB0.out.size))
      have Ra := Lib.hid (Ra.out.later hb)
      have CK := Lib.hid (CK.out.later hb)
      clear hb
      have k0 := CK.out.c0
      have k1 := CK.out.c1
      go_wp2_with fail
      refine (hasC_any ua na Aa ca a v w1 HLa.out (by omega) Ra.out p HP.out).mono ?_
      rintro e w2 ⟨rfl, hb⟩
      have HB2 := Lib.hid (HB1.out.trans (hb.mono HB1.out.size))
      have Ra := Lib.hid (Ra.out.later hb)
      have CK := Lib.hid (CK.out.later hb)
      clear hb
      clear k0 k1
      go_wp2_with fail
      refine (refrightC_any ua na Aa ca w2 HLa.out (by omega) Ra.out true HR0.out).mono ?_
      rintro e w3 ⟨rfl, hb⟩
      have HB3 := Lib.hid (HB2.out.trans (hb.mono HB2.out.size))
      have Ra := Lib.hid (Ra.out.later hb)
      have CK := Lib.hid (CK.out.later hb)
      clear hb
      have k0 := CK.out.c0
      have k1 := CK.out.c1
      go_wp2_with fail
      refine (refhasC_any ua na Aa ca a v w3 HLa.out (by omega) Ra.out HR0.out p HP.out).mono ?_
      rintro e w4 ⟨rfl, hb⟩
      have HB4 := Lib.hid (HB3.out.trans (hb.mono HB3.out.size))
      have Ra := Lib.hid (Ra.out.later hb)
      have CK := Lib.hid (CK.out.later hb)
      clear hb
      have fp : (p == p) = true := by cases p <;> rfl
      go_wp2
      go_ret
      exact ⟨rfl, HB4.out⟩
    | false =>
      have HR0 := Lib.hid hR
      obtain ⟨p, hp⟩ : ∃ p, p = hasCB ua a v := ⟨_, rfl⟩
      have hpf : p = false := by rw [hp]; unfold hasCB; rw [hR]; cases Dt.rightB a v <;> rfl
      subst hpf
      have HP := Lib.hid hp.symm
      clear hR hp
      go_enter Try.func6, Try.ntmps6
      go_wp2_with fail
      rw [← HG.out, ← HW0.out]
      refine (Cx.awake_any _).mono ?_
      rintro e w1 ⟨rfl, hb⟩
      have HB1 := Lib.hid (HB0.out.trans (hb.mono HB0.out.size))
      have Ra := Lib.hid (Ra.out.later hb)
      have CK := Lib.hid (CK.out.later hb)
      clear hb
      have k0 := CK.out.c0
      have k1 := CK.out.c1
      go_wp2_with fail
      refine (hasC_any ua na Aa ca a v w1 HLa.out (by omega) Ra.out false HP.out).mono ?_
      rintro e w2 ⟨rfl, hb⟩
      have HB2 := Lib.hid (HB1.out.trans (hb.mono HB1.out.size))
      have Ra := Lib.hid (Ra.out.later hb)
      have CK := Lib.hid (CK.out.later hb)
      clear hb
      clear k0 k1
      go_wp2_with fail
      refine (refrightC_any ua na Aa ca w2 HLa.out (by omega) Ra.out false HR0.out).mono ?_
      rintro e w3 ⟨rfl, hb⟩
      have HB3 := Lib.hid (HB2.out.trans (hb.mono HB2.out.size))
      have Ra := Lib.hid (Ra.out.later hb)
      have CK := Lib.hid (CK.out.later hb)
      clear hb
      have k0 := CK.out.c0
      have k1 := CK.out.c1
      go_wp2
      go_ret
      exact ⟨rfl, HB3.out⟩
  · have f1 : decide ((1000 : Int) < na) = true := decide_eq_true (by omega)
    go_enter Try.func6, Try.ntmps6
    go_wp2_with fail
    rw [← HG.out, ← HW0.out]
    refine (Cx.awake_any _).mono ?_
    rintro e w1 ⟨rfl, hb⟩
    have HB1 := Lib.hid (HB0.out.trans (hb.mono HB0.out.size))
    have Ra := Lib.hid (Ra.out.later hb)
    have CK := Lib.hid (CK.out.later hb)
    clear hb
    go_wp2_with fail
    refine (Cx.awake_any _).mono ?_
    rintro e w2 ⟨rfl, hb⟩
    have HB2 := Lib.hid (HB1.out.trans (hb.mono HB1.out.size))
    have Ra := Lib.hid (Ra.out.later hb)
    have CK := Lib.hid (CK.out.later hb)
    clear hb
    go_wp2
    go_ret
    exact ⟨rfl, HB2.out⟩
set_option maxRecDepth 100000 in
theorem lifted (os : Os) (started : os.Started) (H : Type) (enc : TypeId × Value → H) :
    ReturnsInHanded {} Try.checked os 6 .any (Rows.contextHasSpec.pre6 enc Try.prog Try.f6 Rows.contextHasRow.domain false) (Rows.contextHasSpec.post enc Try.prog Try.f6 false true false false) := by
  refine returnsInHanded_of_change (C := Try.checked) own started (by kernel_rfl) Try.func6
    (ChangeSpec.witness6 (enc := enc) (C := Try.checked) false ⟨#[], #[.slice none 0 0, .agg #[.int .i64 0, .int .i64 0]], []⟩ 8 (by kernel_rfl) (by kernel_rfl) (by kernel_rfl) (by kernel_rfl)) ?_
  intro W base args ds gs before hval0 hW _ _
  have hval : ∀ (j : Nat) t v, Try.f6.params[j]? = some t → args[j]? = some v → Value.okWide Try.prog W .any base t v := hval0
  have hW' := hW
  obtain ⟨p, q, hA0, hV, rfl, hfz, hnd⟩ := hW
  have hA : DataW.TrodAll enc Try.prog W 0 (fun _ => true) true Try.f6.params.toList args.toList ds p := hA0
  rw [Try.params6] at hA hval
  obtain ⟨v0, v1, d0, d1, p0, p1, rfl, rfl, rfl, h0, h1⟩ := trodAll_two hA
  obtain ⟨rfl, rfl⟩ := trodVars_none hV
  obtain ⟨a0, len0, cap0, rfl⟩ := okWide_slice Try.underlying23 (hval 0 23 v0 rfl rfl)
  obtain ⟨fuel0, hf0⟩ := h0
  obtain ⟨l0, rfl, hr0, _⟩ := Cx.ctx_of_trod hf0
  obtain ⟨a1, n1, rfl, ba1, bn1⟩ := Dt.dot_of_trod (hval 1 41 v1 rfl rfl) h1
  refine (walk_any l0 a0 cap0 a1 n1 W hr0 ).mono fun e W' ⟨he, hb⟩ => ?_
  subst he
  exact ⟨_, rfl, law_post hW' (by kernel_rfl) rfl rfl rfl hb⟩
theorem proved : Rows.ContextHasSaid :=
  OpenClaim.holds_of_wide 6 Try.f6 rfl rfl rfl rfl rfl rfl rfl ⟨rfl, rfl, rfl, rfl, rfl⟩ rfl rfl rfl rfl rfl (by kernel_rfl) Try.func6 (by kernel_rfl)
    (of_decide_eq_true (by kernel_rfl)) (by unfold Func.isWrapper; first | (rw [if_pos (by decide +kernel)]; kernel_rfl) | (rw [if_neg (by decide +kernel)]; exact ⟨rfl, rfl⟩))
    (fun os started H enc _ => lifted os started H enc)
#print axioms proved
end Go.Proofs.Ytfkkjgebemnhnaa.lawContextHas
