/- SpanHas answers true for every list of pairs of whole numbers and every number. No condition. -/
import Derived.Test.YtcdpmedihgobcaaSpanKit0
import Derived.ProofKit
import Derived.OpenShut
namespace Go.Proofs.Ytcdpmedihgobcaa.lawSpanHas
open Go.ChangeShapes Go.WideShapes Go.ChangeAt Go.RowKit Sp
set_option maxRecDepth 100000 in
set_option maxHeartbeats 1000000 in
theorem walk_any (ua : List (Int × Int)) (Aa : Option Addr) (ca : Nat) (v : Int) (w : World) (hra : Rd w w.heap.size 2 Aa ua.length ca (runsC ua)) (_ : -9223372036854775808 ≤ v ∧ v ≤ 9223372036854775807) :
    Calls Try.prog 5 #[.slice Aa ua.length ca, .int .i64 v] w fun e w' => e = .returned (.bool true) ∧ Below w.heap.size w w' := by
  obtain ⟨na, hna⟩ : ∃ n, n = ua.length := ⟨_, rfl⟩
  rw [← hna] at hra ⊢
  have HLa : Hid (ua.length = na) := hna.symm
  have Ra := Lib.hid hra
  clear hra hna
  have HB0 : Hid (Below w.heap.size w w) := Below.refl _ _
  by_cases h1000 : na ≤ 1000
  · have f1 : decide ((1000 : Int) < na) = false := decide_eq_false (by omega)
    obtain ⟨p, hp⟩ : ∃ p, p = hasB ua v := ⟨_, rfl⟩
    have HP := Lib.hid hp.symm
    clear hp
    cases hR : rightB ua with
    | true =>
      have HR0 := Lib.hid hR
      clear hR
      go_enter Try.func5, Try.ntmps5
      go_wp2_with fail
      refine (awake_any _).mono ?_
      rintro e w1 ⟨rfl, hb⟩
      have HB1 := Lib.hid (HB0.out.trans (hb.mono HB0.out.size))
      have Ra := Lib.hid (Ra.out.later hb)
      clear hb
      go_wp2_with fail
      refine (runs_to ua na Aa ca w1 HLa.out (by omega) Ra.out).mono ?_
      rintro e w2 ⟨Ax, cx, rfl, hrx, hb⟩
      have HB2 := Lib.hid (HB1.out.trans (hb.mono HB1.out.size))
      have Ra := Lib.hid (Ra.out.later hb)
      clear hb
      have Rx := Lib.hid hrx
      clear hrx
      go_wp2_with fail
      refine (has_to ua na Ax cx w2 v HLa.out (by omega) Rx.out p (by rw [HR0.out, HP.out]; rfl)).mono ?_
      rintro e w3 ⟨rfl, hb⟩
      have HB3 := Lib.hid (HB2.out.trans (hb.mono HB2.out.size))
      have Ra := Lib.hid (Ra.out.later hb)
      have Rx := Lib.hid (Rx.out.later hb)
      clear hb
      go_wp2_with fail
      refine (refright_to ua na Aa ca w3 HLa.out (by omega) Ra.out true HR0.out).mono ?_
      rintro e w4 ⟨rfl, hb⟩
      have HB4 := Lib.hid (HB3.out.trans (hb.mono HB3.out.size))
      have Ra := Lib.hid (Ra.out.later hb)
      have Rx := Lib.hid (Rx.out.later hb)
      clear hb
      go_wp2_with fail
      refine (refhas_to ua na Aa ca w4 v HLa.out (by omega) Ra.out p HP.out).mono ?_
      rintro e w5 ⟨rfl, hb⟩
      have HB5 := Lib.hid (HB4.out.trans (hb.mono HB4.out.size))
      have Ra := Lib.hid (Ra.out.later hb)
      have Rx := Lib.hid (Rx.out.later hb)
      clear hb
      have fp : (p == p) = true := by cases p <;> rfl
      go_wp2
      go_ret
      exact ⟨rfl, HB5.out⟩
    | false =>
      have HR0 := Lib.hid hR
      clear hR
      go_enter Try.func5, Try.ntmps5
      go_wp2_with fail
      refine (awake_any _).mono ?_
      rintro e w1 ⟨rfl, hb⟩
      have HB1 := Lib.hid (HB0.out.trans (hb.mono HB0.out.size))
      have Ra := Lib.hid (Ra.out.later hb)
      clear hb
      go_wp2_with fail
      refine (runs_to ua na Aa ca w1 HLa.out (by omega) Ra.out).mono ?_
      rintro e w2 ⟨Ax, cx, rfl, hrx, hb⟩
      have HB2 := Lib.hid (HB1.out.trans (hb.mono HB1.out.size))
      have Ra := Lib.hid (Ra.out.later hb)
      clear hb
      have Rx := Lib.hid hrx
      clear hrx
      go_wp2_with fail
      refine (has_to ua na Ax cx w2 v HLa.out (by omega) Rx.out false (by rw [HR0.out]; rfl)).mono ?_
      rintro e w3 ⟨rfl, hb⟩
      have HB3 := Lib.hid (HB2.out.trans (hb.mono HB2.out.size))
      have Ra := Lib.hid (Ra.out.later hb)
      have Rx := Lib.hid (Rx.out.later hb)
      clear hb
      go_wp2_with fail
      refine (refright_to ua na Aa ca w3 HLa.out (by omega) Ra.out false HR0.out).mono ?_
      rintro e w4 ⟨rfl, hb⟩
      have HB4 := Lib.hid (HB3.out.trans (hb.mono HB3.out.size))
      have Ra := Lib.hid (Ra.out.later hb)
      have Rx := Lib.hid (Rx.out.later hb)
      clear hb
      have fp : (p == p) = true := by cases p <;> rfl
      go_wp2
      go_ret
      exact ⟨rfl, HB4.out⟩
  · have f1 : decide ((1000 : Int) < na) = true := decide_eq_true (by omega)
    go_enter Try.func5, Try.ntmps5
    go_wp2_with fail
    refine (awake_any _).mono ?_
    rintro e w1 ⟨rfl, hb⟩
    have HB1 := Lib.hid (HB0.out.trans (hb.mono HB0.out.size))
    have Ra := Lib.hid (Ra.out.later hb)
    clear hb
    go_wp2_with fail
    refine (awake_any _).mono ?_
    rintro e w2 ⟨rfl, hb⟩
    have HB2 := Lib.hid (HB1.out.trans (hb.mono HB1.out.size))
    have Ra := Lib.hid (Ra.out.later hb)
    clear hb
    go_wp2
    go_ret
    exact ⟨rfl, HB2.out⟩
set_option maxRecDepth 100000 in
theorem lifted (os : Os) (started : os.Started) (H : Type) (enc : TypeId × Value → H) :
    ReturnsInHanded {} Try.checked os 5 .any (Rows.spanHasSpec.pre6 enc Try.prog Try.f5 Rows.spanHasRow.domain false) (Rows.spanHasSpec.post enc Try.prog Try.f5 false true false false) := by
  refine returnsInHanded_of_change (C := Try.checked) own started (by kernel_rfl) Try.func5
    (ChangeSpec.witness6 (enc := enc) (C := Try.checked) false ⟨#[], #[.slice none 0 0, .int .i64 0], []⟩ 8 (by kernel_rfl) (by kernel_rfl) (by kernel_rfl) (by kernel_rfl)) ?_
  intro W base args ds gs before hval0 hW _ _
  have hval : ∀ (j : Nat) t v, Try.f5.params[j]? = some t → args[j]? = some v → Value.okWide Try.prog W .any base t v := hval0
  have hW' := hW
  obtain ⟨p, q, hA0, hV, rfl, hfz, hnd⟩ := hW
  have hA : DataW.TrodAll enc Try.prog W 0 (fun _ => true) true Try.f5.params.toList args.toList ds p := hA0
  rw [Try.params5] at hA hval
  obtain ⟨v0, v1, d0, d1, p0, p1, rfl, rfl, rfl, h0, h1⟩ := trodAll_two hA
  obtain ⟨rfl, rfl⟩ := trodVars_none hV
  obtain ⟨a0, len0, cap0, rfl⟩ := okWide_slice Try.underlying22 (hval 0 22 v0 rfl rfl)
  obtain ⟨fuel0, hf0⟩ := h0
  obtain ⟨l0, rfl, hr0, _⟩ := Sp.runs_of_trod hf0
  obtain ⟨x1, rfl, rfl, rfl, w1⟩ := open_int Try.underlying2 (hval 1 2 v1 rfl rfl) h1
  refine (walk_any l0 a0 cap0 x1 W hr0 (Sp.wf_i64 w1)).mono fun e W' ⟨he, hb⟩ => ?_
  subst he
  exact ⟨_, rfl, law_post hW' (by kernel_rfl) rfl rfl rfl hb⟩
theorem proved : Rows.SpanHasSaid :=
  OpenClaim.holds_of_wide 5 Try.f5 rfl rfl rfl rfl rfl rfl rfl ⟨rfl, rfl, rfl, rfl, rfl⟩ rfl rfl rfl rfl rfl (by kernel_rfl) Try.func5 (by kernel_rfl)
    (of_decide_eq_true (by kernel_rfl)) (by unfold Func.isWrapper; first | (rw [if_pos (by decide +kernel)]; kernel_rfl) | (rw [if_neg (by decide +kernel)]; exact ⟨rfl, rfl⟩))
    (fun os started H enc _ => lifted os started H enc)
#print axioms proved
end Go.Proofs.Ytcdpmedihgobcaa.lawSpanHas
