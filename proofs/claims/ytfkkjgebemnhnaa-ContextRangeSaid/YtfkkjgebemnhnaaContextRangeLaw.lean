/- ContextRange answers true for every center and every two numbers. No condition. -/
import Derived.Test.YtfkkjgebemnhnaaCtxRange
import Derived.Test.YtfkkjgebemnhnaaCtxAwake
import Derived.Test.YtfkkjgebemnhnaaCtxArgs
import Derived.ProofKit
import Derived.OpenShut
namespace Go.Proofs.Ytfkkjgebemnhnaa.lawContextRange
open Go.ChangeShapes Go.WideShapes Go.ChangeAt Go.RowKit Sp Rw Cx
set_option maxRecDepth 100000 in
set_option maxHeartbeats 2000000 in
theorem walk_any (a x y : Int) (w : World) (_ : -9223372036854775808 ≤ a ∧ a ≤ 9223372036854775807) (_ : -9223372036854775808 ≤ x ∧ x ≤ 9223372036854775807) (_ : -9223372036854775808 ≤ y ∧ y ≤ 9223372036854775807) :
    Calls Try.prog 5 #[.int .i64 a, .int .i64 x, .int .i64 y] w fun e w' => e = .returned (.bool true) ∧ Below w.heap.size w w' := by
  have HB0 : Hid (Below w.heap.size w w) := Below.refl _ _
  cases hg : (Dt.rightB a x && Dt.rightB a y) with
  | false =>
    have HG := Lib.hid hg
    obtain ⟨p, hp⟩ : ∃ p, p = Dt.rightB a x := ⟨_, rfl⟩
    obtain ⟨q, hq⟩ : ∃ q, q = Dt.rightB a y := ⟨_, rfl⟩
    rw [← hp, ← hq] at hg
    have H1 := fun W => Lib.hid (Dt.refright_any a x W)
    have H2 := fun W => Lib.hid (Dt.refright_any a y W)
    rw [← hp] at H1
    rw [← hq] at H2
    clear hp hq
    cases p with
    | false =>
      clear hg
      go_enter Try.func5, Try.ntmps5
      go_wp2_with fail
      refine (range_bad a x y w HG.out).mono ?_
      rintro e w1 ⟨rfl, hb⟩
      have HB1 := Lib.hid (HB0.out.trans (hb.mono HB0.out.size))
      clear hb
      go_wp2_with fail
      refine (Cx.awake_any _).mono ?_
      rintro e w2 ⟨rfl, hb⟩
      have HB2 := Lib.hid (HB1.out.trans (hb.mono HB1.out.size))
      clear hb
      go_wp2_with fail
      refine ((H1 _).out).mono ?_
      rintro e w3 ⟨rfl, hb⟩
      have HB3 := Lib.hid (HB2.out.trans (hb.mono HB2.out.size))
      clear hb
      go_wp2
      go_ret
      exact ⟨rfl, HB3.out⟩
    | true =>
      rw [Bool.true_and] at hg
      subst hg
      go_enter Try.func5, Try.ntmps5
      go_wp2_with fail
      refine (range_bad a x y w HG.out).mono ?_
      rintro e w1 ⟨rfl, hb⟩
      have HB1 := Lib.hid (HB0.out.trans (hb.mono HB0.out.size))
      clear hb
      go_wp2_with fail
      refine (Cx.awake_any _).mono ?_
      rintro e w2 ⟨rfl, hb⟩
      have HB2 := Lib.hid (HB1.out.trans (hb.mono HB1.out.size))
      clear hb
      go_wp2_with fail
      refine ((H1 _).out).mono ?_
      rintro e w3 ⟨rfl, hb⟩
      have HB3 := Lib.hid (HB2.out.trans (hb.mono HB2.out.size))
      clear hb
      go_wp2_with fail
      refine ((H2 _).out).mono ?_
      rintro e w4 ⟨rfl, hb⟩
      have HB4 := Lib.hid (HB3.out.trans (hb.mono HB3.out.size))
      clear hb
      go_wp2
      go_ret
      exact ⟨rfl, HB4.out⟩
  | true =>
    obtain ⟨g1, g2⟩ := Bool.and_eq_true_iff.1 hg
    clear hg
    have G1 := Lib.hid g1
    have G2 := Lib.hid g2
    have H1 := fun W => Lib.hid (Dt.refright_any a x W)
    have H2 := fun W => Lib.hid (Dt.refright_any a y W)
    rw [g1] at H1
    rw [g2] at H2
    clear g1 g2
    by_cases h : y < x
    · have f1 : decide (y < x) = true := decide_eq_true h
      have HN := Lib.hid h
      go_enter Try.func5, Try.ntmps5
      go_wp2_with fail
      refine (range_none a x y w G1.out G2.out HN.out).mono ?_
      rintro e w1 ⟨rfl, hb⟩
      have HB1 := Lib.hid (HB0.out.trans (hb.mono HB0.out.size))
      clear hb
      go_wp2_with fail
      refine (Cx.awake_any _).mono ?_
      rintro e w2 ⟨rfl, hb⟩
      have HB2 := Lib.hid (HB1.out.trans (hb.mono HB1.out.size))
      clear hb
      go_wp2_with fail
      refine ((H1 _).out).mono ?_
      rintro e w3 ⟨rfl, hb⟩
      have HB3 := Lib.hid (HB2.out.trans (hb.mono HB2.out.size))
      clear hb
      go_wp2_with fail
      refine ((H2 _).out).mono ?_
      rintro e w4 ⟨rfl, hb⟩
      have HB4 := Lib.hid (HB3.out.trans (hb.mono HB3.out.size))
      clear hb
      go_wp2
      go_ret
      exact ⟨rfl, HB4.out⟩
    · have f1 : decide (y < x) = false := decide_eq_false h
      have HN : Hid (¬ y < x) := Lib.hid h
      go_enter Try.func5, Try.ntmps5
      go_wp2_with fail
      refine (range_any a x y w G1.out G2.out (by have := HN.out; omega)).mono ?_
      rintro e w1 ⟨p, c, rfl, hk⟩
      have HK1 := Lib.hid hk
      have HB1 := Lib.hid hk.below
      clear hk
      go_wp2_with fail
      refine (Cx.awake_any _).mono ?_
      rintro e w2 ⟨rfl, hb⟩
      have HK2 := Lib.hid (HK1.out.later hb)
      clear hb
      go_wp2_with fail
      refine ((H1 _).out).mono ?_
      rintro e w3 ⟨rfl, hb⟩
      have HK3 := Lib.hid (HK2.out.later hb)
      clear hb
      go_wp2_with fail
      refine ((H2 _).out).mono ?_
      rintro e w4 ⟨rfl, hb⟩
      have HK4 := Lib.hid (HK3.out.later hb)
      clear hb
      have k0 := HK4.out.c0
      have k1 := HK4.out.c1
      have k2 := HK4.out.c2
      go_wp2
      go_ret
      exact ⟨rfl, HK4.out.below⟩
set_option maxRecDepth 100000 in
theorem lifted (os : Os) (started : os.Started) (H : Type) (enc : TypeId × Value → H) :
    ReturnsInHanded {} Try.checked os 5 .any (Rows.contextRangeSpec.pre6 enc Try.prog Try.f5 Rows.contextRangeRow.domain false) (Rows.contextRangeSpec.post enc Try.prog Try.f5 false true false false) := by
  refine returnsInHanded_of_change (C := Try.checked) own started (by kernel_rfl) Try.func5
    (ChangeSpec.witness6 (enc := enc) (C := Try.checked) false ⟨#[], #[.int .i64 0, .int .i64 0, .int .i64 0], []⟩ 8 (by kernel_rfl) (by kernel_rfl) (by kernel_rfl) (by kernel_rfl)) ?_
  intro W base args ds gs before hval0 hW _ _
  have hval : ∀ (j : Nat) t v, Try.f5.params[j]? = some t → args[j]? = some v → Value.okWide Try.prog W .any base t v := hval0
  have hW' := hW
  obtain ⟨p, q, hA0, hV, rfl, hfz, hnd⟩ := hW
  have hA : DataW.TrodAll enc Try.prog W 0 (fun _ => true) true Try.f5.params.toList args.toList ds p := hA0
  rw [Try.params5] at hA hval
  obtain ⟨v0, v1, v2, d0, d1, d2, p0, p1, p2, rfl, rfl, rfl, h0, h1, h2⟩ := trodAll_three hA
  obtain ⟨rfl, rfl⟩ := trodVars_none hV
  obtain ⟨x0, rfl, rfl, rfl, w0⟩ := open_int Try.underlying3 (hval 0 3 v0 rfl rfl) h0
  obtain ⟨x1, rfl, rfl, rfl, w1⟩ := open_int Try.underlying2 (hval 1 2 v1 rfl rfl) h1
  obtain ⟨x2, rfl, rfl, rfl, w2⟩ := open_int Try.underlying2 (hval 2 2 v2 rfl rfl) h2
  refine (walk_any x0 x1 x2 W (Sp.wf_i64 w0) (Sp.wf_i64 w1) (Sp.wf_i64 w2)).mono fun e W' ⟨he, hb⟩ => ?_
  subst he
  exact ⟨_, rfl, law_post hW' (by kernel_rfl) rfl rfl rfl hb⟩
theorem proved : Rows.ContextRangeSaid :=
  OpenClaim.holds_of_wide 5 Try.f5 rfl rfl rfl rfl rfl rfl rfl ⟨rfl, rfl, rfl, rfl, rfl⟩ rfl rfl rfl rfl rfl (by kernel_rfl) Try.func5 (by kernel_rfl)
    (of_decide_eq_true (by kernel_rfl)) (by unfold Func.isWrapper; first | (rw [if_pos (by decide +kernel)]; kernel_rfl) | (rw [if_neg (by decide +kernel)]; exact ⟨rfl, rfl⟩))
    (fun os started H enc _ => lifted os started H enc)
#print axioms proved
end Go.Proofs.Ytfkkjgebemnhnaa.lawContextRange
