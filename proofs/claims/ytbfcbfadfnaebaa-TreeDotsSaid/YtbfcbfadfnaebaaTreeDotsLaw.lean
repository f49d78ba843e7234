/- TreeDots answers true for every tree. No condition. -/
import Derived.Test.YtbfcbfadfnaebaaTreeLaw
import Derived.Test.YtbfcbfadfnaebaaTreeRefRight
import Derived.Test.YtbfcbfadfnaebaaTreeDots
import Derived.Test.YtbfcbfadfnaebaaTreeRefDots
import Derived.Test.YtbfcbfadfnaebaaCtxSame
namespace Go.Proofs.Ytbfcbfadfnaebaa.lawTreeDots
open Go.ChangeShapes Go.WideShapes Go.ChangeAt Go.RowKit Sp Rw Tr
set_option maxRecDepth 100000 in
set_option maxHeartbeats 4000000 in
theorem walk_any (t : T) (Aet Akt : Option Addr) (net nkt cet ckt : Nat) (w : World) (hrt : RdT w w.heap.size t ⟨Aet, net, cet⟩ ⟨Akt, nkt, ckt⟩) (hlt : LenT reachBytes t) :
    Calls Try.prog 4 #[.agg #[.slice Aet net cet, .slice Akt nkt ckt]] w fun e w' => e = .returned (.bool true) ∧ Below w.heap.size w w' := by
  have HKc : Hid (Kept [] w w) := Kept.nil w
  have Rt := Lib.hid hrt
  have HLt := Lib.hid hlt
  clear hrt hlt
  obtain ⟨g0, hg0⟩ : ∃ z, z = w.heap.size := ⟨_, rfl⟩
  obtain ⟨B0, hB0⟩ : ∃ W, W = w.alloc (.cells #[.slice Aet net cet, .slice Akt nkt ckt] 25) := ⟨_, rfl⟩
  have hb : Below w.heap.size w B0 := by rw [hB0]; exact Dt.box_below _ _ _
  have e0 : B0.cell? ⟨g0, 0, none⟩ = some (.slice Aet net cet) := by rw [hB0, hg0]; go_simp
  have e1 : B0.cell? ⟨g0, 1, none⟩ = some (.slice Akt nkt ckt) := by rw [hB0, hg0]; go_simp
  have Rt := Lib.hid (RdT.later Rt.out hb)
  have HKc := Lib.hid (((HKc.out.later hb).cons_of e1).cons_of e0)
  have HB0 := Lib.hid hB0
  have Hg0 := Lib.hid hg0
  clear hb e0 e1 hB0 hg0
  have s0 := HKc.out.c0
  have s1 := HKc.out.c1
  go_enter Try.func4, Try.ntmps4
  go_wp2_with fail
  rw [← Hg0.out, ← HB0.out]
  refine (awake_any B0).mono ?_
  rintro e u1 ⟨rfl, hb⟩
  clear s0 s1
  have Rt := Lib.hid (RdT.later Rt.out hb)
  have HKc := Lib.hid (HKc.out.later hb)
  clear hb
  have s0 := HKc.out.c0
  have s1 := HKc.out.c1
  go_wp2_with fail
  refine (small_to t Aet Akt net nkt cet ckt 60 60 rfl u1 (by omega) HLt.out Rt.out).mono ?_
  rintro e u2 ⟨sbt, rfl, hsmt, hb⟩
  clear s0 s1
  have Rt := Lib.hid (RdT.later Rt.out hb)
  have HKc := Lib.hid (HKc.out.later hb)
  clear hb
  have s0 := HKc.out.c0
  have s1 := HKc.out.c1
  cases sbt with
  | false =>
    go_wp2_with fail
    refine (awake_any _).mono ?_
    rintro e u3 ⟨rfl, hb⟩
    clear s0 s1
    have Rt := Lib.hid (RdT.later Rt.out hb)
    have HKc := Lib.hid (HKc.out.later hb)
    clear hb
    have s0 := HKc.out.c0
    have s1 := HKc.out.c1
    go_wp2_with fail
    go_ret
    exact ⟨rfl, HKc.out.below⟩
  | true =>
    have HN := Lib.hid (hsmt rfl)
    clear hsmt
    obtain ⟨z, hz⟩ : ∃ z, rightB 5 t = z := ⟨_, rfl⟩
    cases z with
    | false =>
      have HZ := Lib.hid hz
      clear hz
      go_wp2_with fail
      refine (dotsT_bad t Aet Akt net nkt cet ckt u2 HZ.out HLt.out Rt.out).mono ?_
      rintro e u3 ⟨rfl, hb⟩
      clear s0 s1
      have Rt := Lib.hid (RdT.later Rt.out hb)
      have HKc := Lib.hid (HKc.out.later hb)
      clear hb
      have s0 := HKc.out.c0
      have s1 := HKc.out.c1
      go_wp2_with fail
      refine (refrightT_any t Aet Akt net nkt cet ckt u3 HLt.out Rt.out).mono ?_
      rw [HZ.out]
      rintro e u4 ⟨rfl, hb⟩
      clear s0 s1
      have Rt := Lib.hid (RdT.later Rt.out hb)
      have HKc := Lib.hid (HKc.out.later hb)
      clear hb
      have s0 := HKc.out.c0
      have s1 := HKc.out.c1
      go_wp2_with fail
      go_ret
      exact ⟨rfl, HKc.out.below⟩
    | true =>
      have HZ := Lib.hid hz
      clear hz
      go_wp2_with fail
      refine (dotsT_any t Aet Akt net nkt cet ckt u2 HZ.out HLt.out (by have := HN.out; omega) Rt.out).mono ?_
      rintro e u3 ⟨u, q, A2, c2, rfl, hu1, hu2, hq, hr2, hb⟩
      have HU1 := Lib.hid hu1.out
      have HU2 := Lib.hid hu2.out
      have HQ := Lib.hid hq
      have Rd2 := Lib.hid hr2.out
      clear hu1 hu2 hq hr2
      clear s0 s1
      have Rt := Lib.hid (RdT.later Rt.out hb)
      have HKc := Lib.hid (HKc.out.later hb)
      clear hb
      have s0 := HKc.out.c0
      have s1 := HKc.out.c1
      go_wp2_with fail
      refine (refrightT_any t Aet Akt net nkt cet ckt u3 HLt.out Rt.out).mono ?_
      rw [HZ.out]
      rintro e u4 ⟨rfl, hb⟩
      clear s0 s1
      have Rt := Lib.hid (RdT.later Rt.out hb)
      have Rd2 := Lib.hid (Rd2.out.later hb)
      have HKc := Lib.hid (HKc.out.later hb)
      clear hb
      have s0 := HKc.out.c0
      have s1 := HKc.out.c1
      go_wp2_with fail
      refine (refdots_any t Aet Akt net nkt cet ckt u4 (by have := HN.out; omega) Rt.out (good_dl (rightB_iff.1 HZ.out)) u HU2.out q HU1.out (by have := HQ.out; omega)).mono ?_
      rintro e u5 ⟨A3, c3, rfl, hr3, hb⟩
      have Rd3 := Lib.hid hr3
      clear hr3
      clear s0 s1
      have Rt := Lib.hid (RdT.later Rt.out hb)
      have Rd2 := Lib.hid (Rd2.out.later hb)
      have HKc := Lib.hid (HKc.out.later hb)
      clear hb
      have s0 := HKc.out.c0
      have s1 := HKc.out.c1
      go_wp2_with fail
      refine (Cx.refsameC_any u u q q A2 A3 c2 c3 u5 HU1.out HU1.out (by have := HQ.out; omega) Rd2.out Rd3.out true (by simp)).mono ?_
      rintro e u6 ⟨rfl, hb⟩
      clear s0 s1
      have Rt := Lib.hid (RdT.later Rt.out hb)
      have Rd2 := Lib.hid (Rd2.out.later hb)
      have HKc := Lib.hid (HKc.out.later hb)
      clear hb
      have s0 := HKc.out.c0
      have s1 := HKc.out.c1
      go_wp2_with fail
      go_ret
      exact ⟨rfl, HKc.out.below⟩
set_option maxRecDepth 100000 in
theorem lifted (os : Os) (started : os.Started) (H : Type) (enc : TypeId × Value → H) :
    ReturnsInHanded {} Try.checked os 4 .any (Rows.treeDotsSpec.pre6 enc Try.prog Try.f4 Rows.treeDotsRow.domain false) (Rows.treeDotsSpec.post enc Try.prog Try.f4 false true false false) := by
  refine returnsInHanded_of_change_sized (C := Try.checked) own started (by kernel_rfl) Try.func4
    (ChangeSpec.witness6 (enc := enc) (C := Try.checked) false ⟨#[], #[.agg #[.slice none 0 0, .slice none 0 0]], []⟩ 8 (by kernel_rfl) (by kernel_rfl) (by kernel_rfl) (by kernel_rfl)) ?_
  intro W base args ds gs before hval0 hW _ hsz0 _
  have hval : ∀ (j : Nat) t v, Try.f4.params[j]? = some t → args[j]? = some v → Value.okWide Try.prog W .any base t v := hval0
  have hW' := hW
  obtain ⟨p, q, hA0, hV, rfl, hfz, hnd⟩ := hW
  have hA : DataW.TrodAll enc Try.prog W 0 (fun _ => true) true Try.f4.params.toList args.toList ds p := hA0
  rw [Try.params4] at hA hval
  obtain ⟨v0, d0, rfl, rfl, h0⟩ := trodAll_one hA
  obtain ⟨rfl, rfl⟩ := trodVars_none hV
  have hsz : (DataW.weightsEach Try.prog (25 :: _) (d0 :: _)).all (· ≤ reachBytes) = true := hsz0
  obtain ⟨hw0, hsz⟩ := Tr.weights_head hsz
  obtain ⟨t0, ae0, ak0, ne0, nk0, ce0, ck0, rfl, hr0, hl0⟩ := Tr.treeV_of_trod (hval 0 25 v0 rfl rfl) h0 hw0
  refine (walk_any t0 ae0 ak0 ne0 nk0 ce0 ck0 W hr0 hl0).mono fun e W' ⟨he, hb⟩ => ?_
  subst he
  exact ⟨_, rfl, law_post hW' (by kernel_rfl) rfl rfl rfl hb⟩
theorem proved : Rows.TreeDotsSaid :=
  OpenClaim.holds_of_wide 4 Try.f4 rfl rfl rfl rfl rfl rfl rfl ⟨rfl, rfl, rfl, rfl, rfl⟩ rfl rfl rfl rfl rfl (by kernel_rfl) Try.func4 (by kernel_rfl)
    (of_decide_eq_true (by kernel_rfl)) (by unfold Func.isWrapper; first | (rw [if_pos (by decide +kernel)]; kernel_rfl) | (rw [if_neg (by decide +kernel)]; exact ⟨rfl, rfl⟩))
    (fun os started H enc _ => lifted os started H enc)
#print axioms proved
end Go.Proofs.Ytbfcbfadfnaebaa.lawTreeDots
