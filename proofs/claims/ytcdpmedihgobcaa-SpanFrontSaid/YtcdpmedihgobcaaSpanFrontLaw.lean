/- SpanFront answers true for every list of pairs of whole numbers and every number. No condition. -/
import Derived.Test.YtcdpmedihgobcaaSpanKit0
import Derived.ProofKit
import Derived.OpenShut
namespace Go.Proofs.Ytcdpmedihgobcaa.lawSpanFront
open Go.ChangeShapes Go.WideShapes Go.ChangeAt Go.RowKit Sp
set_option maxRecDepth 100000 in
set_option maxHeartbeats 1000000 in
theorem walk_any (ua : List (Int × Int)) (Aa : Option Addr) (ca : Nat) (v : Int) (w : World) (hra : Rd w w.heap.size 2 Aa ua.length ca (runsC ua)) (_ : -9223372036854775808 ≤ v ∧ v ≤ 9223372036854775807) :
    Calls Try.prog 9 #[.slice Aa ua.length ca, .int .i64 v] w fun e w' => e = .returned (.bool true) ∧ Below w.heap.size w w' := by
  obtain ⟨na, hna⟩ : ∃ n, n = ua.length := ⟨_, rfl⟩
  rw [← hna] at hra ⊢
  have HLa : Hid (ua.length = na) := hna.symm
  have Ra := Lib.hid hra
  clear hra hna
  have HB0 : Hid (Below w.heap.size w w) := Below.refl _ _
  cases hz : ([⟨Aa, na, ca, ua⟩] : List SP).all SP.ok with
  | false =>
    have HZ := Lib.hid hz
    clear hz
    go_enter Try.func9, Try.ntmps9
    go_wp2_with fail
    refine (awake_any _).mono ?_
    rintro e w1 ⟨rfl, hb⟩
    have HB1 := Lib.hid (HB0.out.trans (hb.mono HB0.out.size))
    have Ra := Lib.hid (Ra.out.later hb)
    clear hb
    go_wp2_with fail
    refine (sets_to [⟨Aa, na, ca, ua⟩] #[.slice Aa na ca] 1 w1 rfl rfl (by omega) (by intro p hp; simp only [List.mem_cons, List.not_mem_nil, or_false] at hp; rcases hp with rfl; exact ⟨HLa.out, Ra.out⟩) false HZ.out).mono ?_
    rintro e w2 ⟨rfl, hb⟩
    have HB2 := Lib.hid (HB1.out.trans (hb.mono HB1.out.size))
    have Ra := Lib.hid (Ra.out.later hb)
    clear hb
    go_wp2_with fail
    refine (awake_any _).mono ?_
    rintro e w3 ⟨rfl, hb⟩
    have HB3 := Lib.hid (HB2.out.trans (hb.mono HB2.out.size))
    have Ra := Lib.hid (Ra.out.later hb)
    clear hb
    go_wp2
    go_ret
    exact ⟨rfl, HB3.out⟩
  | true =>
    have HZ := Lib.hid hz
    simp only [List.all_cons, List.all_nil, SP.ok, Bool.and_true, Bool.and_eq_true, decide_eq_true_eq] at hz
    obtain ⟨h40a, hRa⟩ := hz
    have HRa0 := Lib.hid hRa
    have HRa : Hid (RightF 1 ua) := Lib.hid (of_decide_eq_true (p := RightF 1 ua) hRa)
    clear hRa
    obtain ⟨hf0, hf1, hf2, hf3⟩ := front_spec HRa.out
    obtain ⟨fr, hfr⟩ : ∃ x, x = frontI ua := ⟨_, rfl⟩
    rw [← hfr] at hf0 hf1 hf2 hf3
    have HFR := Lib.hid hfr.symm
    have HF2 := Lib.hid hf2
    have HF3 := Lib.hid hf3
    clear hfr hf2 hf3
    have g0 : decide ((0 : Int) ≤ fr) = true := decide_eq_true hf0
    have g1 : decide (fr ≤ 1099511627776) = true := decide_eq_true hf1
    rcases (by omega : v < 1 ∨ (1 ≤ v ∧ fr < v) ∨ (1 ≤ v ∧ v ≤ fr)) with h1 | ⟨h1, h2⟩ | ⟨h1, h2⟩
    · have f2 : decide (v < 1) = true := decide_eq_true h1
      go_enter Try.func9, Try.ntmps9
      go_wp2_with fail
      refine (awake_any _).mono ?_
      rintro e w1 ⟨rfl, hb⟩
      have HB1 := Lib.hid (HB0.out.trans (hb.mono HB0.out.size))
      have Ra := Lib.hid (Ra.out.later hb)
      clear hb
      go_wp2_with fail
      refine (sets_to [⟨Aa, na, ca, ua⟩] #[.slice Aa na ca] 1 w1 rfl rfl (by omega) (by intro p hp; simp only [List.mem_cons, List.not_mem_nil, or_false] at hp; rcases hp with rfl; exact ⟨HLa.out, Ra.out⟩) true HZ.out).mono ?_
      rintro e w2 ⟨rfl, hb⟩
      have HB2 := Lib.hid (HB1.out.trans (hb.mono HB1.out.size))
      have Ra := Lib.hid (Ra.out.later hb)
      clear hb
      go_wp2_with fail
      refine (runs_to ua na Aa ca w2 HLa.out (by omega) Ra.out).mono ?_
      rintro e w3 ⟨Ax, cx, rfl, hrx, hb⟩
      have HB3 := Lib.hid (HB2.out.trans (hb.mono HB2.out.size))
      have Ra := Lib.hid (Ra.out.later hb)
      clear hb
      have Rx := Lib.hid hrx
      clear hrx
      go_wp2_with fail
      refine (front_to ua na Ax cx w3 HLa.out (by omega) Rx.out true HRa0.out fr HFR.out).mono ?_
      rintro e w4 ⟨rfl, hb⟩
      have HB4 := Lib.hid (HB3.out.trans (hb.mono HB3.out.size))
      have Ra := Lib.hid (Ra.out.later hb)
      have Rx := Lib.hid (Rx.out.later hb)
      clear hb
      go_wp2_with fail
      refine (has_to ua na Ax cx w4 (fr + 1) HLa.out (by omega) Rx.out false (by rw [HRa0.out, HF2.out]; rfl)).mono ?_
      rintro e w5 ⟨rfl, hb⟩
      have HB5 := Lib.hid (HB4.out.trans (hb.mono HB4.out.size))
      have Ra := Lib.hid (Ra.out.later hb)
      have Rx := Lib.hid (Rx.out.later hb)
      clear hb
      go_wp2
      go_ret
      exact ⟨rfl, HB5.out⟩
    · have f2 : decide (v < 1) = false := decide_eq_false (by omega)
      have f3 : decide (fr < v) = true := decide_eq_true h2
      go_enter Try.func9, Try.ntmps9
      go_wp2_with fail
      refine (awake_any _).mono ?_
      rintro e w1 ⟨rfl, hb⟩
      have HB1 := Lib.hid (HB0.out.trans (hb.mono HB0.out.size))
      have Ra := Lib.hid (Ra.out.later hb)
      clear hb
      go_wp2_with fail
      refine (sets_to [⟨Aa, na, ca, ua⟩] #[.slice Aa na ca] 1 w1 rfl rfl (by omega) (by intro p hp; simp only [List.mem_cons, List.not_mem_nil, or_false] at hp; rcases hp with rfl; exact ⟨HLa.out, Ra.out⟩) true HZ.out).mono ?_
      rintro e w2 ⟨rfl, hb⟩
      have HB2 := Lib.hid (HB1.out.trans (hb.mono HB1.out.size))
      have Ra := Lib.hid (Ra.out.later hb)
      clear hb
      go_wp2_with fail
      refine (runs_to ua na Aa ca w2 HLa.out (by omega) Ra.out).mono ?_
      rintro e w3 ⟨Ax, cx, rfl, hrx, hb⟩
      have HB3 := Lib.hid (HB2.out.trans (hb.mono HB2.out.size))
      have Ra := Lib.hid (Ra.out.later hb)
      clear hb
      have Rx := Lib.hid hrx
      clear hrx
      go_wp2_with fail
      refine (front_to ua na Ax cx w3 HLa.out (by omega) Rx.out true HRa0.out fr HFR.out).mono ?_
      rintro e w4 ⟨rfl, hb⟩
      have HB4 := Lib.hid (HB3.out.trans (hb.mono HB3.out.size))
      have Ra := Lib.hid (Ra.out.later hb)
      have Rx := Lib.hid (Rx.out.later hb)
      clear hb
      go_wp2_with fail
      refine (has_to ua na Ax cx w4 (fr + 1) HLa.out (by omega) Rx.out false (by rw [HRa0.out, HF2.out]; rfl)).mono ?_
      rintro e w5 ⟨rfl, hb⟩
      have HB5 := Lib.hid (HB4.out.trans (hb.mono HB4.out.size))
      have Ra := Lib.hid (Ra.out.later hb)
      have Rx := Lib.hid (Rx.out.later hb)
      clear hb
      go_wp2
      go_ret
      exact ⟨rfl, HB5.out⟩
    · have f2 : decide (v < 1) = false := decide_eq_false (by omega)
      have f3 : decide (fr < v) = false := decide_eq_false (by omega)
      go_enter Try.func9, Try.ntmps9
      go_wp2_with fail
      refine (awake_any _).mono ?_
      rintro e w1 ⟨rfl, hb⟩
      have HB1 := Lib.hid (HB0.out.trans (hb.mono HB0.out.size))
      have Ra := Lib.hid (Ra.out.later hb)
      clear hb
      go_wp2_with fail
      refine (sets_to [⟨Aa, na, ca, ua⟩] #[.slice Aa na ca] 1 w1 rfl rfl (by omega) (by intro p hp; simp only [List.mem_cons, List.not_mem_nil, or_false] at hp; rcases hp with rfl; exact ⟨HLa.out, Ra.out⟩) true HZ.out).mono ?_
      rintro e w2 ⟨rfl, hb⟩
      have HB2 := Lib.hid (HB1.out.trans (hb.mono HB1.out.size))
      have Ra := Lib.hid (Ra.out.later hb)
      clear hb
      go_wp2_with fail
      refine (runs_to ua na Aa ca w2 HLa.out (by omega) Ra.out).mono ?_
      rintro e w3 ⟨Ax, cx, rfl, hrx, hb⟩
      have HB3 := Lib.hid (HB2.out.trans (hb.mono HB2.out.size))
      have Ra := Lib.hid (Ra.out.later hb)
      clear hb
      have Rx := Lib.hid hrx
      clear hrx
      go_wp2_with fail
      refine (front_to ua na Ax cx w3 HLa.out (by omega) Rx.out true HRa0.out fr HFR.out).mono ?_
      rintro e w4 ⟨rfl, hb⟩
      have HB4 := Lib.hid (HB3.out.trans (hb.mono HB3.out.size))
      have Ra := Lib.hid (Ra.out.later hb)
      have Rx := Lib.hid (Rx.out.later hb)
      clear hb
      go_wp2_with fail
      refine (has_to ua na Ax cx w4 (fr + 1) HLa.out (by omega) Rx.out false (by rw [HRa0.out, HF2.out]; rfl)).mono ?_
      rintro e w5 ⟨rfl, hb⟩
      have HB5 := Lib.hid (HB4.out.trans (hb.mono HB4.out.size))
      have Ra := Lib.hid (Ra.out.later hb)
      have Rx := Lib.hid (Rx.out.later hb)
      clear hb
      go_wp2_with fail
      refine (has_to ua na Ax cx w5 v HLa.out (by omega) Rx.out true (by rw [HRa0.out, HF3.out v h1 h2]; rfl)).mono ?_
      rintro e w6 ⟨rfl, hb⟩
      have HB6 := Lib.hid (HB5.out.trans (hb.mono HB5.out.size))
      have Ra := Lib.hid (Ra.out.later hb)
      have Rx := Lib.hid (Rx.out.later hb)
      clear hb
      go_wp2
      go_ret
      exact ⟨rfl, HB6.out⟩
set_option maxRecDepth 100000 in
theorem lifted (os : Os) (started : os.Started) (H : Type) (enc : TypeId × Value → H) :
    ReturnsInHanded {} Try.checked os 9 .any (Rows.spanFrontSpec.pre6 enc Try.prog Try.f9 Rows.spanFrontRow.domain false) (Rows.spanFrontSpec.post enc Try.prog Try.f9 false true false false) := by
  refine returnsInHanded_of_change (C := Try.checked) own started (by kernel_rfl) Try.func9
    (ChangeSpec.witness6 (enc := enc) (C := Try.checked) false ⟨#[], #[.slice none 0 0, .int .i64 0], []⟩ 8 (by kernel_rfl) (by kernel_rfl) (by kernel_rfl) (by kernel_rfl)) ?_
  intro W base args ds gs before hval0 hW _ _
  have hval : ∀ (j : Nat) t v, Try.f9.params[j]? = some t → args[j]? = some v → Value.okWide Try.prog W .any base t v := hval0
  have hW' := hW
  obtain ⟨p, q, hA0, hV, rfl, hfz, hnd⟩ := hW
  have hA : DataW.TrodAll enc Try.prog W 0 (fun _ => true) true Try.f9.params.toList args.toList ds p := hA0
  rw [Try.params9] at hA hval
  obtain ⟨v0, v1, d0, d1, p0, p1, rfl, rfl, rfl, h0, h1⟩ := trodAll_two hA
  obtain ⟨rfl, rfl⟩ := trodVars_none hV
  obtain ⟨a0, len0, cap0, rfl⟩ := okWide_slice Try.underlying22 (hval 0 22 v0 rfl rfl)
  obtain ⟨fuel0, hf0⟩ := h0
  obtain ⟨l0, rfl, hr0, _⟩ := Sp.runs_of_trod hf0
  obtain ⟨x1, rfl, rfl, rfl, w1⟩ := open_int Try.underlying2 (hval 1 2 v1 rfl rfl) h1
  refine (walk_any l0 a0 cap0 x1 W hr0 (Sp.wf_i64 w1)).mono fun e W' ⟨he, hb⟩ => ?_
  subst he
  exact ⟨_, rfl, law_post hW' (by kernel_rfl) rfl rfl rfl hb⟩
theorem proved : Rows.SpanFrontSaid :=
  OpenClaim.holds_of_wide 9 Try.f9 rfl rfl rfl rfl rfl rfl rfl ⟨rfl, rfl, rfl, rfl, rfl⟩ rfl rfl rfl rfl rfl (by kernel_rfl) Try.func9 (by kernel_rfl)
    (of_decide_eq_true (by kernel_rfl)) (by unfold Func.isWrapper; first | (rw [if_pos (by decide +kernel)]; kernel_rfl) | (rw [if_neg (by decide +kernel)]; exact ⟨rfl, rfl⟩))
    (fun os started H enc _ => lifted os started H enc)
#print axioms proved
end Go.Proofs.Ytcdpmedihgobcaa.lawSpanFront
