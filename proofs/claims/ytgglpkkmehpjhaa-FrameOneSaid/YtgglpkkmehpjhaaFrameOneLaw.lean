/- FrameOne answers true for all bytes, and leaves them as they were. No condition. -/
import Derived.Test.YtgglpkkmehpjhaaFrameAwake
import Derived.Test.YtgglpkkmehpjhaaFrameRef2
import Derived.Test.YtgglpkkmehpjhaaFrameOne
namespace Go.Proofs.Ytgglpkkmehpjhaa.lawFrameOne
open Go.ChangeShapes Go.WideShapes Go.ChangeAt Go.RowKit Frm
set_option maxRecDepth 100000 in
set_option maxHeartbeats 400000 in
theorem walk_any (bs : List UInt8) (A : Option Addr) (c : Nat) (w : World) (hr : Rd w w.heap.size 1 A bs.length c (u8s bs)) :
    Calls Try.prog 5 #[.slice A bs.length c] w fun e w' => e = .returned (.bool true) ∧ Below w.heap.size w w' := by
  obtain ⟨n, hn⟩ : ∃ n, n = bs.length := ⟨_, rfl⟩
  rw [← hn] at hr ⊢
  have HR := Lib.hid hr
  have HN := Lib.hid hn
  clear hr hn
  by_cases hlt : n ≤ 100000
  · have f1 : decide ((100000 : Int) < n) = false := by simp; omega
    obtain ⟨x, hx⟩ : ∃ x, x = oneB bs := ⟨_, rfl⟩
    have HX := Lib.hid hx
    clear hx
    have hq : ((strOf x).toList == (strOf x).toList) = true := by simp
    obtain ⟨m, hm⟩ : ∃ m, m = x.length := ⟨_, rfl⟩
    have HM := Lib.hid hm
    clear hm
    obtain ⟨k, hk⟩ : ∃ k, k = oneE bs := ⟨_, rfl⟩
    have HK := Lib.hid hk
    clear hk
    go_enter Try.func5, Try.ntmps5
    go_wp2_with (first
      | (go_at_call 10; refine (awake_any w).mono ?_; rintro e w1 ⟨rfl, hb1⟩; have HB := Lib.hid hb1; have HR1 := Lib.hid (Rd.later HR.out hb1); clear hb1)
      | (go_at_call 15; refine (one_to bs n A c w1 HN.out.symm (by omega) HR1.out x HX.out.symm m HM.out.symm k HK.out.symm).mono ?_; rintro e w2 ⟨A2, c2, rfl, ho2, hb2⟩; have HR2 := Lib.hid (Rd.later HR1.out hb2); have HB2 := Lib.hid (HB.out.trans (hb2.mono HB.out.size)); have HO2 := Lib.hid ho2.rd; clear ho2 hb2)
      | (go_at_call 16; refine (refone_any bs n A c w2 HN.out.symm (by omega) HR2.out).mono ?_; unfold RefTup; rw [← HX.out, ← HM.out, ← HK.out]; rintro e w3 ⟨A3, c3, rfl, ho3, hb3⟩; have HB3 := Lib.hid (HB2.out.trans (hb3.mono HB2.out.size)); have hs1 := By.str8 (Rd.later HO2.out hb3); have hs2 := By.str8 ho3.rd; clear ho3 hb3))
    go_ret
    exact ⟨rfl, HB3.out⟩
  · have f1 : decide ((100000 : Int) < n) = true := by simp; omega
    go_enter Try.func5, Try.ntmps5
    go_wp2_with (first
      | (go_at_call 10; refine (awake_any w).mono ?_; rintro e w1 ⟨rfl, hb1⟩)
      | (go_at_call 10; refine (awake_any w1).mono ?_; rintro e w2 ⟨rfl, hb2⟩))
    go_ret
    exact ⟨rfl, hb1.trans (hb2.mono hb1.size)⟩
set_option maxRecDepth 100000 in
theorem lifted (os : Os) (started : os.Started) (H : Type) (enc : TypeId × Value → H) :
    ReturnsInHanded {} Try.checked os 5 .any (Rows.frameOneSpec.pre6 enc Try.prog Try.f5 Rows.frameOneRow.domain false) (Rows.frameOneSpec.post enc Try.prog Try.f5 false true false false) := by
  refine returnsInHanded_of_change (C := Try.checked) own started (by kernel_rfl) Try.func5
    (ChangeSpec.witness6 (enc := enc) (C := Try.checked) false ⟨#[], #[.slice none 0 0], []⟩ 8 (by kernel_rfl) (by kernel_rfl) (by kernel_rfl) (by kernel_rfl)) ?_
  intro W base args ds gs before hval0 hW _ _
  have hval : ∀ (j : Nat) t v, Try.f5.params[j]? = some t → args[j]? = some v → Value.okWide Try.prog W .any base t v := hval0
  have hW' := hW
  obtain ⟨p, q, hA0, hV, rfl, hfz, hnd⟩ := hW
  have hA : DataW.TrodAll enc Try.prog W 0 (fun _ => true) true Try.f5.params.toList args.toList ds p := hA0
  rw [Try.params5] at hA hval
  obtain ⟨v0, d0, rfl, rfl, h0⟩ := trodAll_one hA
  obtain ⟨rfl, rfl⟩ := trodVars_none hV
  obtain ⟨a0, len0, cap0, rfl⟩ := okWide_slice Try.underlying22 (hval 0 22 v0 rfl rfl)
  obtain ⟨fuel0, hf0⟩ := h0
  obtain ⟨bs0, rfl, hr0, _⟩ := By.bytes_of_trod hf0
  refine (walk_any bs0 a0 cap0 W hr0).mono fun e W' ⟨he, hb⟩ => ?_
  subst he
  exact ⟨_, rfl, law_post hW' (by kernel_rfl) rfl rfl rfl hb⟩
theorem proved : Rows.FrameOneSaid :=
  OpenClaim.holds_of_wide 5 Try.f5 rfl rfl rfl rfl rfl rfl rfl ⟨rfl, rfl, rfl, rfl, rfl⟩ rfl rfl rfl rfl rfl (by kernel_rfl) Try.func5 (by kernel_rfl)
    (of_decide_eq_true (by kernel_rfl)) (by unfold Func.isWrapper; first | (rw [if_pos (by decide +kernel)]; kernel_rfl) | (rw [if_neg (by decide +kernel)]; exact ⟨rfl, rfl⟩))
    (fun os started H enc _ => lifted os started H enc)
#print axioms proved
end Go.Proofs.Ytgglpkkmehpjhaa.lawFrameOne
