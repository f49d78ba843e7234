/- FrameNests answers true for all bytes, and leaves them as they were. No condition. -/
import Derived.Test.YtgglpkkmehpjhaaFrameAwake
import Derived.Test.YtgglpkkmehpjhaaFrameRef2
import Derived.Test.YtgglpkkmehpjhaaFrameOne
namespace Go.Proofs.Ytgglpkkmehpjhaa.lawFrameNests
open Go.ChangeShapes Go.WideShapes Go.ChangeAt Go.RowKit Frm
set_option maxRecDepth 100000 in
set_option maxHeartbeats 400000 in
theorem walk_any (bs : List UInt8) (A : Option Addr) (c : Nat) (w : World) (hr : Rd w w.heap.size 1 A bs.length c (u8s bs)) :
    Calls Try.prog 9 #[.slice A bs.length c] w fun e w' => e = .returned (.bool true) ∧ Below w.heap.size w w' := by
  obtain ⟨n, hn⟩ : ∃ n, n = bs.length := ⟨_, rfl⟩
  rw [← hn] at hr ⊢
  have HR := Lib.hid hr
  have HN := Lib.hid hn
  clear hr hn
  by_cases hlt : n ≤ 59992
  · have f1 : decide ((59992 : Int) < n) = false := by simp; omega
    obtain ⟨x, hx⟩ : ∃ x, x = frm bs := ⟨_, rfl⟩
    obtain ⟨y, hy⟩ : ∃ y, y = frm x := ⟨_, rfl⟩
    obtain ⟨m, hm⟩ : ∃ m, m = n + 8 := ⟨_, rfl⟩
    obtain ⟨q, hq⟩ : ∃ q, q = m + 8 := ⟨_, rfl⟩
    have LX : Hid (x.length = m) := by unfold Hid; rw [hx, frm_len, ← HN.out, hm]
    have LY : Hid (y.length = q) := by unfold Hid; rw [hy, frm_len, LX.out, hq]
    have OX : Hid (oneB x = bs ∧ oneE x = 0) := by unfold Hid; rw [hx]; exact ⟨oneB_frm (by rw [← HN.out]; omega), oneE_frm (by rw [← HN.out]; omega)⟩
    have OY : Hid (oneB y = x ∧ oneE y = 0) := by unfold Hid; rw [hy]; exact ⟨oneB_frm (by rw [LX.out]; omega), oneE_frm (by rw [LX.out]; omega)⟩
    have hm6 : m ≤ 60000 := by omega
    have hq6 : q ≤ 60008 := by omega
    have HX := Lib.hid hx
    have HY := Lib.hid hy
    have HM := Lib.hid hm
    have HQ := Lib.hid hq
    clear hx hy hm hq
    have hq1 : ((strOf x).toList == (strOf x).toList) = true := by simp
    have hq2 : ((strOf bs).toList == (strOf bs).toList) = true := by simp
    go_enter Try.func9, Try.ntmps9
    go_wp2_with (first
      | (go_at_call 10; refine (awake_any w).mono ?_; rintro e w1 ⟨rfl, hb1⟩; have HB := Lib.hid hb1; have HR1 := Lib.hid (Rd.later HR.out hb1); clear hb1)
      | (go_at_call 11; first
          | ((with_reducible refine (frame_to bs n A c _ w1 HN.out.symm (by omega) HR1.out (Nat.le_refl _) x HX.out.symm m HM.out.symm).mono ?_); rintro e w2 ⟨A2, c2, rfl, ho2, hb2⟩; have HR2 := Lib.hid (Rd.later HR1.out hb2); have HB2 := Lib.hid (HB.out.trans (hb2.mono HB.out.size)); have HO2 := Lib.hid ho2.rd; clear ho2 hb2)
          | ((with_reducible refine (frame_to x m A2 c2 _ w2 LX.out hm6 HO2.out (Nat.le_refl _) y HY.out.symm q HQ.out.symm).mono ?_); rintro e w3 ⟨A3, c3, rfl, ho3, hb3⟩; have HR3 := Lib.hid (Rd.later HR2.out hb3); have HX3 := Lib.hid (Rd.later HO2.out hb3); have HB3 := Lib.hid (HB2.out.trans (hb3.mono HB2.out.size)); have HO3 := Lib.hid ho3.rd; clear ho3 hb3))
      | (go_at_call 15; first
          | ((with_reducible refine (one_to y q A3 c3 w3 LY.out (by omega) HO3.out x OY.out.1 m LX.out 0 OY.out.2).mono ?_); rintro e w4 ⟨A4, c4, rfl, ho4, hb4⟩; have HR4 := Lib.hid (Rd.later HR3.out hb4); have HX4 := Lib.hid (Rd.later HX3.out hb4); have HB4 := Lib.hid (HB3.out.trans (hb4.mono HB3.out.size)); have HO4 := Lib.hid ho4.rd; clear ho4 hb4)
          | ((with_reducible refine (one_to x m A4 c4 w4 LX.out (by omega) HO4.out bs OX.out.1 n HN.out.symm 0 OX.out.2).mono ?_); rintro e w5 ⟨A5, c5, rfl, ho5, hb5⟩; have HB5 := Lib.hid (HB4.out.trans (hb5.mono HB4.out.size)); have hs1 := By.str8 (Rd.later HR4.out hb5); have hs2 := By.str8 (Rd.later HX4.out hb5); have hs3 := By.str8 (Rd.later HO4.out hb5); have hs4 := By.str8 ho5.rd; clear ho5 hb5)))
    go_ret
    exact ⟨rfl, HB5.out⟩
  · have f1 : decide ((59992 : Int) < n) = true := by simp; omega
    go_enter Try.func9, Try.ntmps9
    go_wp2_with (first
      | (go_at_call 10; refine (awake_any w).mono ?_; rintro e w1 ⟨rfl, hb1⟩)
      | (go_at_call 10; refine (awake_any w1).mono ?_; rintro e w2 ⟨rfl, hb2⟩))
    go_ret
    exact ⟨rfl, hb1.trans (hb2.mono hb1.size)⟩
set_option maxRecDepth 100000 in
theorem lifted (os : Os) (started : os.Started) (H : Type) (enc : TypeId × Value → H) :
    ReturnsInHanded {} Try.checked os 9 .any (Rows.frameNestsSpec.pre6 enc Try.prog Try.f9 Rows.frameNestsRow.domain false) (Rows.frameNestsSpec.post enc Try.prog Try.f9 false true false false) := by
  refine returnsInHanded_of_change (C := Try.checked) own started (by kernel_rfl) Try.func9
    (ChangeSpec.witness6 (enc := enc) (C := Try.checked) false ⟨#[], #[.slice none 0 0], []⟩ 8 (by kernel_rfl) (by kernel_rfl) (by kernel_rfl) (by kernel_rfl)) ?_
  intro W base args ds gs before hval0 hW _ _
  have hval : ∀ (j : Nat) t v, Try.f9.params[j]? = some t → args[j]? = some v → Value.okWide Try.prog W .any base t v := hval0
  have hW' := hW
  obtain ⟨p, q, hA0, hV, rfl, hfz, hnd⟩ := hW
  have hA : DataW.TrodAll enc Try.prog W 0 (fun _ => true) true Try.f9.params.toList args.toList ds p := hA0
  rw [Try.params9] at hA hval
  obtain ⟨v0, d0, rfl, rfl, h0⟩ := trodAll_one hA
  obtain ⟨rfl, rfl⟩ := trodVars_none hV
  obtain ⟨a0, len0, cap0, rfl⟩ := okWide_slice Try.underlying22 (hval 0 22 v0 rfl rfl)
  obtain ⟨fuel0, hf0⟩ := h0
  obtain ⟨bs0, rfl, hr0, _⟩ := By.bytes_of_trod hf0
  refine (walk_any bs0 a0 cap0 W hr0).mono fun e W' ⟨he, hb⟩ => ?_
  subst he
  exact ⟨_, rfl, law_post hW' (by kernel_rfl) rfl rfl rfl hb⟩
theorem proved : Rows.FrameNestsSaid :=
  OpenClaim.holds_of_wide 9 Try.f9 rfl rfl rfl rfl rfl rfl rfl ⟨rfl, rfl, rfl, rfl, rfl⟩ rfl rfl rfl rfl rfl (by kernel_rfl) Try.func9 (by kernel_rfl)
    (of_decide_eq_true (by kernel_rfl)) (by unfold Func.isWrapper; first | (rw [if_pos (by decide +kernel)]; kernel_rfl) | (rw [if_neg (by decide +kernel)]; exact ⟨rfl, rfl⟩))
    (fun os started H enc _ => lifted os started H enc)
#print axioms proved
end Go.Proofs.Ytgglpkkmehpjhaa.lawFrameNests
