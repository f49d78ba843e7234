/- DotCompares answers true for all two dots. No condition. -/
import Derived.Test.YtoefbljmagphkaaDot
import Derived.Test.YtoefbljmagphkaaDotArgs
import Derived.Test.YtoefbljmagphkaaKept
namespace Go.Proofs.Ytoefbljmagphkaa.lawDotCompares
open Go.ChangeShapes Go.WideShapes Go.ChangeAt Go.RowKit Dt
theorem cmp_less {a n b m : Int} (h : a < b ∨ (a = b ∧ n < m)) : lessB a n b m = true ∧ cmpI a n b m = -1 ∧ cmpI b m a n = 1 := by
  refine ⟨by unfold lessB; simpa using h, if_pos h, ?_⟩
  unfold cmpI
  rw [if_neg (by omega), if_neg (by omega)]
theorem cmp_same (a n : Int) : lessB a n a n = false ∧ cmpI a n a n = 0 := by
  refine ⟨by unfold lessB; simp, ?_⟩
  unfold cmpI
  rw [if_neg (by omega), if_pos ⟨rfl, rfl⟩]
theorem cmp_more {a n b m : Int} (h : b < a ∨ (b = a ∧ m < n)) : lessB a n b m = false ∧ cmpI a n b m = 1 ∧ cmpI b m a n = -1 :=
  ⟨by unfold lessB; simp; omega, (cmp_less h).2.2, (cmp_less h).2.1⟩
set_option maxHeartbeats 400000 in
theorem walk_any (a n b m : Int) (w : World) : Calls Try.prog 4 #[.agg #[.int .i64 a, .int .i64 n], .agg #[.int .i64 b, .int .i64 m]] w fun e w' => e = .returned (.bool true) ∧ Below w.heap.size w w' := by
  obtain ⟨g, hg⟩ : ∃ g, g = w.heap.size := ⟨_, rfl⟩
  have HL := fun W => Lib.hid (less_any a n b m W)
  have HC1 := fun W => Lib.hid (compare_any a n b m W)
  have HC2 := fun W => Lib.hid (compare_any b m a n W)
  have hor : (a < b ∨ (a = b ∧ n < m)) ∨ (a = b ∧ n = m) ∨ (b < a ∨ (b = a ∧ m < n)) := by omega
  obtain ⟨W0, hW0⟩ : ∃ W, W = (w.alloc (.cells #[.int .i64 a, .int .i64 n] 23)).alloc (.cells #[.int .i64 b, .int .i64 m] 23) := ⟨_, rfl⟩
  have HK : Hid (Kept [(⟨g, 0, none⟩, .int .i64 a), (⟨g, 1, none⟩, .int .i64 n), (⟨g + 1, 0, none⟩, .int .i64 b), (⟨g + 1, 1, none⟩, .int .i64 m)] w W0) := by
    rw [hg, hW0]
    exact ((((((Kept.nil w).alloc _).alloc _).cons_of (by go_simp)).cons_of (by go_simp)).cons_of (by go_simp)).cons_of (by go_simp)
  have HG := Lib.hid hg
  have HW0 := Lib.hid hW0
  clear hg hW0
  rcases hor with h | ⟨rfl, rfl⟩ | h
  · obtain ⟨e0, e1, e2⟩ := cmp_less h
    rw [e0] at HL
    rw [e1] at HC1
    rw [e2] at HC2
    clear e0 e1 e2 h
    go_enter Try.func4, Try.ntmps4
    go_wp2_with fail
    rw [← HG.out, ← HW0.out]
    have k0 := HK.out.c0; have k1 := HK.out.c1; have k2 := HK.out.c2; have k3 := HK.out.c3
    go_wp2_with (first
      | (go_at_call 11; refine (calls_kept (HL _).out HK).mono ?_; rintro e w1 ⟨rfl, HK1⟩; have k0 := HK1.out.c0; have k1 := HK1.out.c1; have k2 := HK1.out.c2; have k3 := HK1.out.c3)
      | (go_at_call 8; refine (calls_kept (awake_any _) HK1).mono ?_; rintro e w2 ⟨rfl, HK2⟩; have k0 := HK2.out.c0; have k1 := HK2.out.c1; have k2 := HK2.out.c2; have k3 := HK2.out.c3))
    refine (calls_kept (HC1 _).out HK2).mono ?_
    rintro e w3 ⟨rfl, HK3⟩
    have k0 := HK3.out.c0; have k1 := HK3.out.c1; have k2 := HK3.out.c2; have k3 := HK3.out.c3
    go_wp2_with fail
    refine (calls_kept (HC2 _).out HK3).mono ?_
    rintro e w4 ⟨rfl, HK4⟩
    go_wp2
    go_ret
    exact ⟨rfl, HK4.out.below⟩
  · obtain ⟨e0, e1⟩ := cmp_same a n
    rw [e0] at HL
    rw [e1] at HC1 HC2
    clear e0 e1
    have f1 : (a != a) = false := by simp
    have f2 : (n != n) = false := by simp
    go_enter Try.func4, Try.ntmps4
    go_wp2_with fail
    rw [← HG.out, ← HW0.out]
    have k0 := HK.out.c0; have k1 := HK.out.c1; have k2 := HK.out.c2; have k3 := HK.out.c3
    go_wp2_with (first
      | (go_at_call 11; refine (calls_kept (HL _).out HK).mono ?_; rintro e w1 ⟨rfl, HK1⟩; have k0 := HK1.out.c0; have k1 := HK1.out.c1; have k2 := HK1.out.c2; have k3 := HK1.out.c3)
      | (go_at_call 8; refine (calls_kept (awake_any _) HK1).mono ?_; rintro e w2 ⟨rfl, HK2⟩; have k0 := HK2.out.c0; have k1 := HK2.out.c1; have k2 := HK2.out.c2; have k3 := HK2.out.c3))
    refine (calls_kept (HC1 _).out HK2).mono ?_
    rintro e w3 ⟨rfl, HK3⟩
    have k0 := HK3.out.c0; have k1 := HK3.out.c1; have k2 := HK3.out.c2; have k3 := HK3.out.c3
    go_wp2_with fail
    refine (calls_kept (HC2 _).out HK3).mono ?_
    rintro e w4 ⟨rfl, HK4⟩
    go_wp2
    go_ret
    exact ⟨rfl, HK4.out.below⟩
  · obtain ⟨e0, e1, e2⟩ := cmp_more h
    rw [e0] at HL
    rw [e1] at HC1
    rw [e2] at HC2
    clear e0 e1 e2
    rcases h with h | ⟨rfl, h⟩
    · have f1 : (a == b) = false := by simp only [beq_eq_false_iff_ne]; omega
      clear h
      go_enter Try.func4, Try.ntmps4
      go_wp2_with fail
      rw [← HG.out, ← HW0.out]
      have k0 := HK.out.c0; have k1 := HK.out.c1; have k2 := HK.out.c2; have k3 := HK.out.c3
      go_wp2_with (first
        | (go_at_call 11; refine (calls_kept (HL _).out HK).mono ?_; rintro e w1 ⟨rfl, HK1⟩; have k0 := HK1.out.c0; have k1 := HK1.out.c1; have k2 := HK1.out.c2; have k3 := HK1.out.c3)
        | (go_at_call 8; refine (calls_kept (awake_any _) HK1).mono ?_; rintro e w2 ⟨rfl, HK2⟩; have k0 := HK2.out.c0; have k1 := HK2.out.c1; have k2 := HK2.out.c2; have k3 := HK2.out.c3))
      refine (calls_kept (HC1 _).out HK2).mono ?_
      rintro e w3 ⟨rfl, HK3⟩
      have k0 := HK3.out.c0; have k1 := HK3.out.c1; have k2 := HK3.out.c2; have k3 := HK3.out.c3
      go_wp2_with fail
      refine (calls_kept (HC2 _).out HK3).mono ?_
      rintro e w4 ⟨rfl, HK4⟩
      go_wp2
      go_ret
      exact ⟨rfl, HK4.out.below⟩
    · have f1 : (n == m) = false := by simp only [beq_eq_false_iff_ne]; omega
      clear h
      go_enter Try.func4, Try.ntmps4
      go_wp2_with fail
      rw [← HG.out, ← HW0.out]
      have k0 := HK.out.c0; have k1 := HK.out.c1; have k2 := HK.out.c2; have k3 := HK.out.c3
      go_wp2_with (first
        | (go_at_call 11; refine (calls_kept (HL _).out HK).mono ?_; rintro e w1 ⟨rfl, HK1⟩; have k0 := HK1.out.c0; have k1 := HK1.out.c1; have k2 := HK1.out.c2; have k3 := HK1.out.c3)
        | (go_at_call 8; refine (calls_kept (awake_any _) HK1).mono ?_; rintro e w2 ⟨rfl, HK2⟩; have k0 := HK2.out.c0; have k1 := HK2.out.c1; have k2 := HK2.out.c2; have k3 := HK2.out.c3))
      refine (calls_kept (HC1 _).out HK2).mono ?_
      rintro e w3 ⟨rfl, HK3⟩
      have k0 := HK3.out.c0; have k1 := HK3.out.c1; have k2 := HK3.out.c2; have k3 := HK3.out.c3
      go_wp2_with fail
      refine (calls_kept (HC2 _).out HK3).mono ?_
      rintro e w4 ⟨rfl, HK4⟩
      go_wp2
      go_ret
      exact ⟨rfl, HK4.out.below⟩
set_option maxRecDepth 100000 in
theorem lifted (os : Os) (started : os.Started) (H : Type) (enc : TypeId × Value → H) :
    ReturnsInHanded {} Try.checked os 4 .any (Rows.dotComparesSpec.pre6 enc Try.prog Try.f4 Rows.dotComparesRow.domain false) (Rows.dotComparesSpec.post enc Try.prog Try.f4 false true false false) := by
  refine returnsInHanded_of_change (C := Try.checked) own started (by kernel_rfl) Try.func4
    (ChangeSpec.witness6 (enc := enc) (C := Try.checked) false ⟨#[], #[.agg #[.int .i64 0, .int .i64 0], .agg #[.int .i64 0, .int .i64 0]], []⟩ 8 (by kernel_rfl) (by kernel_rfl) (by kernel_rfl) (by kernel_rfl)) ?_
  intro W base args ds gs before hval0 hW _ _
  have hval : ∀ (j : Nat) t v, Try.f4.params[j]? = some t → args[j]? = some v → Value.okWide Try.prog W .any base t v := hval0
  have hW' := hW
  obtain ⟨p, q, hA0, hV, rfl, hfz, hnd⟩ := hW
  have hA : DataW.TrodAll enc Try.prog W 0 (fun _ => true) true Try.f4.params.toList args.toList ds p := hA0
  rw [Try.params4] at hA hval
  obtain ⟨v0, v1, d0, d1, p0, p1, rfl, rfl, rfl, h0, h1⟩ := trodAll_two hA
  obtain ⟨rfl, rfl⟩ := trodVars_none hV
  obtain ⟨a0, n0, rfl, ba0, bn0⟩ := Dt.dot_of_trod (hval 0 23 v0 rfl rfl) h0
  obtain ⟨a1, n1, rfl, ba1, bn1⟩ := Dt.dot_of_trod (hval 1 23 v1 rfl rfl) h1
  refine (walk_any a0 n0 a1 n1 W  ).mono fun e W' ⟨he, hb⟩ => ?_
  subst he
  exact ⟨_, rfl, law_post hW' (by kernel_rfl) rfl rfl rfl hb⟩
theorem proved : Rows.DotComparesSaid :=
  OpenClaim.holds_of_wide 4 Try.f4 rfl rfl rfl rfl rfl rfl rfl ⟨rfl, rfl, rfl, rfl, rfl⟩ rfl rfl rfl rfl rfl (by kernel_rfl) Try.func4 (by kernel_rfl)
    (of_decide_eq_true (by kernel_rfl)) (by unfold Func.isWrapper; first | (rw [if_pos (by decide +kernel)]; kernel_rfl) | (rw [if_neg (by decide +kernel)]; exact ⟨rfl, rfl⟩))
    (fun os started H enc _ => lifted os started H enc)
#print axioms proved
end Go.Proofs.Ytoefbljmagphkaa.lawDotCompares
