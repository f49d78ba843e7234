/- DotOrders answers true for all three dots. No condition. -/
import Derived.Test.YtoefbljmagphkaaDot
import Derived.Test.YtoefbljmagphkaaDotArgs
import Derived.Test.YtoefbljmagphkaaKept
namespace Go.Proofs.Ytoefbljmagphkaa.lawDotOrders
open Go.ChangeShapes Go.WideShapes Go.ChangeAt Go.RowKit Dt
set_option maxHeartbeats 400000 in
theorem walk_any (a n b m c k : Int) (w : World) : Calls Try.prog 5 #[.agg #[.int .i64 a, .int .i64 n], .agg #[.int .i64 b, .int .i64 m], .agg #[.int .i64 c, .int .i64 k]] w fun e w' => e = .returned (.bool true) ∧ Below w.heap.size w w' := by
  obtain ⟨g, hg⟩ : ∃ g, g = w.heap.size := ⟨_, rfl⟩
  have HC1 := fun W => Lib.hid (compare_any a n b m W)
  have HC2 := fun W => Lib.hid (compare_any b m c k W)
  have HC3 := fun W => Lib.hid (compare_any a n c k W)
  obtain ⟨W0, hW0⟩ : ∃ W, W = ((w.alloc (.cells #[.int .i64 a, .int .i64 n] 23)).alloc (.cells #[.int .i64 b, .int .i64 m] 23)).alloc (.cells #[.int .i64 c, .int .i64 k] 23) := ⟨_, rfl⟩
  have HK : Hid (Kept [(⟨g, 0, none⟩, .int .i64 a), (⟨g, 1, none⟩, .int .i64 n), (⟨g + 1, 0, none⟩, .int .i64 b), (⟨g + 1, 1, none⟩, .int .i64 m), (⟨g + 1 + 1, 0, none⟩, .int .i64 c), (⟨g + 1 + 1, 1, none⟩, .int .i64 k)] w W0) := by
    rw [hg, hW0]
    exact (((((((((Kept.nil w).alloc _).alloc _).alloc _).cons_of (by go_simp)).cons_of (by go_simp)).cons_of (by go_simp)).cons_of (by go_simp)).cons_of (by go_simp)).cons_of (by go_simp)
  have HG := Lib.hid hg
  have HW0 := Lib.hid hW0
  clear hg hW0
  have hx1 : (0 < cmpI a n b m) ∨ ¬ (0 < cmpI a n b m) := by omega
  have hx2 : (0 < cmpI b m c k) ∨ ¬ (0 < cmpI b m c k) := by omega
  have h3 : ¬ (0 < cmpI a n b m) → ¬ (0 < cmpI b m c k) → (cmpI a n c k = 0 ∧ a = c ∧ n = k) ∨ (cmpI a n c k = -1 ∧ (a == c) = false) ∨ (cmpI a n c k = -1 ∧ a = c ∧ (n == k) = false) := by
    unfold cmpI
    intro g1 g2
    simp only [beq_eq_false_iff_ne]
    repeat' split
    all_goals first | omega | (exfalso; split at g1 <;> split at g2 <;> omega) | (exfalso; split at g1; split at g1; split at g2; all_goals omega) | skip
    all_goals (try (split at g1)) <;> (try (split at g2)) <;> (try (split at g1)) <;> (try (split at g2)) <;> omega
  obtain ⟨x1, hy1⟩ : ∃ x, x = cmpI a n b m := ⟨_, rfl⟩
  obtain ⟨x2, hy2⟩ : ∃ x, x = cmpI b m c k := ⟨_, rfl⟩
  obtain ⟨x3, hy3⟩ : ∃ x, x = cmpI a n c k := ⟨_, rfl⟩
  rw [← hy1] at HC1 hx1 h3
  rw [← hy2] at HC2 hx2 h3
  rw [← hy3] at HC3 h3
  clear hy1 hy2 hy3
  rcases hx1 with hx1 | hx1
  · have f1 : decide (0 < x1) = true := by simpa using hx1
    clear hx1 hx2 h3
    go_enter Try.func5, Try.ntmps5
    go_wp2_with fail
    rw [← HG.out, ← HW0.out]
    have k0 := HK.out.c0; have k1 := HK.out.c1; have k2 := HK.out.c2; have k3 := HK.out.c3; have k4 := HK.out.c4; have k5 := HK.out.c5
    refine (calls_kept (awake_any _) HK).mono ?_
    rintro e w1 ⟨rfl, HK1⟩
    have k0 := HK1.out.c0; have k1 := HK1.out.c1; have k2 := HK1.out.c2; have k3 := HK1.out.c3; have k4 := HK1.out.c4; have k5 := HK1.out.c5
    go_wp2_with fail
    refine (calls_kept (HC1 _).out HK1).mono ?_
    rintro e w2 ⟨rfl, HK2⟩
    have k0 := HK2.out.c0; have k1 := HK2.out.c1; have k2 := HK2.out.c2; have k3 := HK2.out.c3; have k4 := HK2.out.c4; have k5 := HK2.out.c5
    go_wp2_with fail
    refine (calls_kept (awake_any _) HK2).mono ?_
    rintro e w3 ⟨rfl, HK3⟩
    go_wp2
    go_ret
    exact ⟨rfl, HK3.out.below⟩
  · have f1 : decide (0 < x1) = false := by simpa using hx1
    rcases hx2 with hx2 | hx2
    · have f2 : decide (0 < x2) = true := by simpa using hx2
      clear hx1 hx2 h3
      go_enter Try.func5, Try.ntmps5
      go_wp2_with fail
      rw [← HG.out, ← HW0.out]
      have k0 := HK.out.c0; have k1 := HK.out.c1; have k2 := HK.out.c2; have k3 := HK.out.c3; have k4 := HK.out.c4; have k5 := HK.out.c5
      refine (calls_kept (awake_any _) HK).mono ?_
      rintro e w1 ⟨rfl, HK1⟩
      have k0 := HK1.out.c0; have k1 := HK1.out.c1; have k2 := HK1.out.c2; have k3 := HK1.out.c3; have k4 := HK1.out.c4; have k5 := HK1.out.c5
      go_wp2_with fail
      refine (calls_kept (HC1 _).out HK1).mono ?_
      rintro e w2 ⟨rfl, HK2⟩
      have k0 := HK2.out.c0; have k1 := HK2.out.c1; have k2 := HK2.out.c2; have k3 := HK2.out.c3; have k4 := HK2.out.c4; have k5 := HK2.out.c5
      go_wp2_with fail
      refine (calls_kept (HC2 _).out HK2).mono ?_
      rintro e w3 ⟨rfl, HK3⟩
      have k0 := HK3.out.c0; have k1 := HK3.out.c1; have k2 := HK3.out.c2; have k3 := HK3.out.c3; have k4 := HK3.out.c4; have k5 := HK3.out.c5
      go_wp2_with fail
      refine (calls_kept (awake_any _) HK3).mono ?_
      rintro e w4 ⟨rfl, HK4⟩
      go_wp2
      go_ret
      exact ⟨rfl, HK4.out.below⟩
    · have f2 : decide (0 < x2) = false := by simpa using hx2
      rcases h3 hx1 hx2 with ⟨rfl, rfl, rfl⟩ | ⟨rfl, f3⟩ | ⟨rfl, rfl, f3⟩
      · clear hx1 hx2 h3
        go_enter Try.func5, Try.ntmps5
        go_wp2_with fail
        rw [← HG.out, ← HW0.out]
        have k0 := HK.out.c0; have k1 := HK.out.c1; have k2 := HK.out.c2; have k3 := HK.out.c3; have k4 := HK.out.c4; have k5 := HK.out.c5
        refine (calls_kept (awake_any _) HK).mono ?_
        rintro e w1 ⟨rfl, HK1⟩
        have k0 := HK1.out.c0; have k1 := HK1.out.c1; have k2 := HK1.out.c2; have k3 := HK1.out.c3; have k4 := HK1.out.c4; have k5 := HK1.out.c5
        go_wp2_with fail
        refine (calls_kept (HC1 _).out HK1).mono ?_
        rintro e w2 ⟨rfl, HK2⟩
        have k0 := HK2.out.c0; have k1 := HK2.out.c1; have k2 := HK2.out.c2; have k3 := HK2.out.c3; have k4 := HK2.out.c4; have k5 := HK2.out.c5
        go_wp2_with fail
        refine (calls_kept (HC2 _).out HK2).mono ?_
        rintro e w3 ⟨rfl, HK3⟩
        have k0 := HK3.out.c0; have k1 := HK3.out.c1; have k2 := HK3.out.c2; have k3 := HK3.out.c3; have k4 := HK3.out.c4; have k5 := HK3.out.c5
        go_wp2_with fail
        refine (calls_kept (HC3 _).out HK3).mono ?_
        rintro e w4 ⟨rfl, HK4⟩
        have k0 := HK4.out.c0; have k1 := HK4.out.c1; have k2 := HK4.out.c2; have k3 := HK4.out.c3; have k4 := HK4.out.c4; have k5 := HK4.out.c5
        go_wp2
        go_ret
        exact ⟨rfl, HK4.out.below⟩
      · clear hx1 hx2 h3
        go_enter Try.func5, Try.ntmps5
        go_wp2_with fail
        rw [← HG.out, ← HW0.out]
        have k0 := HK.out.c0; have k1 := HK.out.c1; have k2 := HK.out.c2; have k3 := HK.out.c3; have k4 := HK.out.c4; have k5 := HK.out.c5
        refine (calls_kept (awake_any _) HK).mono ?_
        rintro e w1 ⟨rfl, HK1⟩
        have k0 := HK1.out.c0; have k1 := HK1.out.c1; have k2 := HK1.out.c2; have k3 := HK1.out.c3; have k4 := HK1.out.c4; have k5 := HK1.out.c5
        go_wp2_with fail
        refine (calls_kept (HC1 _).out HK1).mono ?_
        rintro e w2 ⟨rfl, HK2⟩
        have k0 := HK2.out.c0; have k1 := HK2.out.c1; have k2 := HK2.out.c2; have k3 := HK2.out.c3; have k4 := HK2.out.c4; have k5 := HK2.out.c5
        go_wp2_with fail
        refine (calls_kept (HC2 _).out HK2).mono ?_
        rintro e w3 ⟨rfl, HK3⟩
        have k0 := HK3.out.c0; have k1 := HK3.out.c1; have k2 := HK3.out.c2; have k3 := HK3.out.c3; have k4 := HK3.out.c4; have k5 := HK3.out.c5
        go_wp2_with fail
        refine (calls_kept (HC3 _).out HK3).mono ?_
        rintro e w4 ⟨rfl, HK4⟩
        have k0 := HK4.out.c0; have k1 := HK4.out.c1; have k2 := HK4.out.c2; have k3 := HK4.out.c3; have k4 := HK4.out.c4; have k5 := HK4.out.c5
        go_wp2
        go_ret
        exact ⟨rfl, HK4.out.below⟩
      · clear hx1 hx2 h3
        go_enter Try.func5, Try.ntmps5
        go_wp2_with fail
        rw [← HG.out, ← HW0.out]
        have k0 := HK.out.c0; have k1 := HK.out.c1; have k2 := HK.out.c2; have k3 := HK.out.c3; have k4 := HK.out.c4; have k5 := HK.out.c5
        refine (calls_kept (awake_any _) HK).mono ?_
        rintro e w1 ⟨rfl, HK1⟩
        have k0 := HK1.out.c0; have k1 := HK1.out.c1; have k2 := HK1.out.c2; have k3 := HK1.out.c3; have k4 := HK1.out.c4; have k5 := HK1.out.c5
        go_wp2_with fail
        refine (calls_kept (HC1 _).out HK1).mono ?_
        rintro e w2 ⟨rfl, HK2⟩
        have k0 := HK2.out.c0; have k1 := HK2.out.c1; have k2 := HK2.out.c2; have k3 := HK2.out.c3; have k4 := HK2.out.c4; have k5 := HK2.out.c5
        go_wp2_with fail
        refine (calls_kept (HC2 _).out HK2).mono ?_
        rintro e w3 ⟨rfl, HK3⟩
        have k0 := HK3.out.c0; have k1 := HK3.out.c1; have k2 := HK3.out.c2; have k3 := HK3.out.c3; have k4 := HK3.out.c4; have k5 := HK3.out.c5
        go_wp2_with fail
        refine (calls_kept (HC3 _).out HK3).mono ?_
        rintro e w4 ⟨rfl, HK4⟩
        have k0 := HK4.out.c0; have k1 := HK4.out.c1; have k2 := HK4.out.c2; have k3 := HK4.out.c3; have k4 := HK4.out.c4; have k5 := HK4.out.c5
        go_wp2
        go_ret
        exact ⟨rfl, HK4.out.below⟩
set_option maxRecDepth 100000 in
theorem lifted (os : Os) (started : os.Started) (H : Type) (enc : TypeId × Value → H) :
    ReturnsInHanded {} Try.checked os 5 .any (Rows.dotOrdersSpec.pre6 enc Try.prog Try.f5 Rows.dotOrdersRow.domain false) (Rows.dotOrdersSpec.post enc Try.prog Try.f5 false true false false) := by
  refine returnsInHanded_of_change (C := Try.checked) own started (by kernel_rfl) Try.func5
    (ChangeSpec.witness6 (enc := enc) (C := Try.checked) false ⟨#[], #[.agg #[.int .i64 0, .int .i64 0], .agg #[.int .i64 0, .int .i64 0], .agg #[.int .i64 0, .int .i64 0]], []⟩ 8 (by kernel_rfl) (by kernel_rfl) (by kernel_rfl) (by kernel_rfl)) ?_
  intro W base args ds gs before hval0 hW _ _
  have hval : ∀ (j : Nat) t v, Try.f5.params[j]? = some t → args[j]? = some v → Value.okWide Try.prog W .any base t v := hval0
  have hW' := hW
  obtain ⟨p, q, hA0, hV, rfl, hfz, hnd⟩ := hW
  have hA : DataW.TrodAll enc Try.prog W 0 (fun _ => true) true Try.f5.params.toList args.toList ds p := hA0
  rw [Try.params5] at hA hval
  obtain ⟨v0, v1, v2, d0, d1, d2, p0, p1, p2, rfl, rfl, rfl, h0, h1, h2⟩ := trodAll_three hA
  obtain ⟨rfl, rfl⟩ := trodVars_none hV
  obtain ⟨a0, n0, rfl, ba0, bn0⟩ := Dt.dot_of_trod (hval 0 23 v0 rfl rfl) h0
  obtain ⟨a1, n1, rfl, ba1, bn1⟩ := Dt.dot_of_trod (hval 1 23 v1 rfl rfl) h1
  obtain ⟨a2, n2, rfl, ba2, bn2⟩ := Dt.dot_of_trod (hval 2 23 v2 rfl rfl) h2
  refine (walk_any a0 n0 a1 n1 a2 n2 W   ).mono fun e W' ⟨he, hb⟩ => ?_
  subst he
  exact ⟨_, rfl, law_post hW' (by kernel_rfl) rfl rfl rfl hb⟩
theorem proved : Rows.DotOrdersSaid :=
  OpenClaim.holds_of_wide 5 Try.f5 rfl rfl rfl rfl rfl rfl rfl ⟨rfl, rfl, rfl, rfl, rfl⟩ rfl rfl rfl rfl rfl (by kernel_rfl) Try.func5 (by kernel_rfl)
    (of_decide_eq_true (by kernel_rfl)) (by unfold Func.isWrapper; first | (rw [if_pos (by decide +kernel)]; kernel_rfl) | (rw [if_neg (by decide +kernel)]; exact ⟨rfl, rfl⟩))
    (fun os started H enc _ => lifted os started H enc)
#print axioms proved
end Go.Proofs.Ytoefbljmagphkaa.lawDotOrders
