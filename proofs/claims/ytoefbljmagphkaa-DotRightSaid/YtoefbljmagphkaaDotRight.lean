/- DotRight answers true for all dots. No condition. -/
import Derived.Test.YtoefbljmagphkaaDot
import Derived.Test.YtoefbljmagphkaaDotArgs
import Derived.Test.YtoefbljmagphkaaKept
namespace Go.Proofs.Ytoefbljmagphkaa.lawDotRight
open Go.ChangeShapes Go.WideShapes Go.ChangeAt Go.RowKit Dt
set_option maxHeartbeats 400000 in
theorem walk_any (a n : Int) (w : World) : Calls Try.prog 3 #[.agg #[.int .i64 a, .int .i64 n]] w fun e w' => e = .returned (.bool true) ∧ Below w.heap.size w w' := by
  obtain ⟨r, hr⟩ : ∃ r, r = rightB a n := ⟨_, rfl⟩
  have f1 : (r == r) = true := by simp
  have H1 : ∀ W, Hid (Calls Try.prog 9 #[.agg #[.int .i64 a, .int .i64 n]] W fun e w' => e = .returned (.bool r) ∧ Below W.heap.size W w') := fun W => by rw [hr]; exact right_any a n W
  have H2 : ∀ W, Hid (Calls Try.prog 10 #[.agg #[.int .i64 a, .int .i64 n]] W fun e w' => e = .returned (.bool r) ∧ Below W.heap.size W w') := fun W => by rw [hr]; exact refright_any a n W
  clear hr
  go_enter Try.func3, Try.ntmps3
  go_wp2
  obtain ⟨g, hg⟩ : ∃ g, g = w.heap.size := ⟨_, rfl⟩
  have HK : Hid (Kept [(⟨g, 0, none⟩, .int .i64 a), (⟨g, 1, none⟩, .int .i64 n)] w (w.alloc (.cells #[.int .i64 a, .int .i64 n] 23))) := by
    rw [hg]
    exact (((Kept.nil w).alloc _).cons_of (by go_simp)).cons_of (by go_simp)
  rw [← hg]
  have HG := Lib.hid hg
  clear hg
  generalize w.alloc (.cells #[.int .i64 a, .int .i64 n] 23) = W at *
  have k0 := HK.out.c0
  have k1 := HK.out.c1
  go_region_held3 (fun W => W.cell? ⟨g, 0, none⟩ = some (.int .i64 a) ∧ W.cell? ⟨g, 1, none⟩ = some (.int .i64 n)) (go_keep)
    (first
      | (go_at_call 8; refine (calls_kept (awake_any _) HK.drew).mono ?_; rintro e w1 ⟨rfl, HK1⟩; have k0 := HK1.out.c0; have k1 := HK1.out.c1)
      | (go_at_call 9; refine (calls_kept (H1 _).out HK1).mono ?_; rintro e w2 ⟨rfl, HK2⟩; have k0 := HK2.out.c0; have k1 := HK2.out.c1)
      | (go_at_call 10; refine (calls_kept (H2 _).out HK2).mono ?_; rintro e w3 ⟨rfl, HK3⟩; have k0 := HK3.out.c0; have k1 := HK3.out.c1))
  go_wp2
  go_ret
  exact ⟨rfl, HK3.out.below⟩
set_option maxRecDepth 100000 in
theorem lifted (os : Os) (started : os.Started) (H : Type) (enc : TypeId × Value → H) :
    ReturnsInHanded {} Try.checked os 3 .any (Rows.dotRightSpec.pre6 enc Try.prog Try.f3 Rows.dotRightRow.domain false) (Rows.dotRightSpec.post enc Try.prog Try.f3 false true false false) := by
  refine returnsInHanded_of_change (C := Try.checked) own started (by kernel_rfl) Try.func3
    (ChangeSpec.witness6 (enc := enc) (C := Try.checked) false ⟨#[], #[.agg #[.int .i64 0, .int .i64 0]], []⟩ 8 (by kernel_rfl) (by kernel_rfl) (by kernel_rfl) (by kernel_rfl)) ?_
  intro W base args ds gs before hval0 hW _ _
  have hval : ∀ (j : Nat) t v, Try.f3.params[j]? = some t → args[j]? = some v → Value.okWide Try.prog W .any base t v := hval0
  have hW' := hW
  obtain ⟨p, q, hA0, hV, rfl, hfz, hnd⟩ := hW
  have hA : DataW.TrodAll enc Try.prog W 0 (fun _ => true) true Try.f3.params.toList args.toList ds p := hA0
  rw [Try.params3] at hA hval
  obtain ⟨v0, d0, rfl, rfl, h0⟩ := trodAll_one hA
  obtain ⟨rfl, rfl⟩ := trodVars_none hV
  obtain ⟨a0, n0, rfl, ba0, bn0⟩ := Dt.dot_of_trod (hval 0 23 v0 rfl rfl) h0
  refine (walk_any a0 n0 W ).mono fun e W' ⟨he, hb⟩ => ?_
  subst he
  exact ⟨_, rfl, law_post hW' (by kernel_rfl) rfl rfl rfl hb⟩
theorem proved : Rows.DotRightSaid :=
  OpenClaim.holds_of_wide 3 Try.f3 rfl rfl rfl rfl rfl rfl rfl ⟨rfl, rfl, rfl, rfl, rfl⟩ rfl rfl rfl rfl rfl (by kernel_rfl) Try.func3 (by kernel_rfl)
    (of_decide_eq_true (by kernel_rfl)) (by unfold Func.isWrapper; first | (rw [if_pos (by decide +kernel)]; kernel_rfl) | (rw [if_neg (by decide +kernel)]; exact ⟨rfl, rfl⟩))
    (fun os started H enc _ => lifted os started H enc)
#print axioms proved
end Go.Proofs.Ytoefbljmagphkaa.lawDotRight
