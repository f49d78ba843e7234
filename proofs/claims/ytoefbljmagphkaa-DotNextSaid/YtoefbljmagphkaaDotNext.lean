/- DotNext answers true for all centers and numbers. No condition. -/
import Derived.Test.YtoefbljmagphkaaDot
import Derived.Test.YtoefbljmagphkaaDotArgs
import Derived.Test.YtoefbljmagphkaaKept
namespace Go.Proofs.Ytoefbljmagphkaa.lawDotNext
open Go.ChangeShapes Go.WideShapes Go.ChangeAt Go.RowKit Dt
set_option maxHeartbeats 400000 in
theorem walk_any (a n : Int) (w : World) (ha : B64 a) (hn : B64 n) : Calls Try.prog 6 #[.int .i64 a, .int .i64 n] w fun e w' => e = .returned (.bool true) ∧ Below w.heap.size w w' := by
  obtain ⟨ha1, ha2⟩ := ha
  obtain ⟨hn1, hn2⟩ := hn
  have HN := Lib.hid (next_any a n w hn1 hn2)
  obtain ⟨x, hx⟩ : ∃ x, x = nextA a n := ⟨_, rfl⟩
  obtain ⟨y, hy⟩ : ∃ y, y = nextN a n := ⟨_, rfl⟩
  obtain ⟨z, hz⟩ : ∃ z, z = nextE a n := ⟨_, rfl⟩
  rw [← hx, ← hy, ← hz] at HN
  by_cases h0 : a < 0
  · have f0 : decide (a < 0) = true := by simpa using h0
    obtain rfl : x = 0 := hx.trans (if_neg (by unfold cenB; simp; omega))
    obtain rfl : y = 0 := hy.trans (if_neg (by unfold cenB; simp; omega))
    obtain rfl : z = 1 := hz.trans (if_neg (by unfold cenB; simp; omega))
    clear hx hy hz
    go_enter Try.func6, Try.ntmps6
    go_wp2_with (first
      | (go_at_call 13; refine HN.out.mono ?_; rintro e w1 ⟨rfl, hb1⟩; obtain ⟨g, hg⟩ : ∃ g, g = w1.heap.size := ⟨_, rfl⟩; have HK : Hid (Kept [(⟨g, 0, none⟩, .int .i64 0), (⟨g, 1, none⟩, .int .i64 0)] w (w1.alloc (.cells #[.int .i64 0, .int .i64 0] 23))) := (by rw [hg]; exact (((Kept.nil_of hb1).alloc _).cons_of (by go_simp)).cons_of (by go_simp)); have HG := Lib.hid hg; clear hg hb1)
      | (go_at_call 8; rw [← HG.out]; refine (calls_kept (awake_any _) HK).mono ?_; rintro e w2 ⟨rfl, HK2⟩; have k0 := HK2.out.c0; have k1 := HK2.out.c1))
    go_ret
    exact ⟨rfl, HK2.out.below⟩
  · have f0 : decide (a < 0) = false := by simp; omega
    by_cases h1 : 3 < a
    · have f1 : decide (3 < a) = true := by simpa using h1
      obtain rfl : x = 0 := hx.trans (if_neg (by unfold cenB; simp; omega))
      obtain rfl : y = 0 := hy.trans (if_neg (by unfold cenB; simp; omega))
      obtain rfl : z = 1 := hz.trans (if_neg (by unfold cenB; simp; omega))
      clear hx hy hz
      go_enter Try.func6, Try.ntmps6
      go_wp2_with (first
        | (go_at_call 13; refine HN.out.mono ?_; rintro e w1 ⟨rfl, hb1⟩; obtain ⟨g, hg⟩ : ∃ g, g = w1.heap.size := ⟨_, rfl⟩; have HK : Hid (Kept [(⟨g, 0, none⟩, .int .i64 0), (⟨g, 1, none⟩, .int .i64 0)] w (w1.alloc (.cells #[.int .i64 0, .int .i64 0] 23))) := (by rw [hg]; exact (((Kept.nil_of hb1).alloc _).cons_of (by go_simp)).cons_of (by go_simp)); have HG := Lib.hid hg; clear hg hb1)
        | (go_at_call 8; rw [← HG.out]; refine (calls_kept (awake_any _) HK).mono ?_; rintro e w2 ⟨rfl, HK2⟩; have k0 := HK2.out.c0; have k1 := HK2.out.c1))
      go_ret
      exact ⟨rfl, HK2.out.below⟩
    · have f1 : decide (3 < a) = false := by simp; omega
      have hc : cenB a = true := by unfold cenB; simp; omega
      by_cases h2 : n < 0
      · have f2 : decide (n < 0) = true := by simpa using h2
        obtain rfl : x = 0 := hx.trans (if_neg (by omega))
        obtain rfl : y = 0 := hy.trans (if_neg (by omega))
        obtain rfl : z = 1 := hz.trans (if_neg (by omega))
        clear hx hy hz
        go_enter Try.func6, Try.ntmps6
        go_wp2_with (first
          | (go_at_call 13; refine HN.out.mono ?_; rintro e w1 ⟨rfl, hb1⟩; obtain ⟨g, hg⟩ : ∃ g, g = w1.heap.size := ⟨_, rfl⟩; have HK : Hid (Kept [(⟨g, 0, none⟩, .int .i64 0), (⟨g, 1, none⟩, .int .i64 0)] w (w1.alloc (.cells #[.int .i64 0, .int .i64 0] 23))) := (by rw [hg]; exact (((Kept.nil_of hb1).alloc _).cons_of (by go_simp)).cons_of (by go_simp)); have HG := Lib.hid hg; clear hg hb1)
          | (go_at_call 8; rw [← HG.out]; refine (calls_kept (awake_any _) HK).mono ?_; rintro e w2 ⟨rfl, HK2⟩; have k0 := HK2.out.c0; have k1 := HK2.out.c1))
        go_ret
        exact ⟨rfl, HK2.out.below⟩
      · have f2 : decide (n < 0) = false := by simp; omega
        by_cases h3 : 1099511627776 ≤ n
        · have f3 : decide (1099511627776 ≤ n) = true := by simpa using h3
          obtain rfl : x = 0 := hx.trans (if_neg (by omega))
          obtain rfl : y = 0 := hy.trans (if_neg (by omega))
          obtain rfl : z = 5 := hz.trans (by unfold nextE; rw [if_pos ⟨hc, by omega⟩, if_neg (by omega)])
          clear hx hy hz
          go_enter Try.func6, Try.ntmps6
          go_wp2_with (first
            | (go_at_call 13; refine HN.out.mono ?_; rintro e w1 ⟨rfl, hb1⟩; obtain ⟨g, hg⟩ : ∃ g, g = w1.heap.size := ⟨_, rfl⟩; have HK : Hid (Kept [(⟨g, 0, none⟩, .int .i64 0), (⟨g, 1, none⟩, .int .i64 0)] w (w1.alloc (.cells #[.int .i64 0, .int .i64 0] 23))) := (by rw [hg]; exact (((Kept.nil_of hb1).alloc _).cons_of (by go_simp)).cons_of (by go_simp)); have HG := Lib.hid hg; clear hg hb1)
            | (go_at_call 8; rw [← HG.out]; refine (calls_kept (awake_any _) HK).mono ?_; rintro e w2 ⟨rfl, HK2⟩; have k0 := HK2.out.c0; have k1 := HK2.out.c1))
          go_ret
          exact ⟨rfl, HK2.out.below⟩
        · have f3 : decide (1099511627776 ≤ n) = false := by simp; omega
          obtain rfl : z = 0 := hz.trans (by unfold nextE; rw [if_pos ⟨hc, by omega⟩, if_pos (by omega)])
          rw [hx, hy, show nextA a n = a from if_pos ⟨hc, by omega, by omega⟩, show nextN a n = n + 1 from if_pos ⟨hc, by omega, by omega⟩] at HN
          have HR : ∀ W, Hid (Calls Try.prog 9 #[.agg #[.int .i64 a, .int .i64 (n + 1)]] W fun e w' => e = .returned (.bool true) ∧ Below W.heap.size W w') := fun W => by have := right_any a (n + 1) W; rwa [show rightB a (n + 1) = true by unfold rightB; simp; omega] at this
          have e1 : n + 1 - 1 = n := by omega
          clear hx hy hz hc
          go_enter Try.func6, Try.ntmps6
          go_wp2_with (first
            | (go_at_call 13; refine HN.out.mono ?_; rintro e w1 ⟨rfl, hb1⟩; obtain ⟨g, hg⟩ : ∃ g, g = w1.heap.size := ⟨_, rfl⟩; have HK : Hid (Kept [(⟨g, 0, none⟩, .int .i64 a), (⟨g, 1, none⟩, .int .i64 (n + 1))] w (w1.alloc (.cells #[.int .i64 a, .int .i64 (n + 1)] 23))) := (by rw [hg]; exact (((Kept.nil_of hb1).alloc _).cons_of (by go_simp)).cons_of (by go_simp)); have HG := Lib.hid hg; clear hg hb1)
            | (go_at_call 8; rw [← HG.out]; refine (calls_kept (awake_any _) HK).mono ?_; rintro e w2 ⟨rfl, HK2⟩; have k0 := HK2.out.c0; have k1 := HK2.out.c1)
            | (go_at_call 9; refine (calls_kept (HR _).out HK2).mono ?_; rintro e w3 ⟨rfl, HK3⟩))
          go_ret
          exact ⟨rfl, HK3.out.below⟩
set_option maxRecDepth 100000 in
theorem lifted (os : Os) (started : os.Started) (H : Type) (enc : TypeId × Value → H) :
    ReturnsInHanded {} Try.checked os 6 .any (Rows.dotNextSpec.pre6 enc Try.prog Try.f6 Rows.dotNextRow.domain false) (Rows.dotNextSpec.post enc Try.prog Try.f6 false true false false) := by
  refine returnsInHanded_of_change (C := Try.checked) own started (by kernel_rfl) Try.func6
    (ChangeSpec.witness6 (enc := enc) (C := Try.checked) false ⟨#[], #[.int .i64 0, .int .i64 0], []⟩ 8 (by kernel_rfl) (by kernel_rfl) (by kernel_rfl) (by kernel_rfl)) ?_
  intro W base args ds gs before hval0 hW _ _
  have hval : ∀ (j : Nat) t v, Try.f6.params[j]? = some t → args[j]? = some v → Value.okWide Try.prog W .any base t v := hval0
  have hW' := hW
  obtain ⟨p, q, hA0, hV, rfl, hfz, hnd⟩ := hW
  have hA : DataW.TrodAll enc Try.prog W 0 (fun _ => true) true Try.f6.params.toList args.toList ds p := hA0
  rw [Try.params6] at hA hval
  obtain ⟨v0, v1, d0, d1, p0, p1, rfl, rfl, rfl, h0, h1⟩ := trodAll_two hA
  obtain ⟨rfl, rfl⟩ := trodVars_none hV
  obtain ⟨x0, rfl, rfl, rfl, w0⟩ := open_int Try.underlying3 (hval 0 3 v0 rfl rfl) h0
  obtain ⟨x1, rfl, rfl, rfl, w1⟩ := open_int Try.underlying2 (hval 1 2 v1 rfl rfl) h1
  refine (walk_any x0 x1 W (Dt.wf_i64 w0) (Dt.wf_i64 w1)).mono fun e W' ⟨he, hb⟩ => ?_
  subst he
  exact ⟨_, rfl, law_post hW' (by kernel_rfl) rfl rfl rfl hb⟩
theorem proved : Rows.DotNextSaid :=
  OpenClaim.holds_of_wide 6 Try.f6 rfl rfl rfl rfl rfl rfl rfl ⟨rfl, rfl, rfl, rfl, rfl⟩ rfl rfl rfl rfl rfl (by kernel_rfl) Try.func6 (by kernel_rfl)
    (of_decide_eq_true (by kernel_rfl)) (by unfold Func.isWrapper; first | (rw [if_pos (by decide +kernel)]; kernel_rfl) | (rw [if_neg (by decide +kernel)]; exact ⟨rfl, rfl⟩))
    (fun os started H enc _ => lifted os started H enc)
#print axioms proved
end Go.Proofs.Ytoefbljmagphkaa.lawDotNext
