/- Dots: which is ahead; the program's and the document's. -/
import Derived.Test.YtbfcbfadfnaebaaDot0
import Derived.WalkKit
import Derived.StillTailTactics
import Derived.Deep.QuietTactic
import Derived.BigQuiet
import Derived.Deep.RegionHeld3
import Derived.IntWalk
namespace Go.Proofs.Ytbfcbfadfnaebaa
open Go.ChangeShapes Go.WideShapes Go.ChangeAt Go.RowKit
namespace Dt
theorem nan_int (a : Int) (w : World) : Calls Try.prog 92 #[.int .i64 a] w fun e w' => e = .returned (.bool false) ∧ w = w' := by
  have f1 : (a != a) = false := by simp
  go_enter Try.func92, Try.ntmps92
  go_wp2
  go_ret
  exact ⟨rfl, rfl⟩
theorem nan_int64 (a : Int) (w : World) : Calls Try.prog 93 #[.int .i64 a] w fun e w' => e = .returned (.bool false) ∧ w = w' := by
  have f1 : (a != a) = false := by simp
  go_enter Try.func93, Try.ntmps93
  go_wp2
  go_ret
  exact ⟨rfl, rfl⟩
theorem cmp_int (a b : Int) (w : World) : Calls Try.prog 80 #[.int .i64 a, .int .i64 b] w fun e w' => e = .returned (.int .i64 (cmp1 a b)) ∧ w = w' := by
  rcases Int.lt_trichotomy a b with h | rfl | h
  · rw [cmp1_lt h]
    have f1 : decide (a < b) = true := by simpa using h
    go_enter Try.func80, Try.ntmps80
    go_wp2_with (go_at_call 92; refine (nan_int _ _).mono ?_; rintro e w' ⟨rfl, rfl⟩)
    go_ret
    exact ⟨rfl, rfl⟩
  · rw [cmp1_eq]
    have f1 : decide (a < a) = false := by simp
    go_enter Try.func80, Try.ntmps80
    go_wp2_with (go_at_call 92; refine (nan_int _ _).mono ?_; rintro e w' ⟨rfl, rfl⟩)
    go_ret
    exact ⟨rfl, rfl⟩
  · rw [cmp1_gt h]
    have f1 : decide (a < b) = false := by simp; omega
    have f2 : decide (b < a) = true := by simpa using h
    go_enter Try.func80, Try.ntmps80
    go_wp2_with (go_at_call 92; refine (nan_int _ _).mono ?_; rintro e w' ⟨rfl, rfl⟩)
    go_ret
    exact ⟨rfl, rfl⟩
theorem cmp_int64 (a b : Int) (w : World) : Calls Try.prog 81 #[.int .i64 a, .int .i64 b] w fun e w' => e = .returned (.int .i64 (cmp1 a b)) ∧ w = w' := by
  rcases Int.lt_trichotomy a b with h | rfl | h
  · rw [cmp1_lt h]
    have f1 : decide (a < b) = true := by simpa using h
    go_enter Try.func81, Try.ntmps81
    go_wp2_with (go_at_call 93; refine (nan_int64 _ _).mono ?_; rintro e w' ⟨rfl, rfl⟩)
    go_ret
    exact ⟨rfl, rfl⟩
  · rw [cmp1_eq]
    have f1 : decide (a < a) = false := by simp
    go_enter Try.func81, Try.ntmps81
    go_wp2_with (go_at_call 93; refine (nan_int64 _ _).mono ?_; rintro e w' ⟨rfl, rfl⟩)
    go_ret
    exact ⟨rfl, rfl⟩
  · rw [cmp1_gt h]
    have f1 : decide (a < b) = false := by simp; omega
    have f2 : decide (b < a) = true := by simpa using h
    go_enter Try.func81, Try.ntmps81
    go_wp2_with (go_at_call 93; refine (nan_int64 _ _).mono ?_; rintro e w' ⟨rfl, rfl⟩)
    go_ret
    exact ⟨rfl, rfl⟩
/-- the first one that isn't zero, of two -/
theorem or_two (g : Nat) (x y : Int) (w : World) (h0 : w.cell? ⟨g, 0, none⟩ = some (.int .i64 x)) (h1 : w.cell? ⟨g, 1, none⟩ = some (.int .i64 y)) :
    Calls Try.prog 79 #[.slice (some ⟨g, 0, none⟩) 2 2] w fun e w' => e = .returned (.int .i64 (if x = 0 then y else x)) ∧ w = w' := by
  by_cases hx : x = 0
  · rw [if_pos hx]
    subst hx
    by_cases hy : y = 0
    · subst hy
      go_enter Try.func79, Try.ntmps79
      go_wp2
      go_loop [8] (fun i => ∃ k : Nat, k ≤ 2 ∧ i = .int .i64 k) (fun i => 2 - (intOf i).toNat)
      case atStart => exact ⟨0, by omega, rfl⟩
      case round =>
        obtain ⟨k, hk, rfl⟩ := hrel
        rcases (by omega : k = 0 ∨ k = 1 ∨ k = 2) with rfl | rfl | rfl
        · go_wp2
          go_round
          case rel => exact ⟨1, by omega, rfl⟩
          case measure => simp [intOf]
        · go_wp2
          go_round
          case rel => exact ⟨2, by omega, rfl⟩
          case measure => simp [intOf]
        · go_wp2
          go_ret
          exact ⟨rfl, rfl⟩
    · have f1 : (y != 0) = true := by simpa using hy
      go_enter Try.func79, Try.ntmps79
      go_wp2
      go_loop [8] (fun i => ∃ k : Nat, k ≤ 1 ∧ i = .int .i64 k) (fun i => 2 - (intOf i).toNat)
      case atStart => exact ⟨0, by omega, rfl⟩
      case round =>
        obtain ⟨k, hk, rfl⟩ := hrel
        rcases (by omega : k = 0 ∨ k = 1) with rfl | rfl
        · go_wp2
          go_round
          case rel => exact ⟨1, by omega, rfl⟩
          case measure => simp [intOf]
        · go_wp2
          go_ret
          exact ⟨rfl, rfl⟩
  · rw [if_neg hx]
    have f1 : (x != 0) = true := by simpa using hx
    go_enter Try.func79, Try.ntmps79
    go_wp2
    go_loop [8] (fun i => i = .int .i64 0) (fun i => 2 - (intOf i).toNat)
    case atStart => rfl
    case round =>
      subst hrel
      go_wp2
      go_ret
      exact ⟨rfl, rfl⟩
theorem box2_below (w : World) (x y : Array Value) (t u : TypeId) : Below w.heap.size w ((w.alloc (.cells x t)).alloc (.cells y u)) := ((Below.refl _ _).alloc (Nat.le_refl _) _).alloc (by simp) _
set_option maxRecDepth 100000 in
set_option maxHeartbeats 400000 in
theorem less_any (a n b m : Int) (w : World) : Calls Try.prog 61 #[.agg #[.int .i64 a, .int .i64 n], .agg #[.int .i64 b, .int .i64 m]] w fun e w' => e = .returned (.bool (lessB a n b m)) ∧ Below w.heap.size w w' := by
  by_cases h0 : a = b
  · subst h0
    have g0 : (a != a) = false := by simp
    by_cases h1 : n < m
    · have f1 : decide (n < m) = true := by simpa using h1
      go_enter Try.func61, Try.ntmps61
      go_wp2
      go_ret
      exact ⟨ret_bool (by unfold lessB; simp; omega), box2_below _ _ _ _ _⟩
    · have f1 : decide (n < m) = false := by simp; omega
      go_enter Try.func61, Try.ntmps61
      go_wp2
      go_ret
      exact ⟨ret_bool (by unfold lessB; simp; omega), box2_below _ _ _ _ _⟩
  · have g0 : (a != b) = true := by simpa using h0
    by_cases h1 : a < b
    · have f1 : decide (a < b) = true := by simpa using h1
      go_enter Try.func61, Try.ntmps61
      go_wp2
      go_ret
      exact ⟨ret_bool (by unfold lessB; simp; omega), box2_below _ _ _ _ _⟩
    · have f1 : decide (a < b) = false := by simp; omega
      go_enter Try.func61, Try.ntmps61
      go_wp2
      go_ret
      exact ⟨ret_bool (by unfold lessB; simp; omega), box2_below _ _ _ _ _⟩
theorem cmpI_or (a n b m : Int) : (if cmp1 a b = 0 then cmp1 n m else cmp1 a b) = cmpI a n b m := by
  unfold cmp1 cmpI
  repeat' split
  all_goals omega
set_option maxRecDepth 100000 in
set_option maxHeartbeats 400000 in
theorem compare_any (a n b m : Int) (w : World) : Calls Try.prog 63 #[.agg #[.int .i64 a, .int .i64 n], .agg #[.int .i64 b, .int .i64 m]] w fun e w' => e = .returned (.int .i64 (cmpI a n b m)) ∧ Below w.heap.size w w' := by
  have HC := Lib.hid (cmpI_or a n b m)
  obtain ⟨x, hx⟩ : ∃ x, x = cmp1 a b := ⟨_, rfl⟩
  obtain ⟨y, hy⟩ : ∃ y, y = cmp1 n m := ⟨_, rfl⟩
  rw [← hx, ← hy] at HC
  have H1 : ∀ W, Hid (Calls Try.prog 80 #[.int .i64 a, .int .i64 b] W fun e w' => e = .returned (.int .i64 x) ∧ w' = W) := fun W => by rw [hx]; exact (cmp_int a b W).mono fun _ _ h => ⟨h.1, h.2.symm⟩
  have H2 : ∀ W, Hid (Calls Try.prog 81 #[.int .i64 n, .int .i64 m] W fun e w' => e = .returned (.int .i64 y) ∧ w' = W) := fun W => by rw [hy]; exact (cmp_int64 n m W).mono fun _ _ h => ⟨h.1, h.2.symm⟩
  clear hx hy
  go_enter Try.func63, Try.ntmps63
  go_wp2
  have hb := Lib.hid (box2_below w #[.int .i64 a, .int .i64 n] #[.int .i64 b, .int .i64 m] 65 65)
  obtain ⟨p, hp⟩ : ∃ p, p = w.heap.size := ⟨_, rfl⟩
  obtain ⟨W, hW⟩ : ∃ W, W = (w.alloc (.cells #[.int .i64 a, .int .i64 n] 65)).alloc (.cells #[.int .i64 b, .int .i64 m] 65) := ⟨_, rfl⟩
  have k0 : W.cell? ⟨p, 0, none⟩ = some (.int .i64 a) := by rw [hW, hp]; go_simp
  have k1 : W.cell? ⟨p, 1, none⟩ = some (.int .i64 n) := by rw [hW, hp]; go_simp
  have k2 : W.cell? ⟨p + 1, 0, none⟩ = some (.int .i64 b) := by rw [hW, hp]; go_simp
  have k3 : W.cell? ⟨p + 1, 1, none⟩ = some (.int .i64 m) := by rw [hW, hp]; go_simp
  rw [← hW] at hb ⊢
  rw [← hp]
  have HP := Lib.hid hp
  clear hW hp
  refine wp_region_still_tail 10 (by kernel_rfl) (by kernel_rfl) ?_
  simp only [List.take_succ_cons, List.take_zero, List.drop_succ_cons, List.drop_zero]
  still_step
  still_step
  still_step
  still_step
  still_call (H1 _).out
  still_step
  still_step
  still_step
  still_step
  still_call (H2 _).out
  refine wpStill_nil ?_
  change wpList _ _ _ _ _ W.drew
  have hb2 : Hid (Below w.heap.size w (W.drew.alloc (.cells #[.int .i64 x, .int .i64 y] 3))) := ((bel_drewN hb.out 1)).alloc (by have := hb.out.size; simpa using this) _
  clear H1 H2 k0 k1 k2 k3 hb
  generalize W.drew = W2 at *
  go_wp2_with (go_at_call 79; refine (or_two W2.heap.size x y _ (by go_simp) (by go_simp)).mono ?_; rw [HC.out]; rintro e w' ⟨rfl, rfl⟩)
  go_ret
  exact ⟨rfl, hb2.out⟩

end Dt
end Go.Proofs.Ytbfcbfadfnaebaa
