/- Dots: what is right, which is ahead; the program's and the document's. -/
import Derived.Test.YtoefbljmagphkaaLaw
import Derived.WalkKit
import Derived.StillTailTactics
import Derived.Deep.QuietTactic
import Derived.BigQuiet
import Derived.Deep.RegionHeld3
import Derived.IntWalk
namespace Go.Proofs.Ytoefbljmagphkaa
open Go.ChangeShapes Go.WideShapes Go.ChangeAt Go.RowKit
namespace Dt
def cenB (a : Int) : Bool := decide (0 ≤ a ∧ a < 4)
def rightB (a n : Int) : Bool := decide (0 ≤ a ∧ a < 4 ∧ 1 ≤ n ∧ n ≤ 1099511627776)
def cmp1 (a b : Int) : Int := if a < b then -1 else if b < a then 1 else 0
def cmpI (a n b m : Int) : Int := if a < b ∨ (a = b ∧ n < m) then -1 else if a = b ∧ n = m then 0 else 1
def lessB (a n b m : Int) : Bool := decide (a < b ∨ (a = b ∧ n < m))
theorem cmp1_lt {a b : Int} (h : a < b) : cmp1 a b = -1 := by unfold cmp1; rw [if_pos h]
theorem cmp1_gt {a b : Int} (h : b < a) : cmp1 a b = 1 := by unfold cmp1; rw [if_neg (by omega), if_pos h]
theorem cmp1_eq (a : Int) : cmp1 a a = 0 := by unfold cmp1; rw [if_neg (by omega), if_neg (by omega)]
theorem cmp1_or (a b : Int) : (a < b ∧ cmp1 a b = -1) ∨ (a = b ∧ cmp1 a b = 0) ∨ (b < a ∧ cmp1 a b = 1) := by
  rcases Int.lt_trichotomy a b with h | rfl | h
  · exact .inl ⟨h, cmp1_lt h⟩
  · exact .inr (.inl ⟨rfl, cmp1_eq _⟩)
  · exact .inr (.inr ⟨h, cmp1_gt h⟩)
theorem ret_bool {a b : Bool} (h : a = b) : Ending.returned (.bool a) = .returned (.bool b) := by rw [h]
theorem ret_int {a b : Int} (h : a = b) : Ending.returned (.int .i64 a) = .returned (.int .i64 b) := by rw [h]
theorem nan_int (a : Int) (w : World) : Calls Try.prog 19 #[.int .i64 a] w fun e w' => e = .returned (.bool false) ∧ w = w' := by
  have f1 : (a != a) = false := by simp
  go_enter Try.func19, Try.ntmps19
  go_wp2
  go_ret
  exact ⟨rfl, rfl⟩
theorem nan_int64 (a : Int) (w : World) : Calls Try.prog 20 #[.int .i64 a] w fun e w' => e = .returned (.bool false) ∧ w = w' := by
  have f1 : (a != a) = false := by simp
  go_enter Try.func20, Try.ntmps20
  go_wp2
  go_ret
  exact ⟨rfl, rfl⟩
theorem cmp_int (a b : Int) (w : World) : Calls Try.prog 17 #[.int .i64 a, .int .i64 b] w fun e w' => e = .returned (.int .i64 (cmp1 a b)) ∧ w = w' := by
  rcases Int.lt_trichotomy a b with h | rfl | h
  · rw [cmp1_lt h]
    have f1 : decide (a < b) = true := by simpa using h
    go_enter Try.func17, Try.ntmps17
    go_wp2_with (go_at_call 19; refine (nan_int _ _).mono ?_; rintro e w' ⟨rfl, rfl⟩)
    go_ret
    exact ⟨rfl, rfl⟩
  · rw [cmp1_eq]
    have f1 : decide (a < a) = false := by simp
    go_enter Try.func17, Try.ntmps17
    go_wp2_with (go_at_call 19; refine (nan_int _ _).mono ?_; rintro e w' ⟨rfl, rfl⟩)
    go_ret
    exact ⟨rfl, rfl⟩
  · rw [cmp1_gt h]
    have f1 : decide (a < b) = false := by simp; omega
    have f2 : decide (b < a) = true := by simpa using h
    go_enter Try.func17, Try.ntmps17
    go_wp2_with (go_at_call 19; refine (nan_int _ _).mono ?_; rintro e w' ⟨rfl, rfl⟩)
    go_ret
    exact ⟨rfl, rfl⟩
theorem cmp_int64 (a b : Int) (w : World) : Calls Try.prog 18 #[.int .i64 a, .int .i64 b] w fun e w' => e = .returned (.int .i64 (cmp1 a b)) ∧ w = w' := by
  rcases Int.lt_trichotomy a b with h | rfl | h
  · rw [cmp1_lt h]
    have f1 : decide (a < b) = true := by simpa using h
    go_enter Try.func18, Try.ntmps18
    go_wp2_with (go_at_call 20; refine (nan_int64 _ _).mono ?_; rintro e w' ⟨rfl, rfl⟩)
    go_ret
    exact ⟨rfl, rfl⟩
  · rw [cmp1_eq]
    have f1 : decide (a < a) = false := by simp
    go_enter Try.func18, Try.ntmps18
    go_wp2_with (go_at_call 20; refine (nan_int64 _ _).mono ?_; rintro e w' ⟨rfl, rfl⟩)
    go_ret
    exact ⟨rfl, rfl⟩
  · rw [cmp1_gt h]
    have f1 : decide (a < b) = false := by simp; omega
    have f2 : decide (b < a) = true := by simpa using h
    go_enter Try.func18, Try.ntmps18
    go_wp2_with (go_at_call 20; refine (nan_int64 _ _).mono ?_; rintro e w' ⟨rfl, rfl⟩)
    go_ret
    exact ⟨rfl, rfl⟩
/-- the first one that isn't zero, of two -/
theorem or_two (g : Nat) (x y : Int) (w : World) (h0 : w.cell? ⟨g, 0, none⟩ = some (.int .i64 x)) (h1 : w.cell? ⟨g, 1, none⟩ = some (.int .i64 y)) :
    Calls Try.prog 16 #[.slice (some ⟨g, 0, none⟩) 2 2] w fun e w' => e = .returned (.int .i64 (if x = 0 then y else x)) ∧ w = w' := by
  by_cases hx : x = 0
  · rw [if_pos hx]
    subst hx
    by_cases hy : y = 0
    · subst hy
      go_enter Try.func16, Try.ntmps16
      go_wp2
      go_loop [8] (fun i => ∃ k : Nat, k ≤ 2 ∧ i = .int .i64 k) (fun i => 2 - (intOf i).toNat)
      case atStart => exact ⟨0, by omega, rfl⟩
      case round =>
        obtain ⟨k, hk, rfl⟩ := hrel
        rcases (by omega : k = 0 ∨ k = 1 ∨ k = 2) with rfl | rfl | rfl
        · go_wp2
          go_round
          case rel => exact ⟨1, by omega, rfl⟩
          case measure => simp [intOf]
        · go_wp2
          go_round
          case rel => exact ⟨2, by omega, rfl⟩
          case measure => simp [intOf]
        · go_wp2
          go_ret
          exact ⟨rfl, rfl⟩
    · have f1 : (y != 0) = true := by simpa using hy
      go_enter Try.func16, Try.ntmps16
      go_wp2
      go_loop [8] (fun i => ∃ k : Nat, k ≤ 1 ∧ i = .int .i64 k) (fun i => 2 - (intOf i).toNat)
      case atStart => exact ⟨0, by omega, rfl⟩
      case round =>
        obtain ⟨k, hk, rfl⟩ := hrel
        rcases (by omega : k = 0 ∨ k = 1) with rfl | rfl
        · go_wp2
          go_round
          case rel => exact ⟨1, by omega, rfl⟩
          case measure => simp [intOf]
        · go_wp2
          go_ret
          exact ⟨rfl, rfl⟩
  · rw [if_neg hx]
    have f1 : (x != 0) = true := by simpa using hx
    go_enter Try.func16, Try.ntmps16
    go_wp2
    go_loop [8] (fun i => i = .int .i64 0) (fun i => 2 - (intOf i).toNat)
    case atStart => rfl
    case round =>
      subst hrel
      go_wp2
      go_ret
      exact ⟨rfl, rfl⟩
theorem center_any (a : Int) (w : World) : Calls Try.prog 15 #[.int .i64 a] w fun e w' => e = .returned (.bool (cenB a)) ∧ w = w' := by
  unfold cenB
  by_cases h0 : 0 ≤ a
  · by_cases h4 : a < 4
    · have f1 : decide (0 ≤ a) = true := by simpa using h0
      have f2 : decide (a < 4) = true := by simpa using h4
      go_enter Try.func15, Try.ntmps15
      go_wp2
      go_ret
      exact ⟨ret_bool (by simp <;> omega), rfl⟩
    · have f1 : decide (0 ≤ a) = true := by simpa using h0
      have f2 : decide (a < 4) = false := by simp; omega
      go_enter Try.func15, Try.ntmps15
      go_wp2
      go_ret
      exact ⟨ret_bool (by simp <;> omega), rfl⟩
  · have f1 : decide (0 ≤ a) = false := by simp; omega
    go_enter Try.func15, Try.ntmps15
    go_wp2
    go_ret
    exact ⟨ret_bool (by simp <;> omega), rfl⟩

/-- a box of a dot -/
theorem box_below (w : World) (x : Array Value) (t : TypeId) : Below w.heap.size w (w.alloc (.cells x t)) := (Below.refl _ _).alloc (Nat.le_refl _) _
set_option maxHeartbeats 400000 in
theorem right_any (a n : Int) (w : World) : Calls Try.prog 9 #[.agg #[.int .i64 a, .int .i64 n]] w fun e w' => e = .returned (.bool (rightB a n)) ∧ Below w.heap.size w w' := by
  by_cases h0 : cenB a = true
  · by_cases h1 : 1 ≤ n
    · by_cases h2 : n ≤ 1099511627776
      · have f1 : decide (1 ≤ n) = true := by simpa using h1
        have f2 : decide (n ≤ 1099511627776) = true := by simpa using h2
        go_enter Try.func9, Try.ntmps9
        go_wp2_with (go_at_call 15; refine (center_any _ _).mono ?_; rw [h0]; rintro e w' ⟨rfl, rfl⟩)
        go_ret
        exact ⟨ret_bool (by unfold cenB at h0; unfold rightB; simp at *; omega), box_below _ _ _⟩
      · have f1 : decide (1 ≤ n) = true := by simpa using h1
        have f2 : decide (n ≤ 1099511627776) = false := by simp; omega
        go_enter Try.func9, Try.ntmps9
        go_wp2_with (go_at_call 15; refine (center_any _ _).mono ?_; rw [h0]; rintro e w' ⟨rfl, rfl⟩)
        go_ret
        exact ⟨ret_bool (by unfold rightB; simp; omega), box_below _ _ _⟩
    · have f1 : decide (1 ≤ n) = false := by simp; omega
      go_enter Try.func9, Try.ntmps9
      go_wp2_with (go_at_call 15; refine (center_any _ _).mono ?_; rw [h0]; rintro e w' ⟨rfl, rfl⟩)
      go_ret
      exact ⟨ret_bool (by unfold rightB; simp; omega), box_below _ _ _⟩
  · have h0' : cenB a = false := by simpa using h0
    go_enter Try.func9, Try.ntmps9
    go_wp2_with (go_at_call 15; refine (center_any _ _).mono ?_; rw [h0']; rintro e w' ⟨rfl, rfl⟩)
    go_ret
    exact ⟨ret_bool (by unfold cenB at h0'; unfold rightB; simp at *; omega), box_below _ _ _⟩
set_option maxHeartbeats 400000 in
theorem refright_any (a n : Int) (w : World) : Calls Try.prog 10 #[.agg #[.int .i64 a, .int .i64 n]] w fun e w' => e = .returned (.bool (rightB a n)) ∧ Below w.heap.size w w' := by
  by_cases h0 : 0 ≤ a
  · have g0 : decide (0 ≤ a) = true := by simpa using h0
    by_cases h3 : a < 4
    · have g1 : decide (a < 4) = true := by simpa using h3
      by_cases h1 : 1 ≤ n
      · have f1 : decide (1 ≤ n) = true := by simpa using h1
        by_cases h2 : n ≤ 1099511627776
        · have f2 : decide (n ≤ 1099511627776) = true := by simpa using h2
          go_enter Try.func10, Try.ntmps10
          go_wp2
          go_ret
          exact ⟨ret_bool (by unfold rightB; simp; omega), box_below _ _ _⟩
        · have f2 : decide (n ≤ 1099511627776) = false := by simp; omega
          go_enter Try.func10, Try.ntmps10
          go_wp2
          go_ret
          exact ⟨ret_bool (by unfold rightB; simp; omega), box_below _ _ _⟩
      · have f1 : decide (1 ≤ n) = false := by simp; omega
        go_enter Try.func10, Try.ntmps10
        go_wp2
        go_ret
        exact ⟨ret_bool (by unfold rightB; simp; omega), box_below _ _ _⟩
    · have g1 : decide (a < 4) = false := by simp; omega
      go_enter Try.func10, Try.ntmps10
      go_wp2
      go_ret
      exact ⟨ret_bool (by unfold rightB; simp; omega), box_below _ _ _⟩
  · have g0 : decide (0 ≤ a) = false := by simp; omega
    go_enter Try.func10, Try.ntmps10
    go_wp2
    go_ret
    exact ⟨ret_bool (by unfold rightB; simp; omega), box_below _ _ _⟩
theorem box2_below (w : World) (x y : Array Value) (t u : TypeId) : Below w.heap.size w ((w.alloc (.cells x t)).alloc (.cells y u)) := ((Below.refl _ _).alloc (Nat.le_refl _) _).alloc (by simp) _
set_option maxHeartbeats 400000 in
theorem less_any (a n b m : Int) (w : World) : Calls Try.prog 11 #[.agg #[.int .i64 a, .int .i64 n], .agg #[.int .i64 b, .int .i64 m]] w fun e w' => e = .returned (.bool (lessB a n b m)) ∧ Below w.heap.size w w' := by
  by_cases h0 : a = b
  · subst h0
    have g0 : (a != a) = false := by simp
    by_cases h1 : n < m
    · have f1 : decide (n < m) = true := by simpa using h1
      go_enter Try.func11, Try.ntmps11
      go_wp2
      go_ret
      exact ⟨ret_bool (by unfold lessB; simp; omega), box2_below _ _ _ _ _⟩
    · have f1 : decide (n < m) = false := by simp; omega
      go_enter Try.func11, Try.ntmps11
      go_wp2
      go_ret
      exact ⟨ret_bool (by unfold lessB; simp; omega), box2_below _ _ _ _ _⟩
  · have g0 : (a != b) = true := by simpa using h0
    by_cases h1 : a < b
    · have f1 : decide (a < b) = true := by simpa using h1
      go_enter Try.func11, Try.ntmps11
      go_wp2
      go_ret
      exact ⟨ret_bool (by unfold lessB; simp; omega), box2_below _ _ _ _ _⟩
    · have f1 : decide (a < b) = false := by simp; omega
      go_enter Try.func11, Try.ntmps11
      go_wp2
      go_ret
      exact ⟨ret_bool (by unfold lessB; simp; omega), box2_below _ _ _ _ _⟩
theorem cmpI_or (a n b m : Int) : (if cmp1 a b = 0 then cmp1 n m else cmp1 a b) = cmpI a n b m := by
  unfold cmp1 cmpI
  repeat' split
  all_goals omega
set_option maxHeartbeats 400000 in
theorem compare_any (a n b m : Int) (w : World) : Calls Try.prog 12 #[.agg #[.int .i64 a, .int .i64 n], .agg #[.int .i64 b, .int .i64 m]] w fun e w' => e = .returned (.int .i64 (cmpI a n b m)) ∧ Below w.heap.size w w' := by
  have HC := Lib.hid (cmpI_or a n b m)
  obtain ⟨x, hx⟩ : ∃ x, x = cmp1 a b := ⟨_, rfl⟩
  obtain ⟨y, hy⟩ : ∃ y, y = cmp1 n m := ⟨_, rfl⟩
  rw [← hx, ← hy] at HC
  have H1 : ∀ W, Hid (Calls Try.prog 17 #[.int .i64 a, .int .i64 b] W fun e w' => e = .returned (.int .i64 x) ∧ w' = W) := fun W => by rw [hx]; exact (cmp_int a b W).mono fun _ _ h => ⟨h.1, h.2.symm⟩
  have H2 : ∀ W, Hid (Calls Try.prog 18 #[.int .i64 n, .int .i64 m] W fun e w' => e = .returned (.int .i64 y) ∧ w' = W) := fun W => by rw [hy]; exact (cmp_int64 n m W).mono fun _ _ h => ⟨h.1, h.2.symm⟩
  clear hx hy
  go_enter Try.func12, Try.ntmps12
  go_wp2
  have hb := Lib.hid (box2_below w #[.int .i64 a, .int .i64 n] #[.int .i64 b, .int .i64 m] 23 23)
  obtain ⟨p, hp⟩ : ∃ p, p = w.heap.size := ⟨_, rfl⟩
  obtain ⟨W, hW⟩ : ∃ W, W = (w.alloc (.cells #[.int .i64 a, .int .i64 n] 23)).alloc (.cells #[.int .i64 b, .int .i64 m] 23) := ⟨_, rfl⟩
  have k0 : W.cell? ⟨p, 0, none⟩ = some (.int .i64 a) := by rw [hW, hp]; go_simp
  have k1 : W.cell? ⟨p, 1, none⟩ = some (.int .i64 n) := by rw [hW, hp]; go_simp
  have k2 : W.cell? ⟨p + 1, 0, none⟩ = some (.int .i64 b) := by rw [hW, hp]; go_simp
  have k3 : W.cell? ⟨p + 1, 1, none⟩ = some (.int .i64 m) := by rw [hW, hp]; go_simp
  rw [← hW] at hb ⊢
  rw [← hp]
  have HP := Lib.hid hp
  clear hW hp
  refine wp_region_still_tail 10 (by kernel_rfl) (by kernel_rfl) ?_
  simp only [List.take_succ_cons, List.take_zero, List.drop_succ_cons, List.drop_zero]
  still_step
  still_step
  still_step
  still_step
  still_call (H1 _).out
  still_step
  still_step
  still_step
  still_step
  still_call (H2 _).out
  refine wpStill_nil ?_
  change wpList _ _ _ _ _ W.drew
  have hb2 : Hid (Below w.heap.size w (W.drew.alloc (.cells #[.int .i64 x, .int .i64 y] 3))) := ((bel_drewN hb.out 1)).alloc (by have := hb.out.size; simpa using this) _
  clear H1 H2 k0 k1 k2 k3 hb
  generalize W.drew = W2 at *
  go_wp2_with (go_at_call 16; refine (or_two W2.heap.size x y _ (by go_simp) (by go_simp)).mono ?_; rw [HC.out]; rintro e w' ⟨rfl, rfl⟩)
  go_ret
  exact ⟨rfl, hb2.out⟩

/-- what 'Next' answers: the dot's center and number, the error's number -/
def nextA (a n : Int) : Int := if cenB a = true ∧ 0 ≤ n ∧ n < 1099511627776 then a else 0
def nextN (a n : Int) : Int := if cenB a = true ∧ 0 ≤ n ∧ n < 1099511627776 then n + 1 else 0
def nextE (a n : Int) : Int := if cenB a = true ∧ 0 ≤ n then (if n < 1099511627776 then 0 else 5) else 1
set_option maxHeartbeats 400000 in
theorem next_any (a n : Int) (w : World) (_ : -9223372036854775808 ≤ n) (_ : n ≤ 9223372036854775807) : Calls Try.prog 13 #[.int .i64 a, .int .i64 n] w fun e w' => e = .returned (.tuple #[.agg #[.int .i64 (nextA a n), .int .i64 (nextN a n)], .int .i64 (nextE a n)]) ∧ Below w.heap.size w w' := by
  by_cases h0 : cenB a = true
  · by_cases h1 : 0 ≤ n
    · have f1 : decide (n < 0) = false := by simp; omega
      by_cases h2 : n < 1099511627776
      · have f2 : decide (1099511627776 ≤ n) = false := by simp; omega
        have e1 : nextA a n = a := if_pos ⟨h0, h1, h2⟩
        have e2 : nextN a n = n + 1 := if_pos ⟨h0, h1, h2⟩
        have e3 : nextE a n = 0 := by unfold nextE; rw [if_pos ⟨h0, h1⟩, if_pos h2]
        rw [e1, e2, e3]
        clear e1 e2 e3
        go_enter Try.func13, Try.ntmps13
        go_wp2_with (go_at_call 15; refine (center_any _ _).mono ?_; rw [h0]; rintro e w' ⟨rfl, rfl⟩)
        refine bodyPost_ret (v := .tuple #[.agg #[.int .i64 a, .int .i64 (n + 1)], .int .i64 0]) (by simp [results, Try.results13, go_sem]) rfl ⟨rfl, ?_⟩
        exact (Below.refl _ _).alloc (Nat.le_refl _) _
      · have f2 : decide (1099511627776 ≤ n) = true := by simp; omega
        have e1 : nextA a n = 0 := if_neg (by omega)
        have e2 : nextN a n = 0 := if_neg (by omega)
        have e3 : nextE a n = 5 := by unfold nextE; rw [if_pos ⟨h0, h1⟩, if_neg h2]
        rw [e1, e2, e3]
        clear e1 e2 e3
        go_enter Try.func13, Try.ntmps13
        go_wp2_with (go_at_call 15; refine (center_any _ _).mono ?_; rw [h0]; rintro e w' ⟨rfl, rfl⟩)
        refine bodyPost_ret (v := .tuple #[.agg #[.int .i64 0, .int .i64 0], .int .i64 5]) (by simp [results, Try.results13, go_sem]) rfl ⟨rfl, ?_⟩
        exact (Below.refl _ _).alloc (Nat.le_refl _) _
    · have f1 : decide (n < 0) = true := by simp; omega
      have e1 : nextA a n = 0 := if_neg (by omega)
      have e2 : nextN a n = 0 := if_neg (by omega)
      have e3 : nextE a n = 1 := if_neg (by omega)
      rw [e1, e2, e3]
      clear e1 e2 e3
      go_enter Try.func13, Try.ntmps13
      go_wp2_with (go_at_call 15; refine (center_any _ _).mono ?_; rw [h0]; rintro e w' ⟨rfl, rfl⟩)
      refine bodyPost_ret (v := .tuple #[.agg #[.int .i64 0, .int .i64 0], .int .i64 1]) (by simp [results, Try.results13, go_sem]) rfl ⟨rfl, ?_⟩
      exact (Below.refl _ _).alloc (Nat.le_refl _) _
  · have h0' : cenB a = false := by simpa using h0
    have e1 : nextA a n = 0 := if_neg (by rw [h0']; simp)
    have e2 : nextN a n = 0 := if_neg (by rw [h0']; simp)
    have e3 : nextE a n = 1 := if_neg (by rw [h0']; simp)
    rw [e1, e2, e3]
    clear e1 e2 e3
    go_enter Try.func13, Try.ntmps13
    go_wp2_with (go_at_call 15; refine (center_any _ _).mono ?_; rw [h0']; rintro e w' ⟨rfl, rfl⟩)
    refine bodyPost_ret (v := .tuple #[.agg #[.int .i64 0, .int .i64 0], .int .i64 1]) (by simp [results, Try.results13, go_sem]) rfl ⟨rfl, ?_⟩
    exact (Below.refl _ _).alloc (Nat.le_refl _) _
set_option maxHeartbeats 400000 in
theorem awake_any (w : World) : Calls Try.prog 8 #[] w fun e w' => e = .returned (.bool true) ∧ Below w.heap.size w w' := by
  have HN := Lib.hid (next_any 1 4 w (by omega) (by omega))
  rw [show nextA 1 4 = 1 from by decide, show nextN 1 4 = 5 from by decide, show nextE 1 4 = 0 from by decide] at HN
  go_enter Try.func8, Try.ntmps8
  go_wp2_with (go_at_call 13; refine HN.out.mono ?_; rintro e w1 ⟨rfl, hb1⟩; have HB := Lib.hid hb1; clear hb1)
  go_ret
  exact ⟨rfl, HB.out.alloc HB.out.size _⟩
end Dt
end Go.Proofs.Ytoefbljmagphkaa
