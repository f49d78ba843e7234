/- Dots: what is right; the program's and the document's. -/
import Derived.Test.YtbfcbfadfnaebaaLaw
import Derived.WalkKit
import Derived.StillTailTactics
import Derived.Deep.QuietTactic
import Derived.BigQuiet
import Derived.Deep.RegionHeld3
import Derived.IntWalk
namespace Go.Proofs.Ytbfcbfadfnaebaa
open Go.ChangeShapes Go.WideShapes Go.ChangeAt Go.RowKit
namespace Dt
def cenB (a : Int) : Bool := decide (0 ≤ a ∧ a < 4)
def rightB (a n : Int) : Bool := decide (0 ≤ a ∧ a < 4 ∧ 1 ≤ n ∧ n ≤ 1099511627776)
def cmp1 (a b : Int) : Int := if a < b then -1 else if b < a then 1 else 0
def cmpI (a n b m : Int) : Int := if a < b ∨ (a = b ∧ n < m) then -1 else if a = b ∧ n = m then 0 else 1
def lessB (a n b m : Int) : Bool := decide (a < b ∨ (a = b ∧ n < m))
theorem cmp1_lt {a b : Int} (h : a < b) : cmp1 a b = -1 := by unfold cmp1; rw [if_pos h]
theorem cmp1_gt {a b : Int} (h : b < a) : cmp1 a b = 1 := by unfold cmp1; rw [if_neg (by omega), if_pos h]
theorem cmp1_eq (a : Int) : cmp1 a a = 0 := by unfold cmp1; rw [if_neg (by omega), if_neg (by omega)]
theorem cmp1_or (a b : Int) : (a < b ∧ cmp1 a b = -1) ∨ (a = b ∧ cmp1 a b = 0) ∨ (b < a ∧ cmp1 a b = 1) := by
  rcases Int.lt_trichotomy a b with h | rfl | h
  · exact .inl ⟨h, cmp1_lt h⟩
  · exact .inr (.inl ⟨rfl, cmp1_eq _⟩)
  · exact .inr (.inr ⟨h, cmp1_gt h⟩)
theorem ret_bool {a b : Bool} (h : a = b) : Ending.returned (.bool a) = .returned (.bool b) := by rw [h]
theorem ret_int {a b : Int} (h : a = b) : Ending.returned (.int .i64 a) = .returned (.int .i64 b) := by rw [h]
theorem center_any (a : Int) (w : World) : Calls Try.prog 82 #[.int .i64 a] w fun e w' => e = .returned (.bool (cenB a)) ∧ w = w' := by
  unfold cenB
  by_cases h0 : 0 ≤ a
  · by_cases h4 : a < 4
    · have f1 : decide (0 ≤ a) = true := by simpa using h0
      have f2 : decide (a < 4) = true := by simpa using h4
      go_enter Try.func82, Try.ntmps82
      go_wp2
      go_ret
      exact ⟨ret_bool (by simp <;> omega), rfl⟩
    · have f1 : decide (0 ≤ a) = true := by simpa using h0
      have f2 : decide (a < 4) = false := by simp; omega
      go_enter Try.func82, Try.ntmps82
      go_wp2
      go_ret
      exact ⟨ret_bool (by simp <;> omega), rfl⟩
  · have f1 : decide (0 ≤ a) = false := by simp; omega
    go_enter Try.func82, Try.ntmps82
    go_wp2
    go_ret
    exact ⟨ret_bool (by simp <;> omega), rfl⟩

/-- a box of a dot -/
theorem box_below (w : World) (x : Array Value) (t : TypeId) : Below w.heap.size w (w.alloc (.cells x t)) := (Below.refl _ _).alloc (Nat.le_refl _) _
set_option maxHeartbeats 400000 in
theorem right_any (a n : Int) (w : World) : Calls Try.prog 64 #[.agg #[.int .i64 a, .int .i64 n]] w fun e w' => e = .returned (.bool (rightB a n)) ∧ Below w.heap.size w w' := by
  by_cases h0 : cenB a = true
  · by_cases h1 : 1 ≤ n
    · by_cases h2 : n ≤ 1099511627776
      · have f1 : decide (1 ≤ n) = true := by simpa using h1
        have f2 : decide (n ≤ 1099511627776) = true := by simpa using h2
        go_enter Try.func64, Try.ntmps64
        go_wp2_with (go_at_call 82; refine (center_any _ _).mono ?_; rw [h0]; rintro e w' ⟨rfl, rfl⟩)
        go_ret
        exact ⟨ret_bool (by unfold cenB at h0; unfold rightB; simp at *; omega), box_below _ _ _⟩
      · have f1 : decide (1 ≤ n) = true := by simpa using h1
        have f2 : decide (n ≤ 1099511627776) = false := by simp; omega
        go_enter Try.func64, Try.ntmps64
        go_wp2_with (go_at_call 82; refine (center_any _ _).mono ?_; rw [h0]; rintro e w' ⟨rfl, rfl⟩)
        go_ret
        exact ⟨ret_bool (by unfold rightB; simp; omega), box_below _ _ _⟩
    · have f1 : decide (1 ≤ n) = false := by simp; omega
      go_enter Try.func64, Try.ntmps64
      go_wp2_with (go_at_call 82; refine (center_any _ _).mono ?_; rw [h0]; rintro e w' ⟨rfl, rfl⟩)
      go_ret
      exact ⟨ret_bool (by unfold rightB; simp; omega), box_below _ _ _⟩
  · have h0' : cenB a = false := by simpa using h0
    go_enter Try.func64, Try.ntmps64
    go_wp2_with (go_at_call 82; refine (center_any _ _).mono ?_; rw [h0']; rintro e w' ⟨rfl, rfl⟩)
    go_ret
    exact ⟨ret_bool (by unfold cenB at h0'; unfold rightB; simp at *; omega), box_below _ _ _⟩
set_option maxHeartbeats 400000 in
theorem refright_any (a n : Int) (w : World) : Calls Try.prog 78 #[.agg #[.int .i64 a, .int .i64 n]] w fun e w' => e = .returned (.bool (rightB a n)) ∧ Below w.heap.size w w' := by
  by_cases h0 : 0 ≤ a
  · have g0 : decide (0 ≤ a) = true := by simpa using h0
    by_cases h3 : a < 4
    · have g1 : decide (a < 4) = true := by simpa using h3
      by_cases h1 : 1 ≤ n
      · have f1 : decide (1 ≤ n) = true := by simpa using h1
        by_cases h2 : n ≤ 1099511627776
        · have f2 : decide (n ≤ 1099511627776) = true := by simpa using h2
          go_enter Try.func78, Try.ntmps78
          go_wp2
          go_ret
          exact ⟨ret_bool (by unfold rightB; simp; omega), box_below _ _ _⟩
        · have f2 : decide (n ≤ 1099511627776) = false := by simp; omega
          go_enter Try.func78, Try.ntmps78
          go_wp2
          go_ret
          exact ⟨ret_bool (by unfold rightB; simp; omega), box_below _ _ _⟩
      · have f1 : decide (1 ≤ n) = false := by simp; omega
        go_enter Try.func78, Try.ntmps78
        go_wp2
        go_ret
        exact ⟨ret_bool (by unfold rightB; simp; omega), box_below _ _ _⟩
    · have g1 : decide (a < 4) = false := by simp; omega
      go_enter Try.func78, Try.ntmps78
      go_wp2
      go_ret
      exact ⟨ret_bool (by unfold rightB; simp; omega), box_below _ _ _⟩
  · have g0 : decide (0 ≤ a) = false := by simp; omega
    go_enter Try.func78, Try.ntmps78
    go_wp2
    go_ret
    exact ⟨ret_bool (by unfold rightB; simp; omega), box_below _ _ _⟩
end Dt
end Go.Proofs.Ytbfcbfadfnaebaa
