/- Layer 18: acts, few of them. -/
import Derived.Test.YtcffbgehopjgpaaTapeActs
namespace Go.Proofs.Ytcffbgehopjgpaa
open Go.ChangeShapes Go.WideShapes Go.ChangeAt Go.RowKit
namespace Jrn
open By Tpe
set_option maxRecDepth 100000
set_option maxHeartbeats 1000000
def FewIs (l : List Ac) (n : Nat) (w : World) (e : Ending) (w' : World) : Prop := ∃ b : Bool, e = .returned (.bool b) ∧ Hid (b = true → n ≤ 31 ∧ ∀ x ∈ l, x.n ≤ 300) ∧ w = w'
theorem few_any (l : List Ac) (n : Nat) (A : Option Addr) (c B : Nat) (w : World) (hl : AcRd w B A n c l) (hn : n ≤ 9223372036854775807) :
    Calls Try.prog 8 #[.slice A n c] w (FewIs l n w) := by
  have HA := Lib.hid hl
  clear hl
  go_enter Try.func8, Try.ntmps8
  go_wp2_with fail
  go_loop [6] (fun q => ∃ k : Nat, k ≤ n ∧ q = .int .i64 k ∧ Hid (∀ (j : Nat) (x : Ac), j < k → l[j]? = some x → j ≤ 30 ∧ x.n ≤ 300)) (fun q => n - (intOf q).toNat)
  case atStart => exact ⟨0, by omega, rfl, fun j _ h => absurd h (by omega)⟩
  case round =>
    obtain ⟨k, hk, rfl, HI⟩ := hrel
    by_cases hlt : k < n
    · have hki : (k : Int) < (n : Int) := by omega
      by_cases h30 : 30 < k
      · have f1 : decide ((30 : Int) < (k : Int)) = true := decide_eq_true (by omega)
        go_wp2_with fail
        go_ret
        exact ⟨false, rfl, (fun h => by cases h), rfl⟩
      have f1 : decide ((30 : Int) < (k : Int)) = false := decide_eq_false (by omega)
      obtain ⟨b, o, x, rfl, _, hx, _, _, a1, _, _⟩ := HA.out.at_ hlt
      by_cases h300 : 300 < x.n
      · have f2 : decide ((300 : Int) < (x.n : Int)) = true := decide_eq_true (by omega)
        clear hx
        go_wp2_with fail
        go_ret
        exact ⟨false, rfl, (fun h => by cases h), rfl⟩
      have f2 : decide ((300 : Int) < (x.n : Int)) = false := decide_eq_false (by omega)
      have HX : Hid (∀ (j : Nat) (y : Ac), j < k + 1 → l[j]? = some y → j ≤ 30 ∧ y.n ≤ 300) := fun j y hj hy => by
        by_cases e : j = k
        · subst e
          rw [hx] at hy
          injection hy with hy
          subst hy
          exact ⟨by omega, by omega⟩
        · exact HI.out j y (by omega) hy
      clear hx h30 h300
      go_wp2_with fail
      go_round
      case rel => exact ⟨k + 1, by omega, by go_num, HX.out⟩
      case measure => simp [intOf]; omega
    · have hki : ¬ ((k : Int) < (n : Int)) := by omega
      obtain rfl : k = n := by omega
      have HX : Hid (true = true → k ≤ 31 ∧ ∀ x ∈ l, x.n ≤ 300) := fun _ => by
        have hl := HA.out.len
        refine ⟨?_, fun x hx => ?_⟩
        · by_cases h : k ≤ 31
          · exact h
          · have hj : 31 < l.length := by omega
            have := (HI.out 31 l[31] (by omega) (List.getElem?_eq_getElem hj)).1
            omega
        · obtain ⟨j, hj, rfl⟩ := List.mem_iff_getElem.1 hx
          exact (HI.out j _ (by omega) (List.getElem?_eq_getElem hj)).2
      go_wp2_with fail
      go_ret
      exact ⟨true, rfl, fun _ => HX.out trivial, rfl⟩
end Jrn
end Go.Proofs.Ytcffbgehopjgpaa
