/- What is right, told one by one. Nothing here speaks of a program. -/
import Derived.Test.YtbfcbfadfnaebaaTreeBits
namespace Go.Proofs.Ytbfcbfadfnaebaa
namespace Tr
open Classical
/-- neighbours rise, so all do -/
theorem rise_of {α : Type} {lt : α → α → Prop} (tr : ∀ a b c, lt a b → lt b c → lt a c) {l : List α} (h : ∀ (i : Nat) (_ : 0 < i) (hi : i < l.length), lt (l[i - 1]'(by omega)) l[i]) : l.Pairwise lt := by
  rw [List.pairwise_iff_getElem]
  intro i j hi hj hij
  induction j with
  | zero => omega
  | succ j ih =>
    have h1 := h (j + 1) (by omega) hj
    have e : j + 1 - 1 = j := by omega
    simp only [e] at h1
    rcases Nat.lt_or_ge i j with hlt | hge
    · exact tr _ _ _ (ih (by omega) hlt) h1
    · have : i = j := by omega
      subst this
      exact h1
/-- the first k entries are right and rise -/
def GoodE (es : List E) (k : Nat) : Prop := ∀ (i : Nat) (h : i < es.length), i < k → RightE es[i] ∧ (0 < i → ltE (es[i - 1]'(by omega)) es[i])
/-- the i-th kid is right, and behind its forerunner -/
def OkK (d : Nat) (ks : List (ByteArray × T)) (i : Nat) (h : i < ks.length) : Prop := KeyOk (ks[i]).1 ∧ (0 < i → ltS (ks[i - 1]'(by omega)).1 (ks[i]).1) ∧ ¬ ((ks[i]).2.es = [] ∧ (ks[i]).2.ks = []) ∧ RightT d (ks[i]).2
def GoodK (d : Nat) (ks : List (ByteArray × T)) (k : Nat) : Prop := ∀ (i : Nat) (h : i < ks.length), i < k → OkK d ks i h
theorem GoodE.zero (es : List E) : GoodE es 0 := fun _ _ h => absurd h (Nat.not_lt_zero _)
theorem GoodK.zero (d : Nat) (ks : List (ByteArray × T)) : GoodK d ks 0 := fun _ _ h => absurd h (Nat.not_lt_zero _)
theorem GoodE.succ {es : List E} {k : Nat} (h : GoodE es k) (hk : k < es.length) (h1 : RightE es[k]) (h2 : 0 < k → ltE (es[k - 1]'(by omega)) es[k]) : GoodE es (k + 1) := fun i hi hlt => by
  by_cases he : i = k
  · subst he; exact ⟨h1, h2⟩
  · exact h i hi (by omega)
theorem GoodK.succ {d : Nat} {ks : List (ByteArray × T)} {k : Nat} (h : GoodK d ks k) (hk : k < ks.length) (h1 : OkK d ks k hk) : GoodK d ks (k + 1) := fun i hi hlt => by
  by_cases he : i = k
  · subst he; exact h1
  · exact h i hi (by omega)
theorem right_iff (d : Nat) (es : List E) (ks : List (ByteArray × T)) : RightT (d + 1) (.mk es ks) ↔ GoodE es es.length ∧ GoodK d ks ks.length := by
  constructor
  · rintro ⟨h1, h2, h3, h4⟩
    refine ⟨fun i hi _ => ⟨h1 _ (List.getElem_mem hi), fun h0 => List.pairwise_iff_getElem.1 h2 (i - 1) i (by omega) hi (by omega)⟩, fun i hi _ => ?_⟩
    obtain ⟨k1, k2, k3⟩ := h4 _ (List.getElem_mem hi)
    exact ⟨k1, fun h0 => List.pairwise_iff_getElem.1 h3 (i - 1) i (by omega) hi (by omega), k2, k3⟩
  · rintro ⟨h1, h2⟩
    refine ⟨fun e he => ?_, rise_of (lt := ltE) (fun _ _ _ => ltE_tr) fun i h0 hi => (h1 i hi hi).2 h0, ?_, fun k hk => ?_⟩
    · obtain ⟨i, hi, rfl⟩ := List.getElem_of_mem he
      exact (h1 i hi hi).1
    · refine rise_of (lt := fun x y : ByteArray × T => ltS x.1 y.1) (fun _ _ _ => tot_str.tr _ _ _) fun i h0 hi => (h2 i hi hi).2.1 h0
    · obtain ⟨i, hi, rfl⟩ := List.getElem_of_mem hk
      obtain ⟨k1, _, k2, k3⟩ := h2 i hi hi
      exact ⟨k1, k2, k3⟩
/-- is it right, and at most so deep? -/
noncomputable def rightB (d : Nat) (t : T) : Bool := decide (RightT d t)
theorem rightB_zero (t : T) : rightB 0 t = false := decide_eq_false (by intro h; cases t; exact h)
theorem rightB_yes {d : Nat} {es : List E} {ks : List (ByteArray × T)} (h1 : GoodE es es.length) (h2 : GoodK d ks ks.length) : rightB (d + 1) (.mk es ks) = true := decide_eq_true ((right_iff d es ks).2 ⟨h1, h2⟩)
theorem rightB_noE {d : Nat} {es : List E} {ks : List (ByteArray × T)} (k : Nat) (hk : k < es.length) (h : ¬ (RightE es[k] ∧ (0 < k → ltE (es[k - 1]'(by omega)) es[k]))) : rightB (d + 1) (.mk es ks) = false :=
  decide_eq_false fun hr => h (((right_iff d es ks).1 hr).1 k hk hk)
theorem rightB_noK {d : Nat} {es : List E} {ks : List (ByteArray × T)} (k : Nat) (hk : k < ks.length) (h : ¬ OkK d ks k hk) : rightB (d + 1) (.mk es ks) = false :=
  decide_eq_false fun hr => h (((right_iff d es ks).1 hr).2 k hk hk)
theorem rightB_iff {d : Nat} {t : T} : rightB d t = true ↔ RightT d t := decide_eq_true_iff
end Tr
end Go.Proofs.Ytbfcbfadfnaebaa
