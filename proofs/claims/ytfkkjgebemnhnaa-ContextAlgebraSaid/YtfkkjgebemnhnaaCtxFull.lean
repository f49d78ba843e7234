/- Solid sets of dots and their vectors, as mathematics. Nothing here speaks of a program. -/
import Derived.Test.YtfkkjgebemnhnaaCtxBits
import Derived.Test.YtfkkjgebemnhnaaSpan2
namespace Go.Proofs.Ytfkkjgebemnhnaa
namespace Cx
open Sp
/-- of a center all numbers up to v -/
def upTo (v : Int) : List (Int × Int) := if 0 < v then [(1, v)] else []
/-- may a number of a vector be? -/
def MayB (v : Int) : Prop := 0 ≤ v ∧ v ≤ 1099511627776
theorem upTo_right {v : Int} (h : MayB v) : RightF 1 (upTo v) := by
  unfold upTo
  split
  · exact ⟨Int.le_refl _, by show (1 : Int) ≤ v; omega, h.2, trivial⟩
  · trivial
theorem upTo_has (v n : Int) : hasB (upTo v) n = decide (1 ≤ n ∧ n ≤ v) := by
  unfold upTo
  split
  · rw [has_cons, has_nil, Bool.or_false]
  · rw [has_nil]
    symm
    exact decide_eq_false (by omega)
theorem upTo_front {v : Int} (h : MayB v) : frontI (upTo v) = v := by
  unfold upTo
  split
  · simp [frontI]
  · have := h.1; simp [frontI]; omega
theorem front_may {l : List (Int × Int)} (h : RightF 1 l) : MayB (frontI l) := by
  cases l with
  | nil => exact ⟨Int.le_refl _, by decide⟩
  | cons r l =>
    obtain ⟨h1, h2, h3, _⟩ := h
    by_cases hr : r.1 = 1
    · rw [show frontI (r :: l) = r.2 by simp [frontI, hr]]
      exact ⟨by omega, h3⟩
    · rw [show frontI (r :: l) = 0 by simp [frontI, hr]]
      exact ⟨Int.le_refl _, by decide⟩
/-- two united -/
theorem upTo_union {v w : Int} {l : List (Int × Int)} (hv : MayB v) (hw : MayB w) (hl : RightF 1 l) (h : ∀ n, hasB l n = (hasB (upTo v) n || hasB (upTo w) n)) : l = upTo (max v w) := by
  refine ext hl (upTo_right (v := max v w) ⟨by have := hv.1; have := hw.1; omega, by have := hv.2; have := hw.2; omega⟩) fun n => ?_
  rw [h, upTo_has, upTo_has, upTo_has, ← Bool.decide_or]
  congr 1
  exact propext ⟨fun h => by omega, fun h => by omega⟩
/-- the one within the other -/
theorem upTo_leq {v w : Int} (_ : MayB v) : (∀ n, hasB (upTo v) n = true → hasB (upTo w) n = true) ↔ (v ≤ w ∨ v ≤ 0) := by
  constructor
  · intro h
    by_cases h0 : 0 < v
    · have := h v (by rw [upTo_has]; exact decide_eq_true ⟨by omega, Int.le_refl _⟩)
      rw [upTo_has] at this
      have := of_decide_eq_true this
      exact .inl this.2
    · exact .inr (by omega)
  · intro h n hn
    rw [upTo_has] at hn ⊢
    have := of_decide_eq_true hn
    exact decide_eq_true (by omega)
/-- the vector's solid set of dots -/
def full (v : Int → Int) : List S3 := glue fun d => upTo (v d)
theorem full_right {v : Int → Int} (h : ∀ d, Cen d → MayB (v d)) : RightC (full v) := right_glue fun d hd => upTo_right (h d hd)
theorem full_part (v : Int → Int) {d : Int} (h : Cen d) : part (full v) d = upTo (v d) := part_glue _ h
/-- of each center the front -/
def vec (c : List S3) (d : Int) : Int := frontI (part c d)
theorem full_vec {v : Int → Int} (h : ∀ d, Cen d → MayB (v d)) {d : Int} (hd : Cen d) : vec (full v) d = v d := by
  unfold vec
  rw [full_part v hd, upTo_front (h d hd)]
/-- of each center one span at most, from 1 on -/
def SolidC (c : List S3) : Prop := ∀ d, Cen d → part c d = upTo (vec c d)
theorem solid_full {c : List S3} (h : RightC c) : SolidC c ↔ c = full (vec c) :=
  ⟨fun hs => ext_part h.rise (rise_glue _) fun d hd => by rw [hs d hd, full_part _ hd], fun he d hd => by rw [he, full_part _ hd, ← he]⟩
/-- how many dots there are -/
def countC (c : List S3) : Int := countI (part c 0) + countI (part c 1) + countI (part c 2) + countI (part c 3)
end Cx
end Go.Proofs.Ytfkkjgebemnhnaa
