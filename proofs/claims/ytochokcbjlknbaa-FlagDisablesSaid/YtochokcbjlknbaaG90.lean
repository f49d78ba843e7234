/- What a change of a tree makes known: mathematics for layers 10 to 14. Nothing here speaks of a program. -/
import Derived.Test.YtochokcbjlknbaaG00
import Derived.Test.YtochokcbjlknbaaTreeDots
import Derived.Test.YtochokcbjlknbaaG20
import Derived.Test.YtochokcbjlknbaaCauRight
namespace Go.Proofs.Ytochokcbjlknbaa
namespace Cs
open Tr Cx Sp Rw Classical
/-- the context of one dot -/
def oneC (a n : Int) : List S3 := [(a, n, n)]
theorem part_oneC (a n d : Int) : Cx.part (oneC a n) d = if a = d then [(n, n)] else [] := by
  unfold oneC
  rw [part_cons, part_nil]
theorem has_oneC (a n d m : Int) : hasC (oneC a n) d m = decide (d = a ∧ m = n) := by
  unfold hasC
  rw [part_oneC]
  by_cases h : a = d
  · rw [if_pos h, has_cons, has_nil, Bool.or_false]
    by_cases h2 : m = n
    · rw [decide_eq_true (by omega), decide_eq_true ⟨h.symm, h2⟩]
    · rw [decide_eq_false (by omega), decide_eq_false fun h3 => h2 h3.2]
  · rw [if_neg h, has_nil, decide_eq_false fun h3 => h h3.1.symm]
theorem right_oneC {a n : Int} (h : Dt.rightB a n = true) : RightC (oneC a n) := by
  obtain ⟨hc, h1, h2⟩ := Cx.good_num (x := (a, n)) h
  refine ⟨⟨hc.1, hc.2, trivial⟩, fun d _ => ?_⟩
  rw [part_oneC]
  split
  · exact ⟨h1, Int.le_refl _, h2, trivial⟩
  · trivial
theorem of_oneC {a n : Int} (h : Dt.rightB a n = true) : OfC [(a, n)] (oneC a n) := ⟨right_oneC h, fun d m _ => by
  rw [has_oneC, decide_eq_true_iff, List.mem_singleton]
  constructor
  · rintro ⟨rfl, rfl⟩; rfl
  · intro h; injection h with h1 h2; exact ⟨h1, h2⟩⟩
/-- may a change of t be named by a dot? -/
noncomputable def checkB (t : T) (a n : Int) : Bool := Tr.rightB 5 t && Dt.rightB a n && !decide ((a, n) ∈ dl t)
theorem check_iff {t : T} {a n : Int} : checkB t a n = true ↔ RightT 5 t ∧ Dt.rightB a n = true ∧ (a, n) ∉ dl t := by
  unfold checkB
  rw [Bool.and_eq_true, Bool.and_eq_true, Tr.rightB_iff, Bool.not_eq_true', decide_eq_false_iff_not, and_assoc]
theorem has_dl {t : T} {u : List S3} (ht : RightT 5 t) (hu : OfC (dl t) u) (a n : Int) : hasC u a n = decide ((a, n) ∈ dl t) := by
  by_cases hd : Cen a
  · by_cases h : (a, n) ∈ dl t
    · rw [(hu.has a n hd).2 h, decide_eq_true h]
    · rw [decide_eq_false h]
      cases h2 : hasC u a n with
      | false => rfl
      | true => exact absurd ((hu.has a n hd).1 h2) h
  · rw [not_cen hu.right hd, decide_eq_false fun h => hd (good_num (x := (a, n)) (good_dl ht _ h)).1]
theorem right_oneT {d : Nat} {e : E} (he : RightE e) : RightT (d + 1) (oneT e) := ⟨fun x hx => by
  rw [List.mem_singleton.1 hx]; exact he, by simp, by simp, by simp⟩
theorem nodes_one (e : E) : nodes (oneT e) = 1 := by unfold oneT; rw [nodes_mk]; rfl
end Cs
end Go.Proofs.Ytochokcbjlknbaa
