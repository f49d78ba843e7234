/- What a change of a tree makes known: mathematics for layers 10 to 14. Nothing here speaks of a program. -/
import Derived.Test.YtochokcbjlknbaaGreatG00
import Derived.Test.YtochokcbjlknbaaGreatTreeDots
import Derived.Test.YtochokcbjlknbaaGreatG20
import Derived.Test.YtochokcbjlknbaaGreatCauRight
namespace Go.Proofs.YtochokcbjlknbaaGreat
namespace Cs
open Tr Cx Sp Rw Classical
theorem cen_of {a n : Int} (h : Dt.rightB a n = true) : Cen a := (good_num (x := (a, n)) h).1
/-- the context of one dot -/
def oneC (a n : Int) : List S3 := [(a, n, n)]
theorem part_oneC (a n d : Int) : Cx.part (oneC a n) d = if a = d then [(n, n)] else [] := by
  unfold oneC
  rw [part_cons, part_nil]
theorem has_oneC (a n d m : Int) : hasC (oneC a n) d m = decide (d = a ∧ m = n) := by
  unfold hasC
  rw [part_oneC]
  by_cases h : a = d
  · rw [if_pos h, has_cons, has_nil, Bool.or_false]
    by_cases h2 : m = n
    · rw [decide_eq_true (by omega), decide_eq_true ⟨h.symm, h2⟩]
    · rw [decide_eq_false (by omega), decide_eq_false fun h3 => h2 h3.2]
  · rw [if_neg h, has_nil, decide_eq_false fun h3 => h h3.1.symm]
theorem right_oneC {a n : Int} (h : Dt.rightB a n = true) : RightC (oneC a n) := by
  obtain ⟨hc, h1, h2⟩ := Cx.good_num (x := (a, n)) h
  refine ⟨⟨hc.1, hc.2, trivial⟩, fun d _ => ?_⟩
  rw [part_oneC]
  split
  · exact ⟨h1, Int.le_refl _, h2, trivial⟩
  · trivial
theorem of_oneC {a n : Int} (h : Dt.rightB a n = true) : OfC [(a, n)] (oneC a n) := ⟨right_oneC h, fun d m _ => by
  rw [has_oneC, decide_eq_true_iff, List.mem_singleton]
  constructor
  · rintro ⟨rfl, rfl⟩; rfl
  · intro h; injection h with h1 h2; exact ⟨h1, h2⟩⟩
/-- may a change of t be named by a dot? -/
noncomputable def checkB (t : T) (a n : Int) : Bool := Tr.rightB 5 t && Dt.rightB a n && !decide ((a, n) ∈ dl t)
theorem check_iff {t : T} {a n : Int} : checkB t a n = true ↔ RightT 5 t ∧ Dt.rightB a n = true ∧ (a, n) ∉ dl t := by
  unfold checkB
  rw [Bool.and_eq_true, Bool.and_eq_true, Tr.rightB_iff, Bool.not_eq_true', decide_eq_false_iff_not, and_assoc]
theorem has_dl {t : T} {u : List S3} (ht : RightT 5 t) (hu : OfC (dl t) u) (a n : Int) : hasC u a n = decide ((a, n) ∈ dl t) := by
  by_cases hd : Cen a
  · by_cases h : (a, n) ∈ dl t
    · rw [(hu.has a n hd).2 h, decide_eq_true h]
    · rw [decide_eq_false h]
      cases h2 : hasC u a n with
      | false => rfl
      | true => exact absurd ((hu.has a n hd).1 h2) h
  · rw [not_cen hu.right hd, decide_eq_false fun h => hd (good_num (x := (a, n)) (good_dl ht _ h)).1]
theorem known_right {t : T} {u : List S3} (ht : RightT 5 t) (hu : OfC (dl t) u) : RK (t, u) := ⟨ht, hu.right, fun x hx => by
  show hasC u x.2.a x.2.n = true
  rw [has_dl ht hu]
  exact decide_eq_true (List.mem_map.2 ⟨x, hx, rfl⟩)⟩
theorem not_has {t : T} {u : List S3} {a n : Int} (hc : checkB t a n = true) (hu : OfC (dl t) u) : hasC u a n = false := by
  obtain ⟨ht, _, hn⟩ := check_iff.1 hc
  rw [has_dl ht hu, decide_eq_false hn]
/-- what is seen, and one dot more -/
theorem uni_has {u v : List S3} {a n : Int} (hu : RightC u) (hd : Dt.rightB a n = true) (hv : PutC uniF u (oneC a n) v) (d m : Int) : hasC v d m = (hasC u d m || decide (d = a ∧ m = n)) := by
  by_cases h : Cen d
  · rw [hv.has d m h, has_oneC]; rfl
  · rw [not_cen hv.right h, not_cen hu h, decide_eq_false fun h2 => h (by rw [h2.1]; exact cen_of hd)]; rfl
theorem uni_self {u v : List S3} {a n : Int} (hu : RightC u) (hd : Dt.rightB a n = true) (hv : PutC uniF u (oneC a n) v) : hasC v a n = true := by
  rw [uni_has hu hd hv, decide_eq_true ⟨rfl, rfl⟩, Bool.or_true]
theorem uni_sup {u v : List S3} {a n : Int} (hu : RightC u) (hd : Dt.rightB a n = true) (hv : PutC uniF u (oneC a n) v) (d m : Int) (h : hasC u d m = true) : hasC v d m = true := by
  rw [uni_has hu hd hv, h]; rfl
theorem right_oneT {d : Nat} {e : E} (he : RightE e) : RightT (d + 1) (oneT e) := ⟨fun x hx => by
  rw [List.mem_singleton.1 hx]; exact he, by simp, by simp, by simp⟩
theorem nodes_one (e : E) : nodes (oneT e) = 1 := by unfold oneT; rw [nodes_mk]; rfl
theorem RK.ent_of {k : K} (h : RK k) (p : List ByteArray) (q : Int × Int) (o : Option (Option E)) (hs : Cs.st k p q = o) : entAt k.1 p q = o.join := by
  rw [← hs]
  cases h1 : hasC k.2 q.1 q.2 with
  | true => rw [st_some h1]; rfl
  | false => rw [st_none h1, h.unknown h1]; rfl
/-- pointwise: what has seen all of the other one, and has there no entry of it, stays -/
theorem st_over {a z : K} {p : List ByteArray} {q : Int × Int} (hsup : hasC a.2 q.1 q.2 = true → hasC z.2 q.1 q.2 = true) (hno : hasC a.2 q.1 q.2 = true → entAt z.1 p q = none) : mx (Cs.st a p q) (Cs.st z p q) = Cs.st z p q := by
  cases h1 : hasC a.2 q.1 q.2 with
  | false => rw [st_none h1, mx_none]
  | true =>
    rw [st_some h1, st_some (hsup h1), hno h1]
    cases entAt a.1 p q <;> rfl
/-- an entry, in place of all there was, beside nothing in place of all there was -/
theorem flag_wins {t : T} {u x y : List S3} {e : E} {b m : Int} {r : K} (ht : RightT 5 t) (hu : OfC (dl t) u) (he : RightE e) (hd : Dt.rightB b m = true) (hc : (e.a, e.n) ∉ dl t) (hne : ¬ (e.a = b ∧ e.n = m)) (hx : PutC uniF u (oneC e.a e.n) x) (hy : PutC uniF u (oneC b m) y) (hr : RK r) (h : ∀ p q, Cs.st r p q = mx (Cs.st (t, u) p q) (mx (Cs.st (oneT e, x) p q) (Cs.st (none_, y) p q))) : r.1 = oneT e := by
  have hk := known_right ht hu
  have hsx := uni_has hu.right he.1 hx
  have hsy := uni_has hu.right hd hy
  have hue : hasC u e.a e.n = false := by rw [has_dl ht hu, decide_eq_false hc]
  refine tree_ext (d := 5) (.inl hr.tree) (.inl (right_oneT he)) fun p q => ?_
  rw [hr.ent_of p q _ (h p q), ← mx_assoc, st_over (a := (t, u)) (z := (oneT e, x)) (fun h1 => uni_sup hu.right he.1 hx _ _ h1) (fun h1 => ?_)]
  · by_cases hq : q = (e.a, e.n)
    · subst hq
      have h1 : hasC x e.a e.n = true := uni_self hu.right he.1 hx
      have h2 : hasC y e.a e.n = false := by rw [hsy, hue, decide_eq_false hne]; rfl
      rw [st_none (k := (none_, y)) h2, st_some (k := (oneT e, x)) h1, none_mx]
      rfl
    · have h3 : entAt (oneT e) p q = none := by rw [entAt_one, if_neg fun h4 => hq h4.2.symm]
      rw [h3]
      have h4 : Cs.st (oneT e, x) p q = none ∨ Cs.st (oneT e, x) p q = some none := by
        cases h5 : hasC x q.1 q.2 with
        | false => exact .inl (st_none h5)
        | true => exact .inr (by rw [st_some (k := (oneT e, x)) h5]; exact congrArg some h3)
      have h6 : Cs.st (none_, y) p q = none ∨ Cs.st (none_, y) p q = some none := by
        cases h5 : hasC y q.1 q.2 with
        | false => exact .inl (st_none h5)
        | true => exact .inr (by rw [st_some (k := (none_, y)) h5]; exact congrArg some (entAt_none p q))
      rcases h4 with h4 | h4 <;> rcases h6 with h6 | h6 <;> rw [h4, h6] <;> rfl
  · show entAt (oneT e) p q = none
    rw [entAt_one, if_neg]
    rintro ⟨_, h5⟩
    subst h5
    have h6 : hasC u e.a e.n = true := h1
    rw [hue] at h6
    cases h6
end Cs
end Go.Proofs.YtochokcbjlknbaaGreat
