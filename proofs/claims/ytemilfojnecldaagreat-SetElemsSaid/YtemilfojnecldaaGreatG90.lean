/- Texts of the lower layers, and of layer 9, put together. -/
import Derived.Test.YtemilfojnecldaaGreatG00
import Derived.Test.YtemilfojnecldaaGreatTreeDots
import Derived.Test.YtemilfojnecldaaGreatG20
import Derived.Test.YtemilfojnecldaaGreatCauRight
namespace Go.Proofs.YtemilfojnecldaaGreat
namespace Cs
open Tr Cx Sp Rw Classical
theorem cen_of {a n : Int} (h : Dt.rightB a n = true) : Cen a := (good_num (x := (a, n)) h).1
/-- the context of one dot -/
def oneC (a n : Int) : List S3 := [(a, n, n)]
theorem part_oneC (a n d : Int) : Cx.part (oneC a n) d = if a = d then [(n, n)] else [] := by
  unfold oneC
  rw [part_cons, part_nil]
theorem has_oneC (a n d m : Int) : hasC (oneC a n) d m = decide (d = a ∧ m = n) := by
  unfold hasC
  rw [part_oneC]
  by_cases h : a = d
  · rw [if_pos h, has_cons, has_nil, Bool.or_false]
    by_cases h2 : m = n
    · rw [decide_eq_true (by omega), decide_eq_true ⟨h.symm, h2⟩]
    · rw [decide_eq_false (by omega), decide_eq_false fun h3 => h2 h3.2]
  · rw [if_neg h, has_nil, decide_eq_false fun h3 => h h3.1.symm]
theorem right_oneC {a n : Int} (h : Dt.rightB a n = true) : RightC (oneC a n) := by
  obtain ⟨hc, h1, h2⟩ := Cx.good_num (x := (a, n)) h
  refine ⟨⟨hc.1, hc.2, trivial⟩, fun d _ => ?_⟩
  rw [part_oneC]
  split
  · exact ⟨h1, Int.le_refl _, h2, trivial⟩
  · trivial
theorem of_oneC {a n : Int} (h : Dt.rightB a n = true) : OfC [(a, n)] (oneC a n) := ⟨right_oneC h, fun d m _ => by
  rw [has_oneC, decide_eq_true_iff, List.mem_singleton]
  constructor
  · rintro ⟨rfl, rfl⟩; rfl
  · intro h; injection h with h1 h2; exact ⟨h1, h2⟩⟩
/-- may a change of t be named by a dot? -/
noncomputable def checkB (t : T) (a n : Int) : Bool := Tr.rightB 5 t && Dt.rightB a n && !decide ((a, n) ∈ dl t)
theorem check_iff {t : T} {a n : Int} : checkB t a n = true ↔ RightT 5 t ∧ Dt.rightB a n = true ∧ (a, n) ∉ dl t := by
  unfold checkB
  rw [Bool.and_eq_true, Bool.and_eq_true, Tr.rightB_iff, Bool.not_eq_true', decide_eq_false_iff_not, and_assoc]
theorem has_dl {t : T} {u : List S3} (ht : RightT 5 t) (hu : OfC (dl t) u) (a n : Int) : hasC u a n = decide ((a, n) ∈ dl t) := by
  by_cases hd : Cen a
  · by_cases h : (a, n) ∈ dl t
    · rw [(hu.has a n hd).2 h, decide_eq_true h]
    · rw [decide_eq_false h]
      cases h2 : hasC u a n with
      | false => rfl
      | true => exact absurd ((hu.has a n hd).1 h2) h
  · rw [not_cen hu.right hd, decide_eq_false fun h => hd (good_num (x := (a, n)) (good_dl ht _ h)).1]
/-- what is seen, and one dot more -/
theorem uni_has {u v : List S3} {a n : Int} (hu : RightC u) (hd : Dt.rightB a n = true) (hv : PutC uniF u (oneC a n) v) (d m : Int) : hasC v d m = (hasC u d m || decide (d = a ∧ m = n)) := by
  by_cases h : Cen d
  · rw [hv.has d m h, has_oneC]; rfl
  · rw [not_cen hv.right h, not_cen hu h, decide_eq_false fun h2 => h (by rw [h2.1]; exact cen_of hd)]; rfl
theorem uni_self {u v : List S3} {a n : Int} (hu : RightC u) (hd : Dt.rightB a n = true) (hv : PutC uniF u (oneC a n) v) : hasC v a n = true := by
  rw [uni_has hu hd hv, decide_eq_true ⟨rfl, rfl⟩, Bool.or_true]
theorem right_oneT {d : Nat} {e : E} (he : RightE e) : RightT (d + 1) (oneT e) := ⟨fun x hx => by
  rw [List.mem_singleton.1 hx]; exact he, by simp, by simp, by simp⟩
theorem nodes_one (e : E) : nodes (oneT e) = 1 := by unfold oneT; rw [nodes_mk]; rfl
end Cs
end Go.Proofs.YtemilfojnecldaaGreat
namespace Go.Proofs.YtemilfojnecldaaGreat
namespace Cs
open Tr Cx Sp Rw Classical
/-- the keys below which there are entries -/
def elemsT (t : T) : List ByteArray := (t.ks.filter fun k => decide (0 < k.2.es.length)).map fun k => k.1
theorem kidAt_of {ks : List Kd} (h : ks.Pairwise fun x y => ltS x.1 y.1) {x : Kd} (hx : x ∈ ks) : kidAt ks x.1 = x.2 := by
  rw [kidAt_look, show look keyK ks x.1 = some x from (look_iff (key := keyK) tot_str h).2 ⟨hx, rfl⟩]
  rfl
theorem rightT_rise {d : Nat} {t : T} (h : RightT (d + 1) t) : t.ks.Pairwise fun x y => ltS x.1 y.1 := by
  cases t
  exact h.2.2.1
theorem es_some {t : T} : 0 < t.es.length ↔ ∃ q e, entAt t [] q = some e := by
  constructor
  · intro h
    cases he : t.es with
    | nil => rw [he] at h; simp at h
    | cons e l =>
      refine ⟨keyE e, e, ?_⟩
      show look keyE t.es _ = _
      rw [he]
      exact look_cons_eq rfl _
  · rintro ⟨q, e, h⟩
    exact List.length_pos_of_mem (look_mem h).1
theorem entAt_kid (t : T) (k : ByteArray) (p : List ByteArray) (q : Int × Int) : entAt t (k :: p) q = entAt (kidAt t.ks k) p q := rfl
theorem mem_elems {d : Nat} {t : T} (h : RightT (d + 1) t) {k : ByteArray} : k ∈ elemsT t ↔ ∃ q e, entAt t [k] q = some e := by
  unfold elemsT
  simp only [entAt_kid]
  rw [← es_some, List.mem_map]
  constructor
  · rintro ⟨x, hx, rfl⟩
    obtain ⟨h1, h2⟩ := List.mem_filter.1 hx
    rw [kidAt_of (rightT_rise h) h1]
    exact of_decide_eq_true h2
  · intro h2
    rcases kidAt_mem (ks := t.ks) (key := k) with ⟨x, h3, h4, h5⟩ | ⟨_, h3⟩
    · rw [h5] at h2
      exact ⟨x, List.mem_filter.2 ⟨h3, decide_eq_true h2⟩, h4⟩
    · rw [h3] at h2
      exact absurd h2 (by unfold none_; simp [T.es])
theorem rise_ext {l m : List ByteArray} (hl : l.Pairwise ltS) (hm : m.Pairwise ltS) (h : ∀ x, x ∈ l ↔ x ∈ m) : l = m := by
  refine up_ext (key := id) tot_str hl hm fun k => ?_
  by_cases hk : k ∈ l
  · rw [show look id l k = some k from (look_iff (key := id) tot_str hl).2 ⟨hk, rfl⟩, show look id m k = some k from (look_iff (key := id) tot_str hm).2 ⟨(h k).1 hk, rfl⟩]
  · rw [show look id l k = none from look_none fun x hx e => hk (by rw [← show x = k from e]; exact hx), show look id m k = none from look_none fun x hx e => hk (by rw [← show x = k from e]; exact (h x).2 hx)]
/-- texts, each once, rising -/
structure SortIs (l m : List ByteArray) : Prop where
  rise : m.Pairwise ltS
  mem : ∀ x, x ∈ m ↔ x ∈ l
theorem SortIs.eq {l m m' : List ByteArray} (h : SortIs l m) (h' : SortIs l m') : m = m' := rise_ext h.rise h'.rise fun x => (h.mem x).trans (h'.mem x).symm
/-- an entry below a key -/
theorem entAt_wrap1 (e : E) (s : ByteArray) (p : List ByteArray) (q : Int × Int) : entAt (wrapT (oneT e) [s]) p q = if p = [s] ∧ keyE e = q then some e else none := by
  cases p with
  | nil =>
    rw [if_neg fun h => by cases h.1]
    exact look_nil q
  | cons k p =>
    show entAt (if s = k then oneT e else none_) p q = _
    by_cases h : s = k
    · subst h
      rw [if_pos rfl, entAt_one]
      by_cases h2 : p = [] ∧ keyE e = q
      · rw [if_pos h2, if_pos ⟨by rw [h2.1], h2.2⟩]
      · rw [if_neg h2, if_neg fun h3 => h2 ⟨by have := h3.1; simpa using this, h3.2⟩]
    · rw [if_neg h, entAt_none, if_neg fun h2 => h (by have := h2.1; injection this with h3 h4; exact h3.symm)]
theorem right_wrap1 {e : E} {s : ByteArray} (he : RightE e) (hs : KeyOk s) : RightT 5 (wrapT (oneT e) [s]) := by
  have h := RightT.wrap (d := 1) (right_oneT (d := 0) he) (fun h => by cases h.1) (p := [s]) (fun k hk => by rw [List.mem_singleton.1 hk]; exact hs)
  exact RightT.more (RightT.more (RightT.more h))
theorem right_wrapK {e : E} {s : ByteArray} {c : List S3} (he : RightE e) (hs : KeyOk s) (hc : RightC c) (hh : hasC c e.a e.n = true) : RK (wrapT (oneT e) [s], c) := ⟨right_wrap1 he hs, hc, fun x hx => by
  have h1 := (leaf_iff (right_wrap1 he hs) x.1 x.2).1 hx
  rw [entAt_wrap1] at h1
  split at h1
  · injection h1 with h1
    rw [← h1]
    exact hh
  · cases h1⟩
/-- what stands in a tree has a dot of the tree -/
theorem ent_dl {d : Nat} {t : T} (h : RightT d t) {p : List ByteArray} {q : Int × Int} {e : E} (he : entAt t p q = some e) : q ∈ dl t := by
  have hk := entAt_key he
  have h1 : (p, e) ∈ leaves t := (leaf_iff h p e).2 (by rw [hk]; exact he)
  exact List.mem_map.2 ⟨(p, e), h1, hk⟩
theorem dl_ent {d : Nat} {t : T} (h : RightT d t) {q : Int × Int} (hq : q ∈ dl t) : ∃ p e, entAt t p q = some e := by
  obtain ⟨x, hx, rfl⟩ := List.mem_map.1 hq
  exact ⟨x.1, x.2, (leaf_iff h x.1 x.2).1 hx⟩
theorem kid_right {t : T} (h : RightT 5 t) (k : ByteArray) : RightT 5 (kidAt t.ks k) := by
  cases t
  exact RightT.kid (d := 4) h k
theorem kid_sub {t : T} (ht : RightT 5 t) {s : ByteArray} {q : Int × Int} (h : q ∈ dl (kidAt t.ks s)) : q ∈ dl t := by
  obtain ⟨p, e, h1⟩ := dl_ent (kid_right ht s) h
  exact ent_dl ht (p := s :: p) (e := e) h1
theorem elem_of {d : Nat} {t : T} (h : RightT (d + 1) t) {k : ByteArray} {q : Int × Int} {e : E} (he : entAt t [k] q = some e) : k ∈ elemsT t := (mem_elems h).2 ⟨q, e, he⟩
end Cs
end Go.Proofs.YtemilfojnecldaaGreat
