/- Texts of the lower layers, and of layer 9, put together. -/
import Derived.Test.YtemilfojnecldaaGreatG00
import Derived.Test.YtemilfojnecldaaGreatTreeDots
import Derived.Test.YtemilfojnecldaaGreatG20
import Derived.Test.YtemilfojnecldaaGreatCauRight
import Derived.Test.YtemilfojnecldaaGreatTreeLeaves
namespace Go.Proofs.YtemilfojnecldaaGreat
namespace Cs
open Tr Cx Sp Rw Classical
theorem cen_of {a n : Int} (h : Dt.rightB a n = true) : Cen a := (good_num (x := (a, n)) h).1
def oneC (a n : Int) : List S3 := [(a, n, n)]
theorem part_oneC (a n d : Int) : Cx.part (oneC a n) d = if a = d then [(n, n)] else [] := by
 unfold oneC; rw [part_cons, part_nil]
theorem has_oneC (a n d m : Int) : hasC (oneC a n) d m = decide (d = a ∧ m = n) := by
 unfold hasC; rw [part_oneC]
 by_cases h : a = d
 ·rw [if_pos h, has_cons, has_nil, Bool.or_false]
  by_cases h2 : m = n
  ·rw [decide_eq_true (by omega), decide_eq_true ⟨h.symm, h2⟩]
  ·rw [decide_eq_false (by omega), decide_eq_false fun h3 => h2 h3.2]
 ·rw [if_neg h, has_nil, decide_eq_false fun h3 => h h3.1.symm]
theorem right_oneC {a n : Int} (h : Dt.rightB a n = true) : RightC (oneC a n) := by
 obtain ⟨hc, h1, h2⟩ := Cx.good_num (x := (a, n)) h; refine ⟨⟨hc.1, hc.2, trivial⟩, fun d _ => ?_⟩; rw [part_oneC]
 split
 ·exact ⟨h1, Int.le_refl _, h2, trivial⟩
 ·trivial
theorem of_oneC {a n : Int} (h : Dt.rightB a n = true) : OfC [(a, n)] (oneC a n) := ⟨right_oneC h, fun d m _ => by
 rw [has_oneC, decide_eq_true_iff, List.mem_singleton]; constructor
 ·rintro ⟨rfl, rfl⟩; rfl
 ·intro h; injection h with h1 h2; exact ⟨h1, h2⟩⟩
noncomputable def checkB (t : T) (a n : Int) : Bool := Tr.rightB 5 t && Dt.rightB a n && !decide ((a, n) ∈ dl t)
theorem check_iff {t : T} {a n : Int} : checkB t a n = true ↔ RightT 5 t ∧ Dt.rightB a n = true ∧ (a, n) ∉ dl t := by
 unfold checkB; rw [Bool.and_eq_true, Bool.and_eq_true, Tr.rightB_iff, Bool.not_eq_true', decide_eq_false_iff_not, and_assoc]
theorem has_dl {t : T} {u : List S3} (ht : RightT 5 t) (hu : OfC (dl t) u) (a n : Int) : hasC u a n = decide ((a, n) ∈ dl t) := by
 by_cases hd : Cen a
 ·by_cases h : (a, n) ∈ dl t
  ·rw [(hu.has a n hd).2 h, decide_eq_true h]
  ·rw [decide_eq_false h]
   cases h2 : hasC u a n with
   | false => rfl
   | true => exact absurd ((hu.has a n hd).1 h2) h
 ·rw [not_cen hu.right hd, decide_eq_false fun h => hd (good_num (x := (a, n)) (good_dl ht _ h)).1]
theorem known_right {t : T} {u : List S3} (ht : RightT 5 t) (hu : OfC (dl t) u) : RK (t, u) := ⟨ht, hu.right, fun x hx => by
 show hasC u x.2.a x.2.n = true; rw [has_dl ht hu]
 exact decide_eq_true (List.mem_map.2 ⟨x, hx, rfl⟩)⟩
theorem uni_has {u v : List S3} {a n : Int} (hu : RightC u) (hd : Dt.rightB a n = true) (hv : PutC uniF u (oneC a n) v) (d m : Int) : hasC v d m = (hasC u d m || decide (d = a ∧ m = n)) := by
 by_cases h : Cen d
 ·rw [hv.has d m h, has_oneC]; rfl
 ·rw [not_cen hv.right h, not_cen hu h, decide_eq_false fun h2 => h (by rw [h2.1]; exact cen_of hd)]; rfl
theorem uni_self {u v : List S3} {a n : Int} (hu : RightC u) (hd : Dt.rightB a n = true) (hv : PutC uniF u (oneC a n) v) : hasC v a n = true := by
 rw [uni_has hu hd hv, decide_eq_true ⟨rfl, rfl⟩, Bool.or_true]
theorem right_oneT {d : Nat} {e : E} (he : RightE e) : RightT (d + 1) (oneT e) := ⟨fun x hx => by
 rw [List.mem_singleton.1 hx]; exact he, by simp, by simp, by simp⟩
theorem nodes_one (e : E) : nodes (oneT e) = 1 := by unfold oneT; rw [nodes_mk]; rfl
theorem RK.ent_of {k : K} (h : RK k) (p : List ByteArray) (q : Int × Int) (o : Option (Option E)) (hs : Cs.st k p q = o) : entAt k.1 p q = o.join := by
 rw [← hs]
 cases h1 : hasC k.2 q.1 q.2 with
 | true => rw [st_some h1]; rfl
 | false => rw [st_none h1, h.unknown h1]; rfl
end Cs
end Go.Proofs.YtemilfojnecldaaGreat
namespace Go.Proofs.YtemilfojnecldaaGreat
namespace Cs
open Tr Cx Sp Rw Classical
def elemsT (t : T) : List ByteArray := (t.ks.filter fun k => decide (0 < k.2.es.length)).map fun k => k.1
theorem kidAt_of {ks : List Kd} (h : ks.Pairwise fun x y => ltS x.1 y.1) {x : Kd} (hx : x ∈ ks) : kidAt ks x.1 = x.2 := by
 rw [kidAt_look, show look keyK ks x.1 = some x from (look_iff (key := keyK) tot_str h).2 ⟨hx, rfl⟩]; rfl
theorem rightT_rise {d : Nat} {t : T} (h : RightT (d + 1) t) : t.ks.Pairwise fun x y => ltS x.1 y.1 := by
 cases t
 exact h.2.2.1
theorem es_some {t : T} : 0 < t.es.length ↔ ∃ q e, entAt t [] q = some e := by
 constructor
 ·intro h
  cases he : t.es with
  | nil => rw [he] at h; simp at h
  | cons e l =>
   refine ⟨keyE e, e, ?_⟩; show look keyE t.es _ = _; rw [he]; exact look_cons_eq rfl _
 ·rintro ⟨q, e, h⟩
  exact List.length_pos_of_mem (look_mem h).1
theorem entAt_kid (t : T) (k : ByteArray) (p : List ByteArray) (q : Int × Int) : entAt t (k :: p) q = entAt (kidAt t.ks k) p q := rfl
theorem mem_elems {d : Nat} {t : T} (h : RightT (d + 1) t) {k : ByteArray} : k ∈ elemsT t ↔ ∃ q e, entAt t [k] q = some e := by
 unfold elemsT; simp only [entAt_kid]; rw [← es_some, List.mem_map]; constructor
 ·rintro ⟨x, hx, rfl⟩
  obtain ⟨h1, h2⟩ := List.mem_filter.1 hx; rw [kidAt_of (rightT_rise h) h1]; exact of_decide_eq_true h2
 ·intro h2
  rcases kidAt_mem (ks := t.ks) (key := k) with ⟨x, h3, h4, h5⟩ | ⟨_, h3⟩
  ·rw [h5] at h2
   exact ⟨x, List.mem_filter.2 ⟨h3, decide_eq_true h2⟩, h4⟩
  ·rw [h3] at h2
   exact absurd h2 (by unfold none_; simp [T.es])
theorem elems_rise {d : Nat} {t : T} (h : RightT (d + 1) t) : (elemsT t).Pairwise ltS := by
 unfold elemsT; rw [List.pairwise_map]; exact (rightT_rise h).filter _
theorem rise_ext {l m : List ByteArray} (hl : l.Pairwise ltS) (hm : m.Pairwise ltS) (h : ∀ x, x ∈ l ↔ x ∈ m) : l = m := by
 refine up_ext (key := id) tot_str hl hm fun k => ?_
 by_cases hk : k ∈ l
 ·rw [show look id l k = some k from (look_iff (key := id) tot_str hl).2 ⟨hk, rfl⟩, show look id m k = some k from (look_iff (key := id) tot_str hm).2 ⟨(h k).1 hk, rfl⟩]
 ·rw [show look id l k = none from look_none fun x hx e => hk (by rw [← show x = k from e]; exact hx), show look id m k = none from look_none fun x hx e => hk (by rw [← show x = k from e]; exact (h x).2 hx)]
structure SortIs (l m : List ByteArray) : Prop where
 rise : m.Pairwise ltS
 mem : ∀ x, x ∈ m ↔ x ∈ l
theorem SortIs.eq {l m m' : List ByteArray} (h : SortIs l m) (h' : SortIs l m') : m = m' := rise_ext h.rise h'.rise fun x => (h.mem x).trans (h'.mem x).symm
theorem entAt_wrap1 (e : E) (s : ByteArray) (p : List ByteArray) (q : Int × Int) : entAt (wrapT (oneT e) [s]) p q = if p = [s] ∧ keyE e = q then some e else none := by
 cases p with
 | nil =>
  rw [if_neg fun h => by cases h.1]; exact look_nil q
 | cons k p =>
  show entAt (if s = k then oneT e else none_) p q = _
  by_cases h : s = k
  ·subst h
   rw [if_pos rfl, entAt_one]
   by_cases h2 : p = [] ∧ keyE e = q
   ·rw [if_pos h2, if_pos ⟨by rw [h2.1], h2.2⟩]
   ·rw [if_neg h2, if_neg fun h3 => h2 ⟨by have := h3.1; simpa using this, h3.2⟩]
  ·rw [if_neg h, entAt_none, if_neg fun h2 => h (by have := h2.1; injection this with h3 h4; exact h3.symm)]
theorem right_wrap1 {e : E} {s : ByteArray} (he : RightE e) (hs : KeyOk s) : RightT 5 (wrapT (oneT e) [s]) := by
 have h := RightT.wrap (d := 1) (right_oneT (d := 0) he) (fun h => by cases h.1) (p := [s]) (fun k hk => by rw [List.mem_singleton.1 hk]; exact hs); exact RightT.more (RightT.more (RightT.more h))
theorem right_wrapK {e : E} {s : ByteArray} {c : List S3} (he : RightE e) (hs : KeyOk s) (hc : RightC c) (hh : hasC c e.a e.n = true) : RK (wrapT (oneT e) [s], c) := ⟨right_wrap1 he hs, hc, fun x hx => by
 have h1 := (leaf_iff (right_wrap1 he hs) x.1 x.2).1 hx; rw [entAt_wrap1] at h1
 split at h1
 ·injection h1 with h1
  rw [← h1]; exact hh
 ·cases h1⟩
theorem ent_dl {d : Nat} {t : T} (h : RightT d t) {p : List ByteArray} {q : Int × Int} {e : E} (he : entAt t p q = some e) : q ∈ dl t := by
 have hk := entAt_key he; have h1 : (p, e) ∈ leaves t := (leaf_iff h p e).2 (by rw [hk]; exact he); exact List.mem_map.2 ⟨(p, e), h1, hk⟩
theorem dl_ent {d : Nat} {t : T} (h : RightT d t) {q : Int × Int} (hq : q ∈ dl t) : ∃ p e, entAt t p q = some e := by
 obtain ⟨x, hx, rfl⟩ := List.mem_map.1 hq; exact ⟨x.1, x.2, (leaf_iff h x.1 x.2).1 hx⟩
def OnceT (t : T) : Prop := ∀ p p' q e e', entAt t p q = some e → entAt t p' q = some e' → p = p'
theorem kid_right {t : T} (h : RightT 5 t) (k : ByteArray) : RightT 5 (kidAt t.ks k) := by
 cases t
 exact RightT.kid (d := 4) h k
theorem kid_other {t x : T} {u v w : List S3} {a n : Int} {s : ByteArray} {r : K} (ht : RightT 5 t) (hu : OfC (dl t) u) (hw : OfC (dl (kidAt t.ks s)) w) (hd : Dt.rightB a n = true) (hn : (a, n) ∉ dl t) (hv : PutC uniF w (oneC a n) v) (honce : OnceT t) (hx : RK (x, v)) (h : IsJ (t, u) (x, v) r) {k : ByteArray} (hk : k ≠ s) {p : List ByteArray} (hxn : ∀ q, entAt x (k :: p) q = none) (q : Int × Int) : entAt r.1 (k :: p) q = entAt t (k :: p) q := by
 rw [h.ent (known_right ht hu) hx, hxn]
 cases he : entAt t (k :: p) q with
 | none => rfl
 | some e =>
  have hke := entAt_key he; rw [stE_left, if_neg]
  have e1 : e.a = q.1 := by rw [← hke]; rfl
  have e2 : e.n = q.2 := by rw [← hke]; rfl
  show ¬ hasC v e.a e.n = true; rw [uni_has hw.right hd hv, e1, e2, Bool.or_eq_true, decide_eq_true_iff]; rintro (h1 | ⟨h1, h2⟩)
  ·rw [has_dl (kid_right ht s) hw, decide_eq_true_iff] at h1
   obtain ⟨p', e', h3⟩ := dl_ent (kid_right ht s) h1; have h4 := honce (k :: p) (s :: p') q e e' he h3; injection h4 with h5 h6; exact hk h5
  ·exact hn (by rw [← h1, ← h2]; exact ent_dl ht he)
theorem add_elems {t : T} {u v w : List S3} {e : E} {s : ByteArray} {r : K} (ht : RightT 5 t) (hu : OfC (dl t) u) (hw : OfC (dl (kidAt t.ks s)) w) (he : RightE e) (hs : KeyOk s) (hn : (e.a, e.n) ∉ dl t) (hv : PutC uniF w (oneC e.a e.n) v) (honce : OnceT t) (h : IsJ (t, u) (wrapT (oneT e) [s], v) r) (k : ByteArray) : k ∈ elemsT r.1 ↔ k ∈ elemsT t ∨ k = s := by
 have hx := right_wrapK he hs hv.right (uni_self hw.right he.1 hv); rw [mem_elems (h.right (known_right ht hu) hx).tree, mem_elems ht]
 by_cases hk : k = s
 ·subst hk
  refine ⟨fun _ => .inr rfl, fun _ => ⟨keyE e, e, ?_⟩⟩; rw [h.ent (known_right ht hu) hx, entAt_wrap1, if_pos ⟨rfl, rfl⟩]
  cases h1 : entAt t [k] (keyE e) with
  | some y => exact absurd (ent_dl ht h1) hn
  | none =>
   rw [stE_right, if_neg]; show ¬ hasC u e.a e.n = true; rw [has_dl ht hu, decide_eq_true_iff]; exact hn
 ·have hoth := fun q => kid_other ht hu hw he.1 hn hv honce hx h hk (p := []) (fun q => by rw [entAt_wrap1, if_neg fun h2 => hk (by have := h2.1; injection this)]) q
  simp only [hoth]; exact ⟨.inl, fun h2 => h2.resolve_right hk⟩
theorem del_elems {t : T} {u v w : List S3} {a n : Int} {s : ByteArray} {r : K} (ht : RightT 5 t) (hu : OfC (dl t) u) (hw : OfC (dl (kidAt t.ks s)) w) (hd : Dt.rightB a n = true) (hn : (a, n) ∉ dl t) (hv : PutC uniF w (oneC a n) v) (honce : OnceT t) (h : IsJ (t, u) (none_, v) r) (k : ByteArray) : k ∈ elemsT r.1 ↔ k ∈ elemsT t ∧ k ≠ s := by
 have hx := right_gone hv.right; rw [mem_elems (h.right (known_right ht hu) hx).tree, mem_elems ht]
 by_cases hk : k = s
 ·subst hk
  refine ⟨fun ⟨q, e, h1⟩ => ?_, fun h1 => absurd rfl h1.2⟩; rw [h.ent (known_right ht hu) hx, entAt_none] at h1
  cases h2 : entAt t [k] q with
  | none => rw [h2] at h1; cases h1
  | some y =>
   rw [h2, stE_left, if_pos] at h1
   ·cases h1
   ·have hky := entAt_key h2
    show hasC v y.a y.n = true; rw [uni_has hw.right hd hv, show y.a = q.1 by rw [← hky]; rfl, show y.n = q.2 by rw [← hky]; rfl, has_dl (kid_right ht k) hw, decide_eq_true (ent_dl (kid_right ht k) (p := []) (e := y) h2)]; rfl
 ·have hoth := fun q => kid_other ht hu hw hd hn hv honce hx h hk (p := []) (fun q => entAt_none _ _) q
  simp only [hoth]; exact ⟨fun h2 => ⟨h2, hk⟩, fun h2 => h2.1⟩
theorem kid_sub {t : T} (ht : RightT 5 t) {s : ByteArray} {q : Int × Int} (h : q ∈ dl (kidAt t.ks s)) : q ∈ dl t := by
 obtain ⟨p, e, h1⟩ := dl_ent (kid_right ht s) h; exact ent_dl ht (p := s :: p) (e := e) h1
theorem seen_not {t : T} {v w : List S3} {a n b m : Int} {s : ByteArray} (ht : RightT 5 t) (hw : OfC (dl (kidAt t.ks s)) w) (hd : Dt.rightB a n = true) (hv : PutC uniF w (oneC a n) v) (hb : (b, m) ∉ dl t) (hne : ¬ (b = a ∧ m = n)) : hasC v b m = false := by
 rw [uni_has hw.right hd hv, has_dl (kid_right ht s) hw, decide_eq_false fun h => hb (kid_sub ht h), decide_eq_false hne]; rfl
theorem st_unknown {k : K} {p : List ByteArray} {q : Int × Int} (h : hasC k.2 q.1 q.2 = false) : Cs.st k p q = none := st_none h
theorem st_here {k : K} {p : List ByteArray} {q : Int × Int} {o : Option E} (h : hasC k.2 q.1 q.2 = true) (he : entAt k.1 p q = o) : Cs.st k p q = some o := by rw [st_some h, he]
theorem elem_of {d : Nat} {t : T} (h : RightT (d + 1) t) {k : ByteArray} {q : Int × Int} {e : E} (he : entAt t [k] q = some e) : k ∈ elemsT t := (mem_elems h).2 ⟨q, e, he⟩
theorem del_gone {c b : K} {w v : List S3} {a n : Int} {s : ByteArray} (hc : RK c) (hw : OfC (dl (kidAt c.1.ks s)) w) (hd : Dt.rightB a n = true) (hv : PutC uniF w (oneC a n) v) (h : IsJ c (none_, v) b) : s ∉ elemsT b.1 := by
 have hx := right_gone hv.right; rw [mem_elems (h.right hc hx).tree]; rintro ⟨q, e, h1⟩; rw [h.ent hc hx, entAt_none] at h1
 cases h2 : entAt c.1 [s] q with
 | none => rw [h2] at h1; cases h1
 | some y =>
  rw [h2, stE_left, if_pos] at h1
  ·cases h1
  ·have hky := entAt_key h2
   show hasC v y.a y.n = true; rw [uni_has hw.right hd hv, show y.a = q.1 by rw [← hky]; rfl, show y.n = q.2 by rw [← hky]; rfl, has_dl (kid_right hc.tree s) hw, decide_eq_true (ent_dl (kid_right hc.tree s) (p := []) (e := y) h2)]; rfl
theorem fresh_stays {t : T} {u v w : List S3} {e : E} {s : ByteArray} {y r : K} (ht : RightT 5 t) (hu : OfC (dl t) u) (hw : OfC (dl (kidAt t.ks s)) w) (he : RightE e) (hn : (e.a, e.n) ∉ dl t) (hv : PutC uniF w (oneC e.a e.n) v) (hy : hasC y.2 e.a e.n = false) (hr : RK r) (h : ∀ p q, Cs.st r p q = mx (Cs.st (t, u) p q) (mx (Cs.st (wrapT (oneT e) [s], v) p q) (Cs.st y p q))) : entAt r.1 [s] (keyE e) = some e := by
 have h1 : hasC u e.a e.n = false := by rw [has_dl ht hu, decide_eq_false hn]
 rw [hr.ent_of [s] (keyE e) _ (h [s] (keyE e)), st_unknown (k := (t, u)) (q := keyE e) h1, st_unknown (k := y) (q := keyE e) hy, st_here (k := (wrapT (oneT e) [s], v)) (q := keyE e) (uni_self hw.right he.1 hv) (by rw [entAt_wrap1, if_pos ⟨rfl, rfl⟩] : _ = some e), none_mx, mx_none]; rfl
theorem fresh_other {t : T} {u v v' w w' : List S3} {e e' : E} {s s' : ByteArray} {r : K} (ht : RightT 5 t) (hu : OfC (dl t) u) (hw : OfC (dl (kidAt t.ks s)) w) (hw' : OfC (dl (kidAt t.ks s')) w') (he : RightE e) (he' : RightE e') (hn' : (e'.a, e'.n) ∉ dl t) (hne : ¬ (e'.a = e.a ∧ e'.n = e.n)) (hss : s' ≠ s) (hv : PutC uniF w (oneC e.a e.n) v) (hv' : PutC uniF w' (oneC e'.a e'.n) v') (hr : RK r) (h : ∀ p q, Cs.st r p q = mx (Cs.st (t, u) p q) (mx (Cs.st (wrapT (oneT e) [s], v) p q) (Cs.st (wrapT (oneT e') [s'], v') p q))) : keyE e' ∉ dl (kidAt r.1.ks s) := by
 intro hin; obtain ⟨p, y, h1⟩ := dl_ent (kid_right hr.tree s) hin; have h2 : entAt r.1 (s :: p) (keyE e') = some y := h1
 have h3 : hasC u e'.a e'.n = false := by rw [has_dl ht hu, decide_eq_false hn']
 have h4 : hasC v e'.a e'.n = false := seen_not ht hw he.1 hv hn' hne; rw [hr.ent_of _ _ _ (h (s :: p) (keyE e')), st_unknown (k := (t, u)) (q := keyE e') h3, st_unknown (k := (wrapT (oneT e) [s], v)) (q := keyE e') h4, st_here (k := (wrapT (oneT e') [s'], v')) (q := keyE e') (uni_self hw'.right he'.1 hv') (by rw [entAt_wrap1, if_neg fun h5 => hss (by have := h5.1; injection this with h6 h7; exact h6.symm)] : _ = none), mx_none, mx_none] at h2
 cases h2
theorem not_in_all {c x y r : K} {q : Int × Int} (h1 : hasC c.2 q.1 q.2 = false) (h2 : hasC x.2 q.1 q.2 = false) (h3 : hasC y.2 q.1 q.2 = false) (hr : RK r) (h : ∀ p q, Cs.st r p q = mx (Cs.st c p q) (mx (Cs.st x p q) (Cs.st y p q))) : q ∉ dl r.1 := by
 intro hin; obtain ⟨p, e, he⟩ := dl_ent hr.tree hin; have h4 := hr.known he; have h5 := h p q; rw [st_unknown h1, st_unknown h2, st_unknown h3, st_some h4, he] at h5
 cases h5
end Cs
end Go.Proofs.YtemilfojnecldaaGreat
namespace Go.Proofs.YtemilfojnecldaaGreat
open Go.ChangeShapes Go.WideShapes Go.ChangeAt Go.RowKit
namespace Cs
open Tr Cx Sp Rw Classical
theorem once_of {t : T} (ht : RightT 5 t) (h : ∀ (i k : Nat) (hi : i < (leaves t).length) (hk : k < (leaves t).length), i < k → keyE (leaves t)[i].2 ≠ keyE (leaves t)[k].2) : OnceT t := by
 intro p p' q e e' he he'; have h1 : (p, e) ∈ leaves t := (leaf_iff ht p e).2 (by rw [entAt_key he]; exact he); have h2 : (p', e') ∈ leaves t := (leaf_iff ht p' e').2 (by rw [entAt_key he']; exact he'); obtain ⟨i, hi, ei⟩ := List.getElem_of_mem h1; obtain ⟨k, hk, ek⟩ := List.getElem_of_mem h2
 have hke : keyE (leaves t)[i].2 = keyE (leaves t)[k].2 := by rw [ei, ek]; exact (entAt_key he).trans (entAt_key he').symm
 rcases Nat.lt_trichotomy i k with h3 | h3 | h3
 ·exact absurd hke (h i k hi hk h3)
 ·subst h3
  have h4 := ei.symm.trans ek; injection h4
 ·exact absurd hke.symm (h k i hk hi h3)
set_option maxRecDepth 100000 in
set_option maxHeartbeats 4000000 in
theorem refonce_any (t : T) (Ae Ak : Option Addr) (ne nk ce ck : Nat) (w : World) (ht : RightT 5 t) (_hl : LenT reachBytes t) (hn : nodes t ≤ 1000) (hr : RdT w w.heap.size t ⟨Ae, ne, ce⟩ ⟨Ak, nk, ck⟩) :
  Calls Tryz.prog 25 #[.agg #[.slice Ae ne ce, .slice Ak nk ck]] w fun e w' => ∃ z : Bool, e = .returned (.bool z) ∧ (z = true → OnceT t) ∧ Below w.heap.size w w' := by
 have HR := Lib.hid hr; have HN := Lib.hid hn; have HT := Lib.hid ht; clear hr hn ht; obtain ⟨g, hg⟩ : ∃ g, g = w.heap.size := ⟨_, rfl⟩; have HK := Lib.hid (tree_box w Ae Ak ne nk ce ck); rw [← hg] at HK; obtain ⟨W0, hW0⟩ : ∃ W, W = w.alloc (.cells #[.slice Ae ne ce, .slice Ak nk ck] 25) := ⟨_, rfl⟩; rw [← hW0] at HK; have HG := Lib.hid hg; have HW0 := Lib.hid hW0; have k0 := HK.out.c0; have k1 := HK.out.c1; clear hg hW0; go_enter Tryz.func25, Tryz.ntmps25; go_wp2_with fail; rw [← HG.out, ← HW0.out]; refine (leaves_any t Ae Ak ne nk ce ck W0 (by have := HN.out; omega) (RdT.more HK.out.below.size _ (RdT.below HR.out HK.out.below))).mono ?_; rintro e w1 ⟨A, c, rfl, hlf, hb9⟩; have HB1 := Lib.hid (HK.out.below.trans (hb9.mono HK.out.below.size)); have hle : (leaves t).length ≤ 1000 := Nat.le_trans (leaves_nodes t) HN.out
 obtain ⟨L, hL⟩ : ∃ L, leaves t = L := ⟨_, rfl⟩; have HLL := Lib.hid hL; rw [hL] at hlf hle ⊢; obtain ⟨n, hn⟩ : ∃ n, L.length = n := ⟨_, rfl⟩; rw [hn] at hlf hle ⊢; have HLF := Lib.hid hlf; have HLN := Lib.hid hn; clear hlf hn hL hb9 k0 k1; go_wp2_with fail
 go_loopw [10] (fun z wr => ∃ (k : Nat), k ≤ n ∧ z = .int .i64 k ∧ Hid (∀ (i j : Nat) (hi : i < L.length) (hj : j < L.length), i < j → j < k → keyE L[i].2 ≠ keyE L[j].2) ∧ Hid (Below w1.heap.size w1 wr)) (fun z _ => n - (intOf z).toNat)
 case atStart => exact ⟨0, by omega, rfl, fun i j _ _ _ h => absurd h (by omega), Below.refl _ _⟩
 case round =>
  obtain ⟨k, hk, rfl, HI, HBL⟩ := hrel
  by_cases hlt : k < n
  ·have hkl : k < L.length := by rw [HLN.out]; exact hlt
   go_wp2_with fail
   go_loopw [14] (fun z wr2 => ∃ (i : Nat), i ≤ k ∧ z = .int .i64 i ∧ Hid (∀ (j : Nat) (hj : j < L.length), j < i → keyE L[j].2 ≠ keyE (L[k]'hkl).2) ∧ Hid (Below w1.heap.size w1 wr2)) (fun z _ => k - (intOf z).toNat)
   case atStart => exact ⟨0, by omega, rfl, fun j _ h => absurd h (by omega), HBL.out⟩
   case round =>
    obtain ⟨i, hi, rfl, HJ, HBM⟩ := hrel
    by_cases hli : i < k
    ·have hil : i < L.length := by rw [HLN.out]; omega
     obtain ⟨b, o, rfl, hb, hc⟩ := LfRd.at_ HLF.out (by omega); obtain ⟨s1, _, c1, c2, _, _, _, _⟩ := hc i hil; obtain ⟨s2, _, d1, d2, _, _, _, _⟩ := hc k hkl; have c1 := (HBM.out.cell (p := ⟨b, o + i * 5 + 1, none⟩) hb).trans c1; have c2 := (HBM.out.cell (p := ⟨b, o + i * 5 + 2, none⟩) hb).trans c2; have d1 := (HBM.out.cell (p := ⟨b, o + k * 5 + 1, none⟩) hb).trans d1; have d2 := (HBM.out.cell (p := ⟨b, o + k * 5 + 2, none⟩) hb).trans d2; have hkx : keyE L[i].2 = ((L[i]).2.a, (L[i]).2.n) := rfl; have hky : keyE L[k].2 = ((L[k]).2.a, (L[k]).2.n) := rfl; obtain ⟨xa, hxa⟩ : ∃ x, x = (L[i]).2.a := ⟨_, rfl⟩; obtain ⟨xn, hxn⟩ : ∃ x, x = (L[i]).2.n := ⟨_, rfl⟩; obtain ⟨ya, hya⟩ : ∃ x, x = (L[k]).2.a := ⟨_, rfl⟩; obtain ⟨yn, hyn⟩ : ∃ x, x = (L[k]).2.n := ⟨_, rfl⟩; rw [← hxa] at c1 hkx; rw [← hxn] at c2 hkx; rw [← hya] at d1 hky; rw [← hyn] at d2 hky
     have hik : (i : Int) < (n : Int) := by omega
     have hkk : (k : Int) < (n : Int) := by omega
     have hnext : ¬ (xa = ya ∧ xn = yn) → ∀ (j : Nat) (hj : j < L.length), j < i + 1 → keyE L[j].2 ≠ keyE (L[k]'hkl).2 := fun hne j hj hji => by
      by_cases e : j = i
      ·subst e
       rw [hkx, hky]; intro h; injection h with h1 h2; exact hne ⟨h1, h2⟩
      ·exact HJ.out j hj (by omega)
     have HNX := Lib.hid hnext; clear hc hxa hxn hya hyn hkx hky hnext
     by_cases h0 : xa = ya
     ·subst h0
      by_cases h1 : xn = yn
      ·subst h1
       clear HNX; go_wp2_with fail
       go_quiet (fail)
       go_wp2_with fail; go_ret; exact ⟨false, rfl, (fun h => by cases h), HB1.out.trans ((bel_drewN HBM.out _).mono HB1.out.size)⟩
      ·have f1 : (xn == yn) = false := by simpa using h1
       have HN2 := Lib.hid (HNX.out fun h => h1 h.2); clear HNX h1; go_wp2_with fail
       go_quiet (fail)
       go_wp2_with fail; go_roundw
       case rel => exact ⟨i + 1, by omega, by go_num, HN2.out, bel_drewN HBM.out _⟩
       case measure => simp [intOf]; omega
     ·have f0 : (xa == ya) = false := by simpa using h0
      have HN2 := Lib.hid (HNX.out fun h => h0 h.1); clear HNX h0; go_wp2_with fail
      go_quiet (fail)
      go_wp2_with fail; go_roundw
      case rel => exact ⟨i + 1, by omega, by go_num, HN2.out, bel_drewN HBM.out _⟩
      case measure => simp [intOf]; omega
    ·obtain rfl : i = k := by omega
     have HI2 : Hid (∀ (a j : Nat) (ha : a < L.length) (hj : j < L.length), a < j → j < i + 1 → keyE L[a].2 ≠ keyE L[j].2) := fun a j ha hj haj hji => by
      by_cases e : j = i
      ·subst e; exact HJ.out a ha haj
      ·exact HI.out a j ha hj haj (by omega)
     go_wp2_with fail; go_roundw
     case rel => exact ⟨i + 1, by omega, by go_num, HI2.out, HBM.out⟩
     case measure => simp [intOf]; omega
  ·obtain rfl : k = n := by omega
   have HON : Hid (OnceT t) := once_of HT.out (by
    rw [HLL.out]
    exact fun i j hi hj hij => HI.out i j hi hj hij (by rw [← HLN.out]; exact hj))
   go_wp2_with fail; go_ret; exact ⟨true, rfl, fun _ => HON.out, HB1.out.trans (HBL.out.mono HB1.out.size)⟩
end Cs
end Go.Proofs.YtemilfojnecldaaGreat
namespace Go.Proofs.YtemilfojnecldaaGreat
open Go.ChangeShapes Go.WideShapes Go.ChangeAt Go.RowKit
namespace Cs
open Tr Cx Sp Rw Classical
set_option maxRecDepth 100000
theorem texts_of_trod {H : Type} {enc : TypeId × Value → H} {W : World} {b0 : Nat} {v : Value} {d : DataW H} {p : List MemPlace}
  (hv : Value.okWide Tryz.prog W .any b0 53 v) (h : DataW.Trod enc Tryz.prog W 0 (fun _ => true) true 53 v d p) : ∃ s0 s1 : ByteArray, v = .agg #[.string s0, .string s1] := by
 obtain ⟨cs, rfl, hsz⟩ : ∃ cs, v = .agg cs ∧ cs.size = Tryz.prog.cellsOf 53 := by
  simp only [Value.okWide, Tryz.underlying53] at hv; obtain ⟨cs, h1, h2, _⟩ := hv; exact ⟨cs, h1, h2⟩
 have hc : Tryz.prog.cellsOf 53 = 2 := by kernel_rfl
 have hci : Tryz.prog.cellsOf 9 = 1 := by kernel_rfl
 rw [hc] at hsz
 obtain ⟨c0, c1, rfl⟩ : ∃ c0 c1, cs = #[c0, c1] := by
  match cs, hsz with
  | ⟨[c0, c1]⟩, _ => exact ⟨_, _, rfl⟩
 obtain ⟨fuel, hf⟩ := h; have hf : DataW.trod enc Tryz.prog W 0 (fun _ => true) true fuel 53 [c0, c1] = some (d, p) := hf; obtain ⟨xs, m, _, _, hlen, hn, hf⟩ := DataW.trod_array Tryz.underlying53 hf; rw [hci] at hf
 match xs, hn with
 | [y0, y1], _ =>
  have h0 := hf 0 (by omega); have h1 := hf 1 (by omega)
  simp at h0 h1
  obtain ⟨s0, e0, _, _⟩ := DataW.trod_string Tryz.underlying9 h0; obtain ⟨s1, e1, _, _⟩ := DataW.trod_string Tryz.underlying9 h1
  simp at e0 e1
  subst e0; subst e1; exact ⟨s0, s1, rfl⟩
theorem dot1_of_trod {H : Type} {enc : TypeId × Value → H} {W : World} {fuel : Nat} {c0 c1 : Value} {y : DataW H × List MemPlace} (hy : DataW.trod enc Tryz.prog W 0 (fun _ => true) true fuel 27 [c0, c1] = some y) : ∃ a n : Int, c0 = .int .i64 a ∧ c1 = .int .i64 n := by
 obtain ⟨y0, y1, m, _, hlen, h0, h1⟩ := trod_struct2 Tryz.underlying27 hy
 have hci : Tryz.prog.cellsOf 3 = 1 := by kernel_rfl
 have hcj : Tryz.prog.cellsOf 2 = 1 := by kernel_rfl
 simp only [hci, hcj] at h0 h1; obtain ⟨a, e0, _, w0⟩ := DataW.trod_int Tryz.underlying3 h0; obtain ⟨b, e1, _, w1⟩ := DataW.trod_int Tryz.underlying2 h1
 simp at e0 e1
 exact ⟨a, b, e0, e1⟩
theorem dots3_of_trod {H : Type} {enc : TypeId × Value → H} {W : World} {b0 : Nat} {v : Value} {d : DataW H} {p : List MemPlace}
  (hv : Value.okWide Tryz.prog W .any b0 54 v) (h : DataW.Trod enc Tryz.prog W 0 (fun _ => true) true 54 v d p) : ∃ a n b m c j : Int, v = .agg #[.int .i64 a, .int .i64 n, .int .i64 b, .int .i64 m, .int .i64 c, .int .i64 j] := by
 obtain ⟨cs, rfl, hsz⟩ : ∃ cs, v = .agg cs ∧ cs.size = Tryz.prog.cellsOf 54 := by
  simp only [Value.okWide, Tryz.underlying54] at hv; obtain ⟨cs, h1, h2, _⟩ := hv; exact ⟨cs, h1, h2⟩
 have hc : Tryz.prog.cellsOf 54 = 6 := by kernel_rfl
 have hci : Tryz.prog.cellsOf 27 = 2 := by kernel_rfl
 rw [hc] at hsz
 obtain ⟨c0, c1, c2, c3, c4, c5, rfl⟩ : ∃ c0 c1 c2 c3 c4 c5, cs = #[c0, c1, c2, c3, c4, c5] := by
  match cs, hsz with
  | ⟨[c0, c1, c2, c3, c4, c5]⟩, _ => exact ⟨_, _, _, _, _, _, rfl⟩
 obtain ⟨fuel, hf⟩ := h; have hf : DataW.trod enc Tryz.prog W 0 (fun _ => true) true fuel 54 [c0, c1, c2, c3, c4, c5] = some (d, p) := hf; obtain ⟨xs, k, _, _, hlen, hn, hf⟩ := DataW.trod_array Tryz.underlying54 hf; rw [hci] at hf
 match xs, hn with
 | [y0, y1, y2], _ =>
  have h0 := hf 0 (by omega); have h1 := hf 1 (by omega); have h2 := hf 2 (by omega)
  simp at h0 h1 h2
  obtain ⟨a, n, rfl, rfl⟩ := dot1_of_trod h0; obtain ⟨b, m, rfl, rfl⟩ := dot1_of_trod h1; obtain ⟨c, j, rfl, rfl⟩ := dot1_of_trod h2; exact ⟨a, n, b, m, c, j, rfl⟩
end Cs
end Go.Proofs.YtemilfojnecldaaGreat
