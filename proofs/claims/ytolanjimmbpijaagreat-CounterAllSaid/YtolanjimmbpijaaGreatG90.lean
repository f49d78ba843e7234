/- Texts of the lower layers, and of layer 9, put together. -/
import Derived.Test.YtolanjimmbpijaaGreatG00
import Derived.Test.YtolanjimmbpijaaGreatTreeDots
import Derived.Test.YtolanjimmbpijaaGreatG20
import Derived.Test.YtolanjimmbpijaaGreatCauRight
import Derived.Test.YtolanjimmbpijaaGreatG10
import Derived.Test.YtolanjimmbpijaaGreatTreeRight
namespace Go.Proofs.YtolanjimmbpijaaGreat
namespace Cs
open Tr Cx Sp Rw Classical
def oneC (a n : Int) : List S3 := [(a, n, n)]
theorem part_oneC (a n d : Int) : Cx.part (oneC a n) d = if a = d then [(n, n)] else [] := by
 unfold oneC; rw [part_cons, part_nil]
theorem has_oneC (a n d m : Int) : hasC (oneC a n) d m = decide (d = a ∧ m = n) := by
 unfold hasC; rw [part_oneC]
 by_cases h : a = d
 ·rw [if_pos h, has_cons, has_nil, Bool.or_false]
  by_cases h2 : m = n
  ·rw [decide_eq_true (by omega), decide_eq_true ⟨h.symm, h2⟩]
  ·rw [decide_eq_false (by omega), decide_eq_false fun h3 => h2 h3.2]
 ·rw [if_neg h, has_nil, decide_eq_false fun h3 => h h3.1.symm]
theorem right_oneC {a n : Int} (h : Dt.rightB a n = true) : RightC (oneC a n) := by
 obtain ⟨hc, h1, h2⟩ := Cx.good_num (x := (a, n)) h; refine ⟨⟨hc.1, hc.2, trivial⟩, fun d _ => ?_⟩; rw [part_oneC]
 split
 ·exact ⟨h1, Int.le_refl _, h2, trivial⟩
 ·trivial
theorem of_oneC {a n : Int} (h : Dt.rightB a n = true) : OfC [(a, n)] (oneC a n) := ⟨right_oneC h, fun d m _ => by
 rw [has_oneC, decide_eq_true_iff, List.mem_singleton]; constructor
 ·rintro ⟨rfl, rfl⟩; rfl
 ·intro h; injection h with h1 h2; exact ⟨h1, h2⟩⟩
noncomputable def checkB (t : T) (a n : Int) : Bool := Tr.rightB 5 t && Dt.rightB a n && !decide ((a, n) ∈ dl t)
theorem check_iff {t : T} {a n : Int} : checkB t a n = true ↔ RightT 5 t ∧ Dt.rightB a n = true ∧ (a, n) ∉ dl t := by
 unfold checkB; rw [Bool.and_eq_true, Bool.and_eq_true, Tr.rightB_iff, Bool.not_eq_true', decide_eq_false_iff_not, and_assoc]
theorem has_dl {t : T} {u : List S3} (ht : RightT 5 t) (hu : OfC (dl t) u) (a n : Int) : hasC u a n = decide ((a, n) ∈ dl t) := by
 by_cases hd : Cen a
 ·by_cases h : (a, n) ∈ dl t
  ·rw [(hu.has a n hd).2 h, decide_eq_true h]
  ·rw [decide_eq_false h]
   cases h2 : hasC u a n with
   | false => rfl
   | true => exact absurd ((hu.has a n hd).1 h2) h
 ·rw [not_cen hu.right hd, decide_eq_false fun h => hd (good_num (x := (a, n)) (good_dl ht _ h)).1]
theorem known_right {t : T} {u : List S3} (ht : RightT 5 t) (hu : OfC (dl t) u) : RK (t, u) := ⟨ht, hu.right, fun x hx => by
 show hasC u x.2.a x.2.n = true; rw [has_dl ht hu]
 exact decide_eq_true (List.mem_map.2 ⟨x, hx, rfl⟩)⟩
theorem right_oneT {d : Nat} {e : E} (he : RightE e) : RightT (d + 1) (oneT e) := ⟨fun x hx => by
 rw [List.mem_singleton.1 hx]; exact he, by simp, by simp, by simp⟩
theorem nodes_one (e : E) : nodes (oneT e) = 1 := by unfold oneT; rw [nodes_mk]; rfl
theorem RK.ent_of {k : K} (h : RK k) (p : List ByteArray) (q : Int × Int) (o : Option (Option E)) (hs : Cs.st k p q = o) : entAt k.1 p q = o.join := by
 rw [← hs]
 cases h1 : hasC k.2 q.1 q.2 with
 | true => rw [st_some h1]; rfl
 | false => rw [st_none h1, h.unknown h1]; rfl
end Cs
end Go.Proofs.YtolanjimmbpijaaGreat
namespace Go.Proofs.YtolanjimmbpijaaGreat
namespace Cs
open Tr Cx Sp Rw Classical
def sumE (l : List E) : Int := (l.map fun e => e.v).sum
theorem sumE_nil : sumE [] = 0 := rfl
theorem sumE_cons (e : E) (l : List E) : sumE (e :: l) = e.v + sumE l := by unfold sumE; rw [List.map_cons, List.sum_cons]
theorem sumE_app (a b : List E) : sumE (a ++ b) = sumE a + sumE b := by unfold sumE; rw [List.map_append, List.sum_append_int]
theorem sumE_take {l : List E} {k : Nat} (h : k < l.length) : sumE (l.take (k + 1)) = sumE (l.take k) + l[k].v := by
 rw [List.take_succ_eq_append_getElem h, sumE_app, sumE_cons, sumE_nil, Int.add_zero]
theorem sumE_low {m : Int} : ∀ {l : List E}, (∀ e ∈ l, -m ≤ e.v ∧ e.v ≤ m) → -(m * l.length) ≤ sumE l ∧ sumE l ≤ m * l.length
 | [], _ => by simp [sumE_nil]
 | e :: l, h => by
  have h1 := h e (List.mem_cons_self); have h2 := sumE_low (l := l) fun x hx => h x (List.mem_cons_of_mem _ hx); rw [sumE_cons, List.length_cons]
  have h3 : m * ((l.length + 1 : Nat) : Int) = m * l.length + m := by rw [Int.natCast_add, Int.mul_add]; simp
  omega
noncomputable def insE (e : E) : List E → List E
 | [] => [e]
 | x :: l => if ltD (keyE e) (keyE x) then e :: x :: l else x :: insE e l
theorem insE_mem (e : E) : ∀ (l : List E) (x : E), x ∈ insE e l ↔ x = e ∨ x ∈ l
 | [], x => by simp [insE]
 | y :: l, x => by
  unfold insE
  split
  ·simp
  ·rw [List.mem_cons, insE_mem e l, List.mem_cons]
   constructor
   ·rintro (h | h | h)
    ·exact .inr (.inl h)
    ·exact .inl h
    ·exact .inr (.inr h)
   ·rintro (h | h | h)
    ·exact .inr (.inl h)
    ·exact .inl h
    ·exact .inr (.inr h)
theorem insE_sum (e : E) : ∀ l : List E, sumE (insE e l) = sumE l + e.v
 | [] => by unfold insE; rw [sumE_cons, sumE_nil]; omega
 | x :: l => by
  unfold insE
  split
  ·rw [sumE_cons, sumE_cons]; omega
  ·rw [sumE_cons, insE_sum e l, sumE_cons]; omega
theorem insE_len (e : E) : ∀ l : List E, (insE e l).length = l.length + 1
 | [] => rfl
 | x :: l => by
  unfold insE
  split
  ·rfl
  ·rw [List.length_cons, insE_len e l, List.length_cons]
theorem insE_rise (e : E) : ∀ l : List E, l.Pairwise (fun x y => ltD (keyE x) (keyE y)) → (∀ x ∈ l, keyE x ≠ keyE e) → (insE e l).Pairwise fun x y => ltD (keyE x) (keyE y)
 | [], _, _ => by simp [insE]
 | x :: l, h, hn => by
  obtain ⟨h1, h2⟩ := List.pairwise_cons.1 h; unfold insE
  split
  ·rename_i hlt
   refine List.pairwise_cons.2 ⟨fun y hy => ?_, h⟩
   rcases List.mem_cons.1 hy with rfl | hy
   ·exact hlt
   ·exact tot_dot.tr _ _ _ hlt (h1 y hy)
  ·rename_i hlt
   have hgt : ltD (keyE x) (keyE e) := by
    rcases tot_dot.tri (keyE e) (keyE x) with h3 | h3 | h3
    ·exact absurd h3 hlt
    ·exact absurd h3.symm (hn x (List.mem_cons_self))
    ·exact h3
   refine List.pairwise_cons.2 ⟨fun y hy => ?_, insE_rise e l h2 fun y hy => hn y (List.mem_cons_of_mem _ hy)⟩
   rcases (insE_mem e l y).1 hy with rfl | hy
   ·exact hgt
   ·exact h1 y hy
noncomputable def addT (t : T) (e : E) : T := .mk (insE e t.es) t.ks
theorem rise_es {d : Nat} {t : T} (h : RightT (d + 1) t) : t.es.Pairwise fun x y => ltD (keyE x) (keyE y) := by
 cases t
 exact upE h.2.1
theorem new_key {t : T} {e : E} (hn : ∀ p, entAt t p (keyE e) = none) {d : Nat} (h : RightT (d + 1) t) : ∀ x ∈ t.es, keyE x ≠ keyE e := fun x hx hk => by
 have h1 : entAt t [] (keyE x) = some x := (look_iff (key := keyE) tot_dot (rise_es h)).2 ⟨hx, rfl⟩; rw [hk, hn] at h1
 cases h1
theorem right_add {t : T} {e : E} {d : Nat} (h : RightT (d + 1) t) (he : RightE e) (hn : ∀ p, entAt t p (keyE e) = none) : RightT (d + 1) (addT t e) := by
 have hk := new_key hn h; have hr := insE_rise e t.es (rise_es h) hk
 cases t with
 | mk es ks =>
  refine ⟨fun x hx => ?_, ?_, h.2.2⟩
  ·rcases (insE_mem e es x).1 hx with rfl | hx
   ·exact he
   ·exact h.1 x hx
  ·exact hr.imp fun {x y} hxy => (ltE_iff.2 (by
    have h1 : ltD (x.a, x.n) (y.a, y.n) := hxy; unfold ltD at h1
    exact h1))
theorem entAt_add {t : T} {e : E} {d : Nat} (h : RightT (d + 1) t) (hn : ∀ p, entAt t p (keyE e) = none) (p : List ByteArray) (q : Int × Int) : entAt (addT t e) p q = if p = [] ∧ keyE e = q then some e else entAt t p q := by
 cases p with
 | nil =>
  show look keyE (insE e t.es) q = if _ then _ else look keyE t.es q
  have hr := insE_rise e t.es (rise_es h) (new_key hn h)
  by_cases hq : keyE e = q
  ·rw [if_pos ⟨rfl, hq⟩]
   exact (look_iff (key := keyE) tot_dot hr).2 ⟨(insE_mem _ _ _).2 (.inl rfl), hq⟩
  ·rw [if_neg fun h2 => hq h2.2]
   cases h1 : look keyE t.es q with
   | some x =>
    obtain ⟨h2, h3⟩ := (look_iff (key := keyE) tot_dot (rise_es h)).1 h1; exact (look_iff (key := keyE) tot_dot hr).2 ⟨(insE_mem _ _ _).2 (.inr h2), h3⟩
   | none =>
    refine look_none fun x hx hk => ?_
    rcases (insE_mem _ _ _).1 hx with rfl | hx
    ·exact hq hk
    ·have h4 := (look_iff (key := keyE) tot_dot (rise_es h)).2 ⟨hx, hk⟩
     rw [h1] at h4
     cases h4
 | cons k p =>
  rw [if_neg fun h2 => by cases h2.1]; rfl
theorem cnt_join {c r : K} {e : E} (hc : RK c) (he : RightE e) (hn : hasC c.2 e.a e.n = false) (h : IsJ c (oneT e, oneC e.a e.n) r) : r.1 = addT c.1 e := by
 have hno : ∀ p, entAt c.1 p (keyE e) = none := fun p => hc.unknown (q := keyE e) hn; have hx : RK (oneT e, oneC e.a e.n) := right_one (right_oneT he) (right_oneC he.1) (by rw [has_oneC]; exact decide_eq_true ⟨rfl, rfl⟩); refine tree_ext (d := 5) (.inl (h.right hc hx).tree) (.inl (right_add hc.tree he hno)) fun p q => ?_; rw [h.ent hc hx, entAt_add hc.tree hno, entAt_one]
 by_cases hpq : p = [] ∧ keyE e = q
 ·obtain ⟨rfl, rfl⟩ := hpq
  rw [if_pos ⟨rfl, rfl⟩, if_pos ⟨rfl, rfl⟩, hno, stE_right, if_neg]; show ¬ hasC c.2 e.a e.n = true; rw [hn]; simp
 ·rw [if_neg hpq, if_neg hpq]
  cases h1 : entAt c.1 p q with
  | none => rfl
  | some y =>
   rw [stE_left, if_neg]; have hky := entAt_key h1; show ¬ hasC (oneC e.a e.n) y.a y.n = true; rw [has_oneC, decide_eq_true_iff]; rintro ⟨h2, h3⟩
   have hq : keyE e = q := by rw [← hky]; unfold keyE; rw [h2, h3]
   rw [← hq, hno] at h1
   cases h1
theorem cnt_sum {c r : K} {e : E} (hc : RK c) (he : RightE e) (hn : hasC c.2 e.a e.n = false) (h : IsJ c (oneT e, oneC e.a e.n) r) : sumE r.1.es = sumE c.1.es + e.v ∧ r.1.es.length = c.1.es.length + 1 := by
 rw [cnt_join hc he hn h]; exact ⟨insE_sum _ _, insE_len _ _⟩
theorem one_right {e : E} (he : RightE e) : RK (oneT e, oneC e.a e.n) := right_one (right_oneT he) (right_oneC he.1) (by rw [has_oneC]; exact decide_eq_true ⟨rfl, rfl⟩)
end Cs
end Go.Proofs.YtolanjimmbpijaaGreat
namespace Go.Proofs.YtolanjimmbpijaaGreat
namespace Cs
open Tr Cx Sp Rw Classical
noncomputable def oneK (e : E) : K := (oneT e, oneC e.a e.n)
theorem put_one {a n : Int} (h : Dt.rightB a n = true) : PutC uniF [] (oneC a n) (oneC a n) := ⟨right_oneC h, fun d m _ => by
 show hasC (oneC a n) d m = (false || hasC (oneC a n) d m)
 rw [Bool.false_or]⟩
theorem stAll_none {l : List K} {p : List ByteArray} {q : Int × Int} (h : ∀ k ∈ l, Cs.st k p q = none) : stAll l p q = none := by
 induction l with
 | nil => rfl
 | cons k l ih =>
  show mx (Cs.st k p q) (stAll l p q) = none; rw [h k (List.mem_cons_self), ih fun x hx => h x (List.mem_cons_of_mem _ hx)]; rfl
theorem AllJ.hasno {l : List K} {x : K} (h : AllJ l x) {a n : Int} (hn : ∀ k ∈ l, hasC k.2 a n = false) : hasC x.2 a n = false := by
 cases h2 : hasC x.2 a n with
 | false => rfl
 | true =>
  have h3 : Cs.st x [] (a, n) = none := by
   rw [h.st]; exact stAll_none fun k hk => st_none (k := k) (q := (a, n)) (hn k hk)
  rw [st_some (k := x) (q := (a, n)) h2] at h3
  cases h3
theorem AllJ.front {l : List K} {x y k : K} (h : AllJ l x) (hk : RK k) (hj : IsJ k x y) : AllJ (k :: l) y := (AllJ.one hk).app h hj
def cA (k : Nat) : Int := ((k % 4 : Nat) : Int)
def cN (k : Nat) : Int := 1099511627776 - (k : Int)
theorem oneK_has (e : E) (a n : Int) : hasC (oneK e).2 a n = decide (a = e.a ∧ n = e.n) := has_oneC _ _ _ _
theorem oneK_right {e : E} (he : RightE e) : RK (oneK e) := one_right he
def sumL (l : List Int) (k : Nat) : Int := (l.take k).sum
theorem sumL_zero (l : List Int) : sumL l 0 = 0 := by unfold sumL; simp
theorem sumL_succ {l : List Int} {k : Nat} (h : k < l.length) : sumL l (k + 1) = sumL l k + l[k] := by
 unfold sumL; rw [List.take_succ_eq_append_getElem h, List.sum_append_int, List.sum_cons, List.sum_nil, Int.add_zero]
theorem sumL_low {m : Int} (hm : 0 ≤ m) : ∀ {l : List Int}, (∀ x ∈ l, -m ≤ x ∧ x ≤ m) → -(m * l.length) ≤ l.sum ∧ l.sum ≤ m * l.length
 | [], _ => by simp
 | x :: l, h => by
  have h1 := h x (List.mem_cons_self); have h2 := sumL_low hm (l := l) fun y hy => h y (List.mem_cons_of_mem _ hy); rw [List.sum_cons, List.length_cons]
  have h3 : m * ((l.length + 1 : Nat) : Int) = m * l.length + m := by rw [Int.natCast_add, Int.mul_add]; simp
  omega
theorem sumL_bound {l : List Int} (h : ∀ x ∈ l, -4294967296 ≤ x ∧ x ≤ 4294967296) (k : Nat) (hk : k ≤ 8) : -34359738368 ≤ sumL l k ∧ sumL l k ≤ 34359738368 := by
 have h1 := sumL_low (m := 4294967296) (by omega) (l := l.take k) fun e he => h e (List.mem_of_mem_take he)
 have h2 : (l.take k).length ≤ k := by rw [List.length_take]; omega
 unfold sumL; omega
structure Made (c : K) (l : List Int) (xs : List K) : Prop where
 each : ∀ (j : Nat) (h : j < xs.length) (h2 : j < l.length), xs[j] = oneK ⟨cA j, cN j, ⟨#[]⟩, l[j]⟩ ∧ RightE ⟨cA j, cN j, ⟨#[]⟩, l[j]⟩ ∧ hasC c.2 (cA j) (cN j) = false
theorem Made.nil (c : K) (l : List Int) : Made c l [] := ⟨fun j h _ => absurd h (Nat.not_lt_zero j)⟩
theorem Made.snoc {c : K} {l : List Int} {xs : List K} (h : Made c l xs) (hl : xs.length < l.length) {k : K} (hk : k = oneK ⟨cA xs.length, cN xs.length, ⟨#[]⟩, l[xs.length]⟩) (he : RightE ⟨cA xs.length, cN xs.length, ⟨#[]⟩, l[xs.length]⟩) (hn : hasC c.2 (cA xs.length) (cN xs.length) = false) : Made c l (xs ++ [k]) := ⟨fun j hj hj2 => by
 by_cases e : j < xs.length
 ·rw [List.getElem_append_left e]
  exact h.each j e hj2
 ·rw [List.length_append, List.length_singleton] at hj
  obtain rfl : j = xs.length := by omega
  rw [List.getElem_append_right (Nat.le_refl _)]; simp only [Nat.sub_self, List.getElem_cons_zero]
  exact ⟨hk, he, hn⟩⟩
theorem Made.right {c : K} {l : List Int} {xs : List K} (h : Made c l xs) (hl : xs.length ≤ l.length) (j : Nat) (hj : j < xs.length) : RK xs[j] := by
 obtain ⟨h1, h2, _⟩ := h.each j hj (by omega); rw [h1]; exact oneK_right h2
structure Fore (c : K) (l : List Int) (xs : List K) (k : Nat) (ka : K) : Prop where
 all : AllJ (c :: xs.take k) ka
 sum : sumE ka.1.es = sumE c.1.es + sumL l k
theorem Fore.zero {c : K} (hc : RK c) (l : List Int) (xs : List K) : Fore c l xs 0 c := ⟨by rw [List.take_zero]; exact AllJ.one hc, by rw [sumL_zero, Int.add_zero]⟩
theorem Fore.step {c : K} {l : List Int} {xs : List K} {k : Nat} {ka r : K} (hm : Made c l xs) (h : Fore c l xs k ka) (hk : k < xs.length) (hl : xs.length ≤ l.length) (hj : IsJ ka xs[k] r) : Fore c l xs (k + 1) r := by
 obtain ⟨h1, h2, h3⟩ := hm.each k hk (by omega); refine ⟨?_, ?_⟩
 ·rw [List.take_succ_eq_append_getElem hk, ← List.cons_append]
  exact h.all.snoc (hm.right hl k hk) hj
 ·have hno : hasC ka.2 (cA k) (cN k) = false := by
   refine h.all.hasno fun y hy => ?_
   rcases List.mem_cons.1 hy with rfl | hy
   ·exact h3
   ·obtain ⟨j, hj2, rfl⟩ := List.getElem_of_mem hy
    rw [List.length_take] at hj2; rw [List.getElem_take]; obtain ⟨g1, _, _⟩ := hm.each j (by omega) (by omega); rw [g1, oneK_has, decide_eq_false]; rintro ⟨_, e⟩; have e : cN k = cN j := e; unfold cN at e; omega
  rw [h1] at hj; have hs := (cnt_sum (e := ⟨cA k, cN k, ⟨#[]⟩, l[k]'(by omega)⟩) h.all.right h2 hno hj).1; rw [hs, h.sum, sumL_succ (by omega), Int.add_assoc]
theorem back_zero {c : K} (hc : RK c) (xs : List K) : AllJ (xs.drop (xs.length - 0) ++ [c]) c := by
 rw [Nat.sub_zero, List.drop_length, List.nil_append]; exact AllJ.one hc
theorem back_step {c : K} {xs : List K} {k : Nat} {kb r : K} (h : AllJ (xs.drop (xs.length - k) ++ [c]) kb) (hk : k < xs.length) (hx : RK (xs[xs.length - 1 - k]'(by omega))) (hj : IsJ (xs[xs.length - 1 - k]'(by omega)) kb r) : AllJ (xs.drop (xs.length - (k + 1)) ++ [c]) r := by
 have e : xs.drop (xs.length - (k + 1)) = (xs[xs.length - 1 - k]'(by omega)) :: xs.drop (xs.length - k) := by
  have h1 : xs.length - (k + 1) = xs.length - 1 - k := by omega
  have h2 : xs.length - k = xs.length - 1 - k + 1 := by omega
  rw [h1, h2, List.drop_eq_getElem_cons (by omega)]
 rw [e, List.cons_append]; exact h.front hx hj
theorem AllJ.turn {a : K} {l : List K} {x y : K} (h : AllJ (a :: l) x) (h2 : AllJ (l ++ [a]) y) : x = y := ext_st h.right h2.right fun p q => by
 rw [h.st, h2.st, stAll_append, stAll_one]; exact mx_comm (st_at a p q) (stAll_at l p q)
theorem both_ends {c ka kb : K} {l : List Int} {xs : List K} (h : Fore c l xs xs.length ka) (h2 : AllJ (xs.drop (xs.length - xs.length) ++ [c]) kb) : ka = kb := by
 have h1 := h.all; rw [List.take_length] at h1; rw [Nat.sub_self, List.drop_zero] at h2; exact h1.turn h2
end Cs
end Go.Proofs.YtolanjimmbpijaaGreat
set_option maxRecDepth 100000
set_option maxHeartbeats 4000000
namespace Go.Proofs.YtolanjimmbpijaaGreat
open Go.ChangeShapes Go.WideShapes Go.ChangeAt Go.RowKit
namespace Cs
open Tr Cx Sp Rw Classical
theorem small_v {t : T} (ht : RightT 5 t) : ∀ e ∈ t.es, -1099511627776 ≤ e.v ∧ e.v ≤ 1099511627776 := by
 cases t with
 | mk es ks => exact fun e he => ⟨(ht.1 e he).2.2.1, (ht.1 e he).2.2.2⟩
theorem sum_take {es : List E} (h : ∀ e ∈ es, -1099511627776 ≤ e.v ∧ e.v ≤ 1099511627776) (k : Nat) (hk : k ≤ 1000) : -1099511627776000 ≤ sumE (es.take k) ∧ sumE (es.take k) ≤ 1099511627776000 := by
 have h1 := sumE_low (m := 1099511627776) (l := es.take k) fun e he => h e (List.mem_of_mem_take he)
 have h2 : (es.take k).length ≤ k := by rw [List.length_take]; omega
 omega
theorem refsum_any (t : T) (Ae Ak : Option Addr) (ne nk ce ck : Nat) (w : World) (x : Int) (ht : RightT 5 t) (hx : sumE t.es = x) (hn : nodes t ≤ 999) (hr : RdT w w.heap.size t ⟨Ae, ne, ce⟩ ⟨Ak, nk, ck⟩) :
  Calls Tryz.prog 12 #[.agg #[.slice Ae ne ce, .slice Ak nk ck]] w fun e w' => e = .returned (.int .i64 x) ∧ Below w.heap.size w w' := by
 have hsv := small_v ht; clear ht
 cases t with
 | mk es ks =>
  obtain ⟨hle, hlk⟩ := rd_lens hr; have HR := Lib.hid hr; have HLE := Lib.hid hle; have HSV : Hid (∀ e ∈ es, -1099511627776 ≤ e.v ∧ e.v ≤ 1099511627776) := hsv
  have hnk : ne ≤ 999 := by have := nodes_es es ks; omega
  clear hle hlk hr hsv; have HXS : Hid (sumE es = x) := hx; clear hx hn; obtain ⟨g, hg⟩ : ∃ g, g = w.heap.size := ⟨_, rfl⟩; have HK := Lib.hid (tree_box w Ae Ak ne nk ce ck); rw [← hg] at HK; obtain ⟨W0, hW0⟩ : ∃ W, W = w.alloc (.cells #[.slice Ae ne ce, .slice Ak nk ck] 25) := ⟨_, rfl⟩; rw [← hW0] at HK; have HG := Lib.hid hg; have HW0 := Lib.hid hW0; have k0 := HK.out.c0; have k1 := HK.out.c1; clear hg hW0; go_enter Tryz.func12, Tryz.ntmps12; go_wp2_with fail; rw [← HG.out, ← HW0.out]; clear k0 k1
  go_loopw [3, 8] (fun s9 i wr => ∃ (k : Nat), k ≤ ne ∧ i = .int .i64 k ∧ s9 = .int .i64 (sumE (es.take k)) ∧ Hid (Kept [(⟨g, 0, none⟩, .slice Ae ne ce), (⟨g, 1, none⟩, .slice Ak nk ck)] w wr)) (fun _ i _ => ne - (intOf i).toNat)
  case atStart => exact ⟨0, by omega, rfl, rfl, HK.out⟩
  case round =>
   obtain ⟨k, hk, rfl, rfl, HKW⟩ := hrel; have k0 := HKW.out.c0; have k1 := HKW.out.c1
   by_cases hlt : k < ne
   ·have hkl : k < es.length := by rw [HLE.out]; exact hlt
    obtain ⟨b, o, rfl, hb, hc⟩ := rd_ent HR.out (by omega); obtain ⟨c0, c1, c2, c3⟩ := hc k hkl; have c0 := (HKW.out.below.cell (p := ⟨b, o + k * 4, none⟩) hb).trans c0; have c1 := (HKW.out.below.cell (p := ⟨b, o + k * 4 + 1, none⟩) hb).trans c1; have c2 := (HKW.out.below.cell (p := ⟨b, o + k * 4 + 2, none⟩) hb).trans c2; have c3 := (HKW.out.below.cell (p := ⟨b, o + k * 4 + 3, none⟩) hb).trans c3; obtain ⟨s1, hs1⟩ : ∃ s : Int, sumE (es.take k) = s := ⟨_, rfl⟩; obtain ⟨s2, hs2⟩ : ∃ s : Int, sumE (es.take (k + 1)) = s := ⟨_, rfl⟩; have hst := sumE_take hkl; have hlo := sum_take HSV.out k (by omega); have hhi := sum_take HSV.out (k + 1) (by omega); have hee := HSV.out _ (List.getElem_mem hkl); obtain ⟨v, hv⟩ : ∃ v : Int, (es[k]).v = v := ⟨_, rfl⟩; rw [hv] at c3 hst hee; rw [hs1] at hst hlo ⊢; rw [hs2] at hst hhi
    have hw : IntKind.i64.wrap (s1 + v) = s2 := by rw [IntKind.wrap_i64]; omega
    have HS2 := Lib.hid hs2; clear hs1 hs2 hst hlo hhi hee hv hc

    go_wp2_with fail; go_roundw
    case rel => exact ⟨k + 1, by omega, by go_num, by rw [HS2.out], HKW.out⟩
    case measure => simp [intOf]; omega
   ·obtain rfl : k = ne := by omega
    have hsum : sumE (es.take k) = x := by rw [← HXS.out, List.take_of_length_le (by rw [HLE.out]; omega)]
    rw [hsum]; clear hsum; go_wp2_with fail; go_ret; exact ⟨rfl, HKW.out.below⟩
theorem value_any (t : T) (Ae Ak : Option Addr) (ne nk ce ck : Nat) (w : World) (x : Int) (hx : (if Tr.rightB 5 t = true then sumE t.es else 0) = x) (hl : LenT reachBytes t) (hn : nodes t ≤ 999) (hr : RdT w w.heap.size t ⟨Ae, ne, ce⟩ ⟨Ak, nk, ck⟩) :
  Calls Tryz.prog 11 #[.agg #[.slice Ae ne ce, .slice Ak nk ck]] w fun e w' => e = .returned (.int .i64 x) ∧ Below w.heap.size w w' := by
 have HR0 := Lib.hid hr; have HL := Lib.hid hl; have HX := Lib.hid hx; clear hx hl; obtain ⟨g, hg⟩ : ∃ g, g = w.heap.size := ⟨_, rfl⟩; have HK := Lib.hid (tree_box w Ae Ak ne nk ce ck); rw [← hg] at HK; obtain ⟨W0, hW0⟩ : ∃ W, W = w.alloc (.cells #[.slice Ae ne ce, .slice Ak nk ck] 25) := ⟨_, rfl⟩; rw [← hW0] at HK; have HG := Lib.hid hg; have HW0 := Lib.hid hW0; have k0 := HK.out.c0; have k1 := HK.out.c1; clear hg hW0; have HC := Lib.hid (rightT_any t Ae Ak ne nk ce ck W0 HL.out (RdT.more HK.out.below.size _ (RdT.below HR0.out HK.out.below))); obtain ⟨y, hy⟩ : ∃ y, Tr.rightB 5 t = y := ⟨_, rfl⟩; rw [hy] at HC HX; have HY := Lib.hid hy; clear hy; go_enter Tryz.func11, Tryz.ntmps11; go_wp2_with fail; rw [← HG.out, ← HW0.out]; refine HC.out.mono ?_; rintro e v1 ⟨rfl, hb9⟩; have HKv := Lib.hid (HK.out.later hb9); clear hb9 k0 k1 HC
 have k0 := HKv.out.c0; have k1 := HKv.out.c1
 cases y with
 | false =>
  obtain rfl : x = 0 := HX.out.symm; go_wp2_with fail; go_ret; exact ⟨rfl, HKv.out.below⟩
 | true =>
  have hsv := small_v (Tr.rightB_iff.1 HY.out); clear HY
  cases t with
  | mk es ks =>
   obtain ⟨hle, hlk⟩ := rd_lens hr; have HR := Lib.hid hr; have HLE := Lib.hid hle; have HSV : Hid (∀ e ∈ es, -1099511627776 ≤ e.v ∧ e.v ≤ 1099511627776) := hsv
   have hnk : ne ≤ 999 := by have := nodes_es es ks; omega
   clear hle hlk hr hsv; have HXS : Hid (sumE es = x) := HX.out; clear HX; clear hn; go_wp2_with fail; clear k0 k1
   go_loopw [3, 12] (fun s9 i wr => ∃ (k : Nat), k ≤ ne ∧ i = .int .i64 k ∧ s9 = .int .i64 (sumE (es.take k)) ∧ Hid (Kept [(⟨g, 0, none⟩, .slice Ae ne ce), (⟨g, 1, none⟩, .slice Ak nk ck)] w wr)) (fun _ i _ => ne - (intOf i).toNat)
   case atStart => exact ⟨0, by omega, rfl, rfl, HKv.out⟩
   case round =>
    obtain ⟨k, hk, rfl, rfl, HKW⟩ := hrel; have k0 := HKW.out.c0; have k1 := HKW.out.c1
    by_cases hlt : k < ne
    ·have hkl : k < es.length := by rw [HLE.out]; exact hlt
     obtain ⟨b, o, rfl, hb, hc⟩ := rd_ent HR.out (by omega); obtain ⟨c0, c1, c2, c3⟩ := hc k hkl; have c0 := (HKW.out.below.cell (p := ⟨b, o + k * 4, none⟩) hb).trans c0; have c1 := (HKW.out.below.cell (p := ⟨b, o + k * 4 + 1, none⟩) hb).trans c1; have c2 := (HKW.out.below.cell (p := ⟨b, o + k * 4 + 2, none⟩) hb).trans c2; have c3 := (HKW.out.below.cell (p := ⟨b, o + k * 4 + 3, none⟩) hb).trans c3; obtain ⟨s1, hs1⟩ : ∃ s : Int, sumE (es.take k) = s := ⟨_, rfl⟩; obtain ⟨s2, hs2⟩ : ∃ s : Int, sumE (es.take (k + 1)) = s := ⟨_, rfl⟩; have hst := sumE_take hkl; have hlo := sum_take HSV.out k (by omega); have hhi := sum_take HSV.out (k + 1) (by omega); have hee := HSV.out _ (List.getElem_mem hkl); obtain ⟨v, hv⟩ : ∃ v : Int, (es[k]).v = v := ⟨_, rfl⟩; rw [hv] at c3 hst hee; rw [hs1] at hst hlo ⊢; rw [hs2] at hst hhi
     have hw : IntKind.i64.wrap (s1 + v) = s2 := by rw [IntKind.wrap_i64]; omega
     have HS2 := Lib.hid hs2; clear hs1 hs2 hst hlo hhi hee hv hc

     go_wp2_with fail; go_roundw
     case rel => exact ⟨k + 1, by omega, by go_num, by rw [HS2.out], (HKW.out.alloc _)⟩
     case measure => simp [intOf]; omega
    ·obtain rfl : k = ne := by omega
     have hsum : sumE (es.take k) = x := by rw [← HXS.out, List.take_of_length_le (by rw [HLE.out]; omega)]
     rw [hsum]; clear hsum; go_wp2_with fail; go_ret; exact ⟨rfl, HKW.out.below⟩
end Cs
end Go.Proofs.YtolanjimmbpijaaGreat
