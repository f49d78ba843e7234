/- Texts of the lower layers, and of layer 9, put together. -/
import Derived.Test.YtnlojpolfkjkoaaGreatG00
import Derived.Test.YtnlojpolfkjkoaaGreatTreeDots
import Derived.Test.YtnlojpolfkjkoaaGreatG20
import Derived.Test.YtnlojpolfkjkoaaGreatCauRight
import Derived.Lib.OwnBridge
import Derived.Test.YtnlojpolfkjkoaaGreatG10
namespace Go.Proofs.YtnlojpolfkjkoaaGreat
namespace Cs
open Tr Cx Sp Rw Classical
theorem cen_of {a n : Int} (h : Dt.rightB a n = true) : Cen a := (good_num (x := (a, n)) h).1
def oneC (a n : Int) : List S3 := [(a, n, n)]
theorem part_oneC (a n d : Int) : Cx.part (oneC a n) d = if a = d then [(n, n)] else [] := by
 unfold oneC; rw [part_cons, part_nil]
theorem has_oneC (a n d m : Int) : hasC (oneC a n) d m = decide (d = a ∧ m = n) := by
 unfold hasC; rw [part_oneC]
 by_cases h : a = d
 ·rw [if_pos h, has_cons, has_nil, Bool.or_false]
  by_cases h2 : m = n
  ·rw [decide_eq_true (by omega), decide_eq_true ⟨h.symm, h2⟩]
  ·rw [decide_eq_false (by omega), decide_eq_false fun h3 => h2 h3.2]
 ·rw [if_neg h, has_nil, decide_eq_false fun h3 => h h3.1.symm]
theorem right_oneC {a n : Int} (h : Dt.rightB a n = true) : RightC (oneC a n) := by
 obtain ⟨hc, h1, h2⟩ := Cx.good_num (x := (a, n)) h; refine ⟨⟨hc.1, hc.2, trivial⟩, fun d _ => ?_⟩; rw [part_oneC]
 split
 ·exact ⟨h1, Int.le_refl _, h2, trivial⟩
 ·trivial
theorem of_oneC {a n : Int} (h : Dt.rightB a n = true) : OfC [(a, n)] (oneC a n) := ⟨right_oneC h, fun d m _ => by
 rw [has_oneC, decide_eq_true_iff, List.mem_singleton]; constructor
 ·rintro ⟨rfl, rfl⟩; rfl
 ·intro h; injection h with h1 h2; exact ⟨h1, h2⟩⟩
noncomputable def checkB (t : T) (a n : Int) : Bool := Tr.rightB 5 t && Dt.rightB a n && !decide ((a, n) ∈ dl t)
theorem check_iff {t : T} {a n : Int} : checkB t a n = true ↔ RightT 5 t ∧ Dt.rightB a n = true ∧ (a, n) ∉ dl t := by
 unfold checkB; rw [Bool.and_eq_true, Bool.and_eq_true, Tr.rightB_iff, Bool.not_eq_true', decide_eq_false_iff_not, and_assoc]
theorem has_dl {t : T} {u : List S3} (ht : RightT 5 t) (hu : OfC (dl t) u) (a n : Int) : hasC u a n = decide ((a, n) ∈ dl t) := by
 by_cases hd : Cen a
 ·by_cases h : (a, n) ∈ dl t
  ·rw [(hu.has a n hd).2 h, decide_eq_true h]
  ·rw [decide_eq_false h]
   cases h2 : hasC u a n with
   | false => rfl
   | true => exact absurd ((hu.has a n hd).1 h2) h
 ·rw [not_cen hu.right hd, decide_eq_false fun h => hd (good_num (x := (a, n)) (good_dl ht _ h)).1]
theorem known_right {t : T} {u : List S3} (ht : RightT 5 t) (hu : OfC (dl t) u) : RK (t, u) := ⟨ht, hu.right, fun x hx => by
 show hasC u x.2.a x.2.n = true; rw [has_dl ht hu]
 exact decide_eq_true (List.mem_map.2 ⟨x, hx, rfl⟩)⟩
theorem uni_has {u v : List S3} {a n : Int} (hu : RightC u) (hd : Dt.rightB a n = true) (hv : PutC uniF u (oneC a n) v) (d m : Int) : hasC v d m = (hasC u d m || decide (d = a ∧ m = n)) := by
 by_cases h : Cen d
 ·rw [hv.has d m h, has_oneC]; rfl
 ·rw [not_cen hv.right h, not_cen hu h, decide_eq_false fun h2 => h (by rw [h2.1]; exact cen_of hd)]; rfl
theorem uni_self {u v : List S3} {a n : Int} (hu : RightC u) (hd : Dt.rightB a n = true) (hv : PutC uniF u (oneC a n) v) : hasC v a n = true := by
 rw [uni_has hu hd hv, decide_eq_true ⟨rfl, rfl⟩, Bool.or_true]
theorem right_oneT {d : Nat} {e : E} (he : RightE e) : RightT (d + 1) (oneT e) := ⟨fun x hx => by
 rw [List.mem_singleton.1 hx]; exact he, by simp, by simp, by simp⟩
theorem nodes_one (e : E) : nodes (oneT e) = 1 := by unfold oneT; rw [nodes_mk]; rfl
theorem RK.ent_of {k : K} (h : RK k) (p : List ByteArray) (q : Int × Int) (o : Option (Option E)) (hs : Cs.st k p q = o) : entAt k.1 p q = o.join := by
 rw [← hs]
 cases h1 : hasC k.2 q.1 q.2 with
 | true => rw [st_some h1]; rfl
 | false => rw [st_none h1, h.unknown h1]; rfl
end Cs
end Go.Proofs.YtnlojpolfkjkoaaGreat
namespace Go.Proofs.YtnlojpolfkjkoaaGreat
namespace Cs
open Tr Cx Sp Rw Classical
theorem rise_ext {l m : List ByteArray} (hl : l.Pairwise ltS) (hm : m.Pairwise ltS) (h : ∀ x, x ∈ l ↔ x ∈ m) : l = m := by
 refine up_ext (key := id) tot_str hl hm fun k => ?_
 by_cases hk : k ∈ l
 ·rw [show look id l k = some k from (look_iff (key := id) tot_str hl).2 ⟨hk, rfl⟩, show look id m k = some k from (look_iff (key := id) tot_str hm).2 ⟨(h k).1 hk, rfl⟩]
 ·rw [show look id l k = none from look_none fun x hx e => hk (by rw [← show x = k from e]; exact hx), show look id m k = none from look_none fun x hx e => hk (by rw [← show x = k from e]; exact (h x).2 hx)]
structure SortIs (l m : List ByteArray) : Prop where
 rise : m.Pairwise ltS
 mem : ∀ x, x ∈ m ↔ x ∈ l
theorem SortIs.eq {l m m' : List ByteArray} (h : SortIs l m) (h' : SortIs l m') : m = m' := rise_ext h.rise h'.rise fun x => (h.mem x).trans (h'.mem x).symm
theorem dl_ent {d : Nat} {t : T} (h : RightT d t) {q : Int × Int} (hq : q ∈ dl t) : ∃ p e, entAt t p q = some e := by
 obtain ⟨x, hx, rfl⟩ := List.mem_map.1 hq; exact ⟨x.1, x.2, (leaf_iff h x.1 x.2).1 hx⟩
theorem st_unknown {k : K} {p : List ByteArray} {q : Int × Int} (h : hasC k.2 q.1 q.2 = false) : Cs.st k p q = none := st_none h
theorem not_in_all {c x y r : K} {q : Int × Int} (h1 : hasC c.2 q.1 q.2 = false) (h2 : hasC x.2 q.1 q.2 = false) (h3 : hasC y.2 q.1 q.2 = false) (hr : RK r) (h : ∀ p q, Cs.st r p q = mx (Cs.st c p q) (mx (Cs.st x p q) (Cs.st y p q))) : q ∉ dl r.1 := by
 intro hin; obtain ⟨p, e, he⟩ := dl_ent hr.tree hin; have h4 := hr.known he; have h5 := h p q; rw [st_unknown h1, st_unknown h2, st_unknown h3, st_some h4, he] at h5
 cases h5
end Cs
end Go.Proofs.YtnlojpolfkjkoaaGreat
namespace Go.Proofs.YtnlojpolfkjkoaaGreat
open Go.ChangeShapes Go.WideShapes Go.ChangeAt Go.RowKit Go.Shelf Go.Sort
namespace Cs
open Tr Cx Sp Rw Classical
theorem up_mem {α : Type} [Inhabited α] [DecidableEq α] (d : Array α) : ∀ m j, j < m → d[j]! ∈ Lib.compactUpTo d m
 | 0, j, h => absurd h (by omega)
 | m + 1, j, h => by
  rw [Lib.compactUpTo_succ, List.mem_append]
  by_cases hj : j < m
  ·exact .inl (up_mem d m j hj)
  ·obtain rfl : j = m := by omega
   cases hk : Lib.keeps d j with
   | true => exact .inr (by simp)
   | false =>
    have h1 : ¬ (j = 0 ∨ d[j]! ≠ d[j - 1]!) := of_decide_eq_false hk; have h2 : j ≠ 0 := fun e => h1 (.inl e); have h3 : d[j]! = d[j - 1]! := Classical.byContradiction fun e => h1 (.inr e); rw [h3]; exact .inl (up_mem d j (j - 1) (by omega))
theorem up_of {α : Type} [Inhabited α] [DecidableEq α] {d : Array α} {m : Nat} {x : α} (h : x ∈ Lib.compactUpTo d m) : ∃ j, j < m ∧ x = d[j]! := by
 unfold Lib.compactUpTo at h; obtain ⟨j, hj, rfl⟩ := List.mem_map.1 h; exact ⟨j, List.mem_range.1 (List.mem_filter.1 hj).1, rfl⟩
theorem up_rise (d : Array (List UInt8)) (hs : ∀ i j, i < j → j < d.size → Op.bytesLess d[j]! d[i]! = false) : ∀ m, m ≤ d.size → (Lib.compactUpTo d m).Pairwise fun a b => Op.bytesLess a b = true
 | 0, _ => by simp [Lib.compactUpTo]
 | m + 1, h => by
  rw [Lib.compactUpTo_succ, List.pairwise_append]
  refine ⟨up_rise d hs m (by omega), by split <;> simp, fun a ha b hb => ?_⟩
  obtain ⟨j, hj, rfl⟩ := up_of ha
  cases hk : Lib.keeps d m with
  | false => rw [hk] at hb; simp at hb
  | true =>
   rw [hk] at hb
   obtain rfl : b = d[m]! := by simpa using hb
   have h1 : d[m]! ≠ d[m - 1]! := by
    have h2 : m = 0 ∨ d[m]! ≠ d[m - 1]! := of_decide_eq_true hk
    rcases h2 with h2 | h2
    ·omega
    ·exact h2
   have h5 := hs j m hj (by omega)
   rcases bytesLess_tri d[j]! d[m]! with h2 | h2 | h2
   ·exact h2
   ·exfalso
    by_cases hjm : j = m - 1
    ·rw [hjm] at h2; exact h1 h2.symm
    ·have h3 := hs j (m - 1) (by omega) (by omega)
     have h4 := hs (m - 1) m (by omega) (by omega); rw [h2] at h3
     rcases bytesLess_tri d[m]! d[m - 1]! with h6 | h6 | h6
     ·rw [h6] at h4; cases h4
     ·exact h1 h6
     ·rw [h6] at h3; cases h3
   ·rw [h2] at h5; cases h5
def cmpS (l : List ByteArray) : List ByteArray := (Lib.compact (l.map toL)).map ofL
theorem cmpS_len (l : List ByteArray) : (cmpS l).length ≤ l.length := by
 unfold cmpS; rw [List.length_map]; exact Nat.le_trans (Lib.compact_length_le _) (by rw [List.length_map]; exact Nat.le_refl _)
theorem mem_compact' {zs : List (List UInt8)} {x : List UInt8} : x ∈ Lib.compact zs ↔ x ∈ zs := by
 unfold Lib.compact; constructor
 ·intro h
  obtain ⟨j, hj, rfl⟩ := up_of h; rw [show zs.toArray[j]! = zs[j] from by simp [hj]]; exact List.getElem_mem hj
 ·intro h
  obtain ⟨j, hj, rfl⟩ := List.getElem_of_mem h; have h2 := up_mem zs.toArray zs.length j hj
  rwa [show zs.toArray[j]! = zs[j] from by simp [hj]] at h2
theorem cmpS_mem {l : List ByteArray} {x : ByteArray} : x ∈ cmpS l ↔ x ∈ l := by
 unfold cmpS; constructor
 ·intro h
  obtain ⟨y, hy, rfl⟩ := List.mem_map.1 h; obtain ⟨z, hz, rfl⟩ := List.mem_map.1 (mem_compact'.1 hy); rw [of_to]; exact hz
 ·intro h
  exact List.mem_map.2 ⟨toL x, mem_compact'.2 (List.mem_map.2 ⟨x, h, rfl⟩), of_to x⟩
theorem cmpS_rise {l : List ByteArray} (h : l.Pairwise fun a b => ¬ ltS b a) : (cmpS l).Pairwise ltS := by
 unfold cmpS; rw [List.pairwise_map]
 have h1 := up_rise (l.map toL).toArray (fun i j hij hj => by
  have hj2 : j < l.length := by simpa using hj
  have hi2 : i < l.length := by omega
  have h2 := List.pairwise_iff_getElem.1 h i j hi2 hj2 hij; rw [show (l.map toL).toArray[j]! = toL l[j] from by simp [hj2], show (l.map toL).toArray[i]! = toL l[i] from by simp [hi2]]
  cases h3 : Op.bytesLess (toL l[j]) (toL l[i]) with
  | false => rfl
  | true =>
   refine absurd ?_ h2; unfold ltS; rw [ByteArray.toList_eq, ByteArray.toList_eq]
   exact h3) (l.map toL).length (by simp)
 refine List.Pairwise.imp (fun {a b} h2 => ?_) h1; unfold ltS; rw [ByteArray.toList_eq, ByteArray.toList_eq]; show Op.bytesLess (toL (ofL a)) (toL (ofL b)) = true; rw [to_of, to_of]; exact h2
theorem cmpS_is (l : List ByteArray) : SortIs l (cmpS (sortS l)) := ⟨cmpS_rise (sortS_rise l), fun x => cmpS_mem.trans sortS_mem⟩
theorem cmpS_own (l : List ByteArray) (n m : Nat) (A : Option Addr) (c base : Nat) (w : World) (hl : l.length = n) (hm : (cmpS l).length = m) (hn : n ≤ 900000) (ho : Own w base 9 1 A n c (strs l)) :
  Calls Tryz.prog 36 #[.slice A n c] w fun e w' => e = .returned (.slice A m c) ∧ Own w' base 9 1 A m c (strs (cmpS l)) ∧ Below base w w' := by
 rcases Nat.eq_zero_or_pos n with h0 | h0
 ·subst h0
  have : l = [] := List.eq_nil_of_length_eq_zero hl; subst this; have e0 : cmpS [] = [] := List.eq_nil_of_length_eq_zero (Nat.le_zero.1 (cmpS_len []))
  obtain rfl : m = 0 := by rw [← hm, e0]; rfl
  refine (Go.Proofs.AnyG.slices_Compact_string_empty compS_lay A c w).mono ?_; rintro e w' ⟨rfl, rfl⟩; exact ⟨rfl, by rw [e0]; exact ho, Below.refl _ _⟩
 ·subst hl
  rcases ho.row.2 with ⟨_, h⟩ | ⟨g, cap, cur, hv, hg, hh, h1, h2, h3, h4⟩
  ·omega
  ·injection hv with e1 _ e3
   subst e1; subst e3; rw [Nat.mul_one, strs_enc] at h4; have hs := Go.Proofs.AnyG.slices_Compact_string compS_lay g 0 c (l.map toL) w (holds_of_block hh (by simpa using h4)) (by rw [List.length_map]; omega) (by rw [List.length_map]; exact h1)
   have hmm : (Lib.compact (l.map toL)).length = m := by rw [← hm]; unfold cmpS; rw [List.length_map]
   rw [List.length_map, hmm] at hs; refine hs.mono ?_; rintro e w' ⟨rfl, q, rfl⟩; refine ⟨rfl, ⟨?_, strs_one _⟩, Lib.below_putRow (Below.refl _ _) hg⟩; have hr := ho.row; rw [strs_enc] at hr
   have hle : m ≤ l.length := by rw [← hm]; exact cmpS_len l
   have h5 := Lib.ownsRow_putRow (q := q) (k := m) (ys := Lib.compact (l.map toL) ++ List.replicate (l.length - m) []) hr (by simp; omega) hle; rw [← hmm, List.take_left] at h5; rw [hmm] at h5
   have e6 : Tr.strs (cmpS l) = (Lib.compact (l.map toL)).map encStr := by
    unfold Tr.strs cmpS; rw [List.map_map]; rfl
   rw [e6]; exact h5
end Cs
end Go.Proofs.YtnlojpolfkjkoaaGreat
namespace Go.Proofs.YtnlojpolfkjkoaaGreat
namespace Cs
open Tr Cx Sp Rw Classical
def sumE (l : List E) : Int := (l.map fun e => e.v).sum
theorem rise_es {d : Nat} {t : T} (h : RightT (d + 1) t) : t.es.Pairwise fun x y => ltD (keyE x) (keyE y) := by
 cases t
 exact upE h.2.1
theorem one_right {e : E} (he : RightE e) : RK (oneT e, oneC e.a e.n) := right_one (right_oneT he) (right_oneC he.1) (by rw [has_oneC]; exact decide_eq_true ⟨rfl, rfl⟩)
end Cs
end Go.Proofs.YtnlojpolfkjkoaaGreat
namespace Go.Proofs.YtnlojpolfkjkoaaGreat
namespace Cs
open Tr Cx Sp Rw Classical
noncomputable def oneK (e : E) : K := (oneT e, oneC e.a e.n)
def cA (k : Nat) : Int := ((k % 4 : Nat) : Int)
def cN (k : Nat) : Int := 1099511627776 - (k : Int)
theorem oneK_right {e : E} (he : RightE e) : RK (oneK e) := one_right he
def sumL (l : List Int) (k : Nat) : Int := (l.take k).sum
theorem sumL_zero (l : List Int) : sumL l 0 = 0 := by unfold sumL; simp
structure Made (c : K) (l : List Int) (xs : List K) : Prop where
 each : ∀ (j : Nat) (h : j < xs.length) (h2 : j < l.length), xs[j] = oneK ⟨cA j, cN j, ⟨#[]⟩, l[j]⟩ ∧ RightE ⟨cA j, cN j, ⟨#[]⟩, l[j]⟩ ∧ hasC c.2 (cA j) (cN j) = false
theorem Made.nil (c : K) (l : List Int) : Made c l [] := ⟨fun j h _ => absurd h (Nat.not_lt_zero j)⟩
theorem Made.snoc {c : K} {l : List Int} {xs : List K} (h : Made c l xs) (hl : xs.length < l.length) {k : K} (hk : k = oneK ⟨cA xs.length, cN xs.length, ⟨#[]⟩, l[xs.length]⟩) (he : RightE ⟨cA xs.length, cN xs.length, ⟨#[]⟩, l[xs.length]⟩) (hn : hasC c.2 (cA xs.length) (cN xs.length) = false) : Made c l (xs ++ [k]) := ⟨fun j hj hj2 => by
 by_cases e : j < xs.length
 ·rw [List.getElem_append_left e]
  exact h.each j e hj2
 ·rw [List.length_append, List.length_singleton] at hj
  obtain rfl : j = xs.length := by omega
  rw [List.getElem_append_right (Nat.le_refl _)]; simp only [Nat.sub_self, List.getElem_cons_zero]
  exact ⟨hk, he, hn⟩⟩
theorem Made.right {c : K} {l : List Int} {xs : List K} (h : Made c l xs) (hl : xs.length ≤ l.length) (j : Nat) (hj : j < xs.length) : RK xs[j] := by
 obtain ⟨h1, h2, _⟩ := h.each j hj (by omega); rw [h1]; exact oneK_right h2
structure Fore (c : K) (l : List Int) (xs : List K) (k : Nat) (ka : K) : Prop where
 all : AllJ (c :: xs.take k) ka
 sum : sumE ka.1.es = sumE c.1.es + sumL l k
theorem Fore.zero {c : K} (hc : RK c) (l : List Int) (xs : List K) : Fore c l xs 0 c := ⟨by rw [List.take_zero]; exact AllJ.one hc, by rw [sumL_zero, Int.add_zero]⟩
end Cs
end Go.Proofs.YtnlojpolfkjkoaaGreat
namespace Go.Proofs.YtnlojpolfkjkoaaGreat
namespace Cs
open Tr Cx Sp Rw Classical
def ownD (t : T) : List (Int × Int) := t.es.map keyE
theorem ownD_dl (t : T) : dl (.mk t.es []) = ownD t := by
 unfold dl ownD; rw [leaves_mk]; simp [below]; exact fun _ _ => rfl
theorem right_own {d : Nat} {t : T} (h : RightT (d + 1) t) : RightT (d + 1) (.mk t.es []) := by
 cases t
 exact ⟨h.1, h.2.1, by simp, by simp⟩
theorem es_ent {d : Nat} {t : T} (h : RightT (d + 1) t) {x : E} : x ∈ t.es ↔ entAt t [] (keyE x) = some x := by
 rw [show entAt t [] (keyE x) = look keyE t.es (keyE x) from rfl, look_iff tot_dot (rise_es h)]; exact ⟨fun hx => ⟨hx, rfl⟩, fun hx => hx.1⟩
theorem own_mem {d : Nat} {t : T} (h : RightT (d + 1) t) {q : Int × Int} : q ∈ ownD t ↔ ∃ e, entAt t [] q = some e := by
 constructor
 ·intro hq
  obtain ⟨x, hx, rfl⟩ := List.mem_map.1 hq; exact ⟨x, (es_ent h).1 hx⟩
 ·rintro ⟨e, he⟩
  have hk := entAt_key he; exact List.mem_map.2 ⟨e, (es_ent h).2 (by rw [hk]; exact he), hk⟩
theorem own_sub {d : Nat} {t : T} (h : RightT (d + 1) t) {q : Int × Int} (hq : q ∈ ownD t) : q ∈ dl t := by
 obtain ⟨e, he⟩ := (own_mem h).1 hq; have hk := entAt_key he; have h1 : ([], e) ∈ leaves t := (leaf_iff h [] e).2 (by rw [hk]; exact he); exact List.mem_map.2 ⟨([], e), h1, hk⟩
theorem has_own {t : T} {w : List S3} (ht : RightT 5 t) (hw : OfC (ownD t) w) (a n : Int) : hasC w a n = decide ((a, n) ∈ ownD t) := by
 have h := has_dl (right_own ht) (u := w) (by rw [ownD_dl]; exact hw) a n; rw [ownD_dl] at h; exact h
theorem es_ext {d : Nat} {t u : T} (ht : RightT (d + 1) t) (hu : RightT (d + 1) u) (h : ∀ q, entAt t [] q = entAt u [] q) : t.es = u.es := up_ext (key := keyE) tot_dot (rise_es ht) (rise_es hu) h
theorem reg_es {c r : K} {e : E} {w v : List S3} (hc : RK c) (hw : OfC (ownD c.1) w) (he : RightE e) (hn : hasC c.2 e.a e.n = false) (hv : PutC uniF w (oneC e.a e.n) v) (h : IsJ c (oneT e, v) r) : r.1.es = [e] := by
 have hx : RK (oneT e, v) := right_one (right_oneT he) hv.right (uni_self hw.right he.1 hv); refine es_ext (d := 4) (u := oneT e) (h.right hc hx).tree (right_oneT he) fun q => ?_; rw [h.ent hc hx, entAt_one]
 by_cases hq : keyE e = q
 ·rw [if_pos ⟨rfl, hq⟩, ← hq, hc.unknown (q := keyE e) hn, stE_right, if_neg]
  show ¬ hasC c.2 e.a e.n = true; rw [hn]; simp
 ·rw [if_neg fun h2 => hq h2.2]
  cases h1 : entAt c.1 [] q with
  | none => rfl
  | some y =>
   have hky := entAt_key h1; rw [stE_left, if_pos]; show hasC v y.a y.n = true; rw [uni_has hw.right he.1 hv, has_own hc.tree hw, decide_eq_true (p := (y.a, y.n) ∈ ownD c.1)]
   ·rfl
   ·exact (own_mem hc.tree).2 ⟨y, by rw [show (y.a, y.n) = q from hky]; exact h1⟩
theorem own_not {t : T} {v w : List S3} {a n b m : Int} (ht : RightT 5 t) (hw : OfC (ownD t) w) (hd : Dt.rightB a n = true) (hv : PutC uniF w (oneC a n) v) (hb : (b, m) ∉ dl t) (hne : ¬ (b = a ∧ m = n)) : hasC v b m = false := by
 rw [uni_has hw.right hd hv, has_own ht hw, decide_eq_false fun h => hb (own_sub ht h), decide_eq_false hne]; rfl
theorem reg_both {t : T} {u w v v' : List S3} {e e' : E} {r : K} (ht : RightT 5 t) (hu : OfC (dl t) u) (hw : OfC (ownD t) w) (he : RightE e) (he' : RightE e') (hn : (e.a, e.n) ∉ dl t) (hn' : (e'.a, e'.n) ∉ dl t) (hne : ¬ (e.a = e'.a ∧ e.n = e'.n)) (hv : PutC uniF w (oneC e.a e.n) v) (hv' : PutC uniF w (oneC e'.a e'.n) v') (hr : RK r) (h : ∀ p q, Cs.st r p q = mx (Cs.st (t, u) p q) (mx (Cs.st (oneT e, v) p q) (Cs.st (oneT e', v') p q))) (x : E) : x ∈ r.1.es ↔ x = e ∨ x = e' := by
 have hue : hasC u e.a e.n = false := by rw [has_dl ht hu, decide_eq_false hn]
 have hue' : hasC u e'.a e'.n = false := by rw [has_dl ht hu, decide_eq_false hn']
 have hve' : hasC v e'.a e'.n = false := own_not ht hw he.1 hv hn' fun h2 => hne ⟨h2.1.symm, h2.2.symm⟩; have hv'e : hasC v' e.a e.n = false := own_not ht hw he'.1 hv' hn hne; have hse : hasC v e.a e.n = true := uni_self hw.right he.1 hv; have hse' : hasC v' e'.a e'.n = true := uni_self hw.right he'.1 hv'
 have h0 : entAt r.1 [] (keyE e) = some e := by
  rw [hr.ent_of _ _ _ (h [] (keyE e)), st_none (k := (t, u)) (q := keyE e) hue, st_none (k := (oneT e', v')) (q := keyE e) hv'e, mx_none, none_mx, st_some (k := (oneT e, v)) (q := keyE e) hse, show entAt (oneT e) [] (keyE e) = some e from by rw [entAt_one, if_pos ⟨rfl, rfl⟩]]; rfl
 have h1 : entAt r.1 [] (keyE e') = some e' := by
  rw [hr.ent_of _ _ _ (h [] (keyE e')), st_none (k := (t, u)) (q := keyE e') hue', st_none (k := (oneT e, v)) (q := keyE e') hve', mx_none, mx_none, st_some (k := (oneT e', v')) (q := keyE e') hse', show entAt (oneT e') [] (keyE e') = some e' from by rw [entAt_one, if_pos ⟨rfl, rfl⟩]]; rfl
 rw [es_ent (d := 4) hr.tree]; constructor
 ·intro hx
  by_cases hk : keyE x = keyE e
  ·rw [hk, h0] at hx
   injection hx with hx; exact .inl hx.symm
  by_cases hk' : keyE x = keyE e'
  ·rw [hk', h1] at hx
   injection hx with hx; exact .inr hx.symm
  exfalso
  have h2 : entAt (oneT e) [] (keyE x) = none := by rw [entAt_one, if_neg fun h3 => hk h3.2.symm]
  have h3 : entAt (oneT e') [] (keyE x) = none := by rw [entAt_one, if_neg fun h3 => hk' h3.2.symm]
  have h4 := hr.ent_of _ _ _ (h [] (keyE x)); rw [hx] at h4
  cases h5 : entAt t [] (keyE x) with
  | some y =>
   have hky := entAt_key h5; have hin : (keyE x) ∈ ownD t := (own_mem (d := 4) ht).2 ⟨y, h5⟩
   have hs : hasC v (keyE x).1 (keyE x).2 = true := by
    rw [uni_has hw.right he.1 hv, has_own ht hw, decide_eq_true hin]; rfl
   have hs' : hasC v' (keyE x).1 (keyE x).2 = true := by
    rw [uni_has hw.right he'.1 hv', has_own ht hw, decide_eq_true hin]; rfl
   have hsu : hasC u (keyE x).1 (keyE x).2 = true := by
    rw [has_dl ht hu, decide_eq_true (own_sub ht hin)]
   rw [st_some (k := (t, u)) hsu, st_some (k := (oneT e, v)) hs, st_some (k := (oneT e', v')) hs', h5, h2, h3] at h4
   cases h4
  | none =>
   have g1 : Cs.st (t, u) [] (keyE x) = none ∨ Cs.st (t, u) [] (keyE x) = some none := by
    cases h6 : hasC u (keyE x).1 (keyE x).2 with
    | false => exact .inl (st_none h6)
    | true => exact .inr (by rw [st_some (k := (t, u)) h6, h5])
   have g2 : Cs.st (oneT e, v) [] (keyE x) = none ∨ Cs.st (oneT e, v) [] (keyE x) = some none := by
    cases h6 : hasC v (keyE x).1 (keyE x).2 with
    | false => exact .inl (st_none h6)
    | true => exact .inr (by rw [st_some (k := (oneT e, v)) h6, h2])
   have g3 : Cs.st (oneT e', v') [] (keyE x) = none ∨ Cs.st (oneT e', v') [] (keyE x) = some none := by
    cases h6 : hasC v' (keyE x).1 (keyE x).2 with
    | false => exact .inl (st_none h6)
    | true => exact .inr (by rw [st_some (k := (oneT e', v')) h6, h3])
   rcases g1 with g1 | g1 <;> rcases g2 with g2 | g2 <;> rcases g3 with g3 | g3 <;> rw [g1, g2, g3] at h4 <;> cases h4
 ·rintro (rfl | rfl)
  ·exact h0
  ·exact h1
end Cs
end Go.Proofs.YtnlojpolfkjkoaaGreat
namespace Go.Proofs.YtnlojpolfkjkoaaGreat
open Go.ChangeShapes Go.WideShapes Go.ChangeAt Go.RowKit
namespace Cs
open Tr Cx Sp Rw Classical
set_option maxRecDepth 100000
theorem dot1_of_trod {H : Type} {enc : TypeId × Value → H} {W : World} {fuel : Nat} {c0 c1 : Value} {y : DataW H × List MemPlace} (hy : DataW.trod enc Tryz.prog W 0 (fun _ => true) true fuel 27 [c0, c1] = some y) : ∃ a n : Int, c0 = .int .i64 a ∧ c1 = .int .i64 n := by
 obtain ⟨y0, y1, m, _, hlen, h0, h1⟩ := trod_struct2 Tryz.underlying27 hy
 have hci : Tryz.prog.cellsOf 3 = 1 := by kernel_rfl
 have hcj : Tryz.prog.cellsOf 2 = 1 := by kernel_rfl
 simp only [hci, hcj] at h0 h1; obtain ⟨a, e0, _, w0⟩ := DataW.trod_int Tryz.underlying3 h0; obtain ⟨b, e1, _, w1⟩ := DataW.trod_int Tryz.underlying2 h1
 simp at e0 e1
 exact ⟨a, b, e0, e1⟩
theorem dots3_of_trod {H : Type} {enc : TypeId × Value → H} {W : World} {b0 : Nat} {v : Value} {d : DataW H} {p : List MemPlace}
  (hv : Value.okWide Tryz.prog W .any b0 49 v) (h : DataW.Trod enc Tryz.prog W 0 (fun _ => true) true 49 v d p) : ∃ a n b m c j : Int, v = .agg #[.int .i64 a, .int .i64 n, .int .i64 b, .int .i64 m, .int .i64 c, .int .i64 j] := by
 obtain ⟨cs, rfl, hsz⟩ : ∃ cs, v = .agg cs ∧ cs.size = Tryz.prog.cellsOf 49 := by
  simp only [Value.okWide, Tryz.underlying49] at hv; obtain ⟨cs, h1, h2, _⟩ := hv; exact ⟨cs, h1, h2⟩
 have hc : Tryz.prog.cellsOf 49 = 6 := by kernel_rfl
 have hci : Tryz.prog.cellsOf 27 = 2 := by kernel_rfl
 rw [hc] at hsz
 obtain ⟨c0, c1, c2, c3, c4, c5, rfl⟩ : ∃ c0 c1 c2 c3 c4 c5, cs = #[c0, c1, c2, c3, c4, c5] := by
  match cs, hsz with
  | ⟨[c0, c1, c2, c3, c4, c5]⟩, _ => exact ⟨_, _, _, _, _, _, rfl⟩
 obtain ⟨fuel, hf⟩ := h; have hf : DataW.trod enc Tryz.prog W 0 (fun _ => true) true fuel 49 [c0, c1, c2, c3, c4, c5] = some (d, p) := hf; obtain ⟨xs, k, _, _, hlen, hn, hf⟩ := DataW.trod_array Tryz.underlying49 hf; rw [hci] at hf
 match xs, hn with
 | [y0, y1, y2], _ =>
  have h0 := hf 0 (by omega); have h1 := hf 1 (by omega); have h2 := hf 2 (by omega)
  simp at h0 h1 h2
  obtain ⟨a, n, rfl, rfl⟩ := dot1_of_trod h0; obtain ⟨b, m, rfl, rfl⟩ := dot1_of_trod h1; obtain ⟨c, j, rfl, rfl⟩ := dot1_of_trod h2; exact ⟨a, n, b, m, c, j, rfl⟩
end Cs
end Go.Proofs.YtnlojpolfkjkoaaGreat
namespace Go.Proofs.YtnlojpolfkjkoaaGreat
open Go.ChangeShapes Go.WideShapes Go.ChangeAt Go.RowKit
namespace Cs
open Tr Cx Sp Rw Classical
set_option maxRecDepth 100000
theorem texts3_of_trod {H : Type} {enc : TypeId × Value → H} {W : World} {b0 : Nat} {v : Value} {d : DataW H} {p : List MemPlace}
  (hv : Value.okWide Tryz.prog W .any b0 48 v) (h : DataW.Trod enc Tryz.prog W 0 (fun _ => true) true 48 v d p) : ∃ s0 s1 s2 : ByteArray, v = .agg #[.string s0, .string s1, .string s2] := by
 obtain ⟨cs, rfl, hsz⟩ : ∃ cs, v = .agg cs ∧ cs.size = Tryz.prog.cellsOf 48 := by
  simp only [Value.okWide, Tryz.underlying48] at hv; obtain ⟨cs, h1, h2, _⟩ := hv; exact ⟨cs, h1, h2⟩
 have hc : Tryz.prog.cellsOf 48 = 3 := by kernel_rfl
 have hci : Tryz.prog.cellsOf 9 = 1 := by kernel_rfl
 rw [hc] at hsz
 obtain ⟨c0, c1, c2, rfl⟩ : ∃ c0 c1 c2, cs = #[c0, c1, c2] := by
  match cs, hsz with
  | ⟨[c0, c1, c2]⟩, _ => exact ⟨_, _, _, rfl⟩
 obtain ⟨fuel, hf⟩ := h; have hf : DataW.trod enc Tryz.prog W 0 (fun _ => true) true fuel 48 [c0, c1, c2] = some (d, p) := hf; obtain ⟨xs, m, _, _, hlen, hn, hf⟩ := DataW.trod_array Tryz.underlying48 hf; rw [hci] at hf
 match xs, hn with
 | [y0, y1, y2], _ =>
  have h0 := hf 0 (by omega); have h1 := hf 1 (by omega); have h2 := hf 2 (by omega)
  simp at h0 h1 h2
  obtain ⟨s0, e0, _, _⟩ := DataW.trod_string Tryz.underlying9 h0; obtain ⟨s1, e1, _, _⟩ := DataW.trod_string Tryz.underlying9 h1; obtain ⟨s2, e2, _, _⟩ := DataW.trod_string Tryz.underlying9 h2
  simp at e0 e1 e2
  subst e0; subst e1; subst e2; exact ⟨s0, s1, s2, rfl⟩
end Cs
end Go.Proofs.YtnlojpolfkjkoaaGreat
