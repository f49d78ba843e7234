/- Texts of the lower layers, and of layer 9, put together. -/
import Derived.Test.YtolanjimmbpijaaG00
import Derived.Test.YtolanjimmbpijaaTreeDots
import Derived.Test.YtolanjimmbpijaaG20
import Derived.Test.YtolanjimmbpijaaCauRight
import Derived.Test.YtolanjimmbpijaaG10
import Derived.Test.YtolanjimmbpijaaTreeRight
namespace Go.Proofs.Ytolanjimmbpijaa
namespace Cs
open Tr Cx Sp Rw Classical
def oneC (a n : Int) : List S3 := [(a, n, n)]
theorem part_oneC (a n d : Int) : Cx.part (oneC a n) d = if a = d then [(n, n)] else [] := by
 unfold oneC; rw [part_cons, part_nil]
theorem has_oneC (a n d m : Int) : hasC (oneC a n) d m = decide (d = a ∧ m = n) := by
 unfold hasC; rw [part_oneC]
 by_cases h : a = d
 ·rw [if_pos h, has_cons, has_nil, Bool.or_false]
  by_cases h2 : m = n
  ·rw [decide_eq_true (by omega), decide_eq_true ⟨h.symm, h2⟩]
  ·rw [decide_eq_false (by omega), decide_eq_false fun h3 => h2 h3.2]
 ·rw [if_neg h, has_nil, decide_eq_false fun h3 => h h3.1.symm]
theorem right_oneC {a n : Int} (h : Dt.rightB a n = true) : RightC (oneC a n) := by
 obtain ⟨hc, h1, h2⟩ := Cx.good_num (x := (a, n)) h; refine ⟨⟨hc.1, hc.2, trivial⟩, fun d _ => ?_⟩; rw [part_oneC]
 split
 ·exact ⟨h1, Int.le_refl _, h2, trivial⟩
 ·trivial
theorem of_oneC {a n : Int} (h : Dt.rightB a n = true) : OfC [(a, n)] (oneC a n) := ⟨right_oneC h, fun d m _ => by
 rw [has_oneC, decide_eq_true_iff, List.mem_singleton]; constructor
 ·rintro ⟨rfl, rfl⟩; rfl
 ·intro h; injection h with h1 h2; exact ⟨h1, h2⟩⟩
noncomputable def checkB (t : T) (a n : Int) : Bool := Tr.rightB 5 t && Dt.rightB a n && !decide ((a, n) ∈ dl t)
theorem check_iff {t : T} {a n : Int} : checkB t a n = true ↔ RightT 5 t ∧ Dt.rightB a n = true ∧ (a, n) ∉ dl t := by
 unfold checkB; rw [Bool.and_eq_true, Bool.and_eq_true, Tr.rightB_iff, Bool.not_eq_true', decide_eq_false_iff_not, and_assoc]
theorem has_dl {t : T} {u : List S3} (ht : RightT 5 t) (hu : OfC (dl t) u) (a n : Int) : hasC u a n = decide ((a, n) ∈ dl t) := by
 by_cases hd : Cen a
 ·by_cases h : (a, n) ∈ dl t
  ·rw [(hu.has a n hd).2 h, decide_eq_true h]
  ·rw [decide_eq_false h]
   cases h2 : hasC u a n with
   | false => rfl
   | true => exact absurd ((hu.has a n hd).1 h2) h
 ·rw [not_cen hu.right hd, decide_eq_false fun h => hd (good_num (x := (a, n)) (good_dl ht _ h)).1]
theorem right_oneT {d : Nat} {e : E} (he : RightE e) : RightT (d + 1) (oneT e) := ⟨fun x hx => by
 rw [List.mem_singleton.1 hx]; exact he, by simp, by simp, by simp⟩
theorem nodes_one (e : E) : nodes (oneT e) = 1 := by unfold oneT; rw [nodes_mk]; rfl
end Cs
end Go.Proofs.Ytolanjimmbpijaa
namespace Go.Proofs.Ytolanjimmbpijaa
namespace Cs
open Tr Cx Sp Rw Classical
def sumE (l : List E) : Int := (l.map fun e => e.v).sum
theorem sumE_nil : sumE [] = 0 := rfl
theorem sumE_cons (e : E) (l : List E) : sumE (e :: l) = e.v + sumE l := by unfold sumE; rw [List.map_cons, List.sum_cons]
theorem sumE_app (a b : List E) : sumE (a ++ b) = sumE a + sumE b := by unfold sumE; rw [List.map_append, List.sum_append_int]
theorem sumE_take {l : List E} {k : Nat} (h : k < l.length) : sumE (l.take (k + 1)) = sumE (l.take k) + l[k].v := by
 rw [List.take_succ_eq_append_getElem h, sumE_app, sumE_cons, sumE_nil, Int.add_zero]
theorem sumE_low {m : Int} : ∀ {l : List E}, (∀ e ∈ l, -m ≤ e.v ∧ e.v ≤ m) → -(m * l.length) ≤ sumE l ∧ sumE l ≤ m * l.length
 | [], _ => by simp [sumE_nil]
 | e :: l, h => by
  have h1 := h e (List.mem_cons_self); have h2 := sumE_low (l := l) fun x hx => h x (List.mem_cons_of_mem _ hx); rw [sumE_cons, List.length_cons]
  have h3 : m * ((l.length + 1 : Nat) : Int) = m * l.length + m := by rw [Int.natCast_add, Int.mul_add]; simp
  omega
end Cs
end Go.Proofs.Ytolanjimmbpijaa
namespace Go.Proofs.Ytolanjimmbpijaa
namespace Cs
open Tr Cx Sp Rw Classical
noncomputable def oneK (e : E) : K := (oneT e, oneC e.a e.n)
theorem put_one {a n : Int} (h : Dt.rightB a n = true) : PutC uniF [] (oneC a n) (oneC a n) := ⟨right_oneC h, fun d m _ => by
 show hasC (oneC a n) d m = (false || hasC (oneC a n) d m)
 rw [Bool.false_or]⟩
def cA (k : Nat) : Int := ((k % 4 : Nat) : Int)
def cN (k : Nat) : Int := 1099511627776 - (k : Int)
def sumL (l : List Int) (k : Nat) : Int := (l.take k).sum
theorem sumL_zero (l : List Int) : sumL l 0 = 0 := by unfold sumL; simp
structure Made (c : K) (l : List Int) (xs : List K) : Prop where
 each : ∀ (j : Nat) (h : j < xs.length) (h2 : j < l.length), xs[j] = oneK ⟨cA j, cN j, ⟨#[]⟩, l[j]⟩ ∧ RightE ⟨cA j, cN j, ⟨#[]⟩, l[j]⟩ ∧ hasC c.2 (cA j) (cN j) = false
theorem Made.nil (c : K) (l : List Int) : Made c l [] := ⟨fun j h _ => absurd h (Nat.not_lt_zero j)⟩
theorem Made.snoc {c : K} {l : List Int} {xs : List K} (h : Made c l xs) (hl : xs.length < l.length) {k : K} (hk : k = oneK ⟨cA xs.length, cN xs.length, ⟨#[]⟩, l[xs.length]⟩) (he : RightE ⟨cA xs.length, cN xs.length, ⟨#[]⟩, l[xs.length]⟩) (hn : hasC c.2 (cA xs.length) (cN xs.length) = false) : Made c l (xs ++ [k]) := ⟨fun j hj hj2 => by
 by_cases e : j < xs.length
 ·rw [List.getElem_append_left e]
  exact h.each j e hj2
 ·rw [List.length_append, List.length_singleton] at hj
  obtain rfl : j = xs.length := by omega
  rw [List.getElem_append_right (Nat.le_refl _)]; simp only [Nat.sub_self, List.getElem_cons_zero]
  exact ⟨hk, he, hn⟩⟩
structure Fore (c : K) (l : List Int) (xs : List K) (k : Nat) (ka : K) : Prop where
 all : AllJ (c :: xs.take k) ka
 sum : sumE ka.1.es = sumE c.1.es + sumL l k
theorem Fore.zero {c : K} (hc : RK c) (l : List Int) (xs : List K) : Fore c l xs 0 c := ⟨by rw [List.take_zero]; exact AllJ.one hc, by rw [sumL_zero, Int.add_zero]⟩
end Cs
end Go.Proofs.Ytolanjimmbpijaa
set_option maxRecDepth 100000
set_option maxHeartbeats 4000000
namespace Go.Proofs.Ytolanjimmbpijaa
open Go.ChangeShapes Go.WideShapes Go.ChangeAt Go.RowKit
namespace Cs
open Tr Cx Sp Rw Classical
theorem small_v {t : T} (ht : RightT 5 t) : ∀ e ∈ t.es, -1099511627776 ≤ e.v ∧ e.v ≤ 1099511627776 := by
 cases t with
 | mk es ks => exact fun e he => ⟨(ht.1 e he).2.2.1, (ht.1 e he).2.2.2⟩
theorem sum_take {es : List E} (h : ∀ e ∈ es, -1099511627776 ≤ e.v ∧ e.v ≤ 1099511627776) (k : Nat) (hk : k ≤ 1000) : -1099511627776000 ≤ sumE (es.take k) ∧ sumE (es.take k) ≤ 1099511627776000 := by
 have h1 := sumE_low (m := 1099511627776) (l := es.take k) fun e he => h e (List.mem_of_mem_take he)
 have h2 : (es.take k).length ≤ k := by rw [List.length_take]; omega
 omega
theorem refsum_any (t : T) (Ae Ak : Option Addr) (ne nk ce ck : Nat) (w : World) (x : Int) (ht : RightT 5 t) (hx : sumE t.es = x) (hn : nodes t ≤ 999) (hr : RdT w w.heap.size t ⟨Ae, ne, ce⟩ ⟨Ak, nk, ck⟩) :
  Calls Try.prog 12 #[.agg #[.slice Ae ne ce, .slice Ak nk ck]] w fun e w' => e = .returned (.int .i64 x) ∧ Below w.heap.size w w' := by
 have hsv := small_v ht; clear ht
 cases t with
 | mk es ks =>
  obtain ⟨hle, hlk⟩ := rd_lens hr; have HR := Lib.hid hr; have HLE := Lib.hid hle; have HSV : Hid (∀ e ∈ es, -1099511627776 ≤ e.v ∧ e.v ≤ 1099511627776) := hsv
  have hnk : ne ≤ 999 := by have := nodes_es es ks; omega
  clear hle hlk hr hsv; have HXS : Hid (sumE es = x) := hx; clear hx hn; obtain ⟨g, hg⟩ : ∃ g, g = w.heap.size := ⟨_, rfl⟩; have HK := Lib.hid (tree_box w Ae Ak ne nk ce ck); rw [← hg] at HK; obtain ⟨W0, hW0⟩ : ∃ W, W = w.alloc (.cells #[.slice Ae ne ce, .slice Ak nk ck] 25) := ⟨_, rfl⟩; rw [← hW0] at HK; have HG := Lib.hid hg; have HW0 := Lib.hid hW0; have k0 := HK.out.c0; have k1 := HK.out.c1; clear hg hW0; go_enter Try.func12, Try.ntmps12; go_wp2_with fail; rw [← HG.out, ← HW0.out]; clear k0 k1
  go_loopw [3, 8] (fun s9 i wr => ∃ (k : Nat), k ≤ ne ∧ i = .int .i64 k ∧ s9 = .int .i64 (sumE (es.take k)) ∧ Hid (Kept [(⟨g, 0, none⟩, .slice Ae ne ce), (⟨g, 1, none⟩, .slice Ak nk ck)] w wr)) (fun _ i _ => ne - (intOf i).toNat)
  case atStart => exact ⟨0, by omega, rfl, rfl, HK.out⟩
  case round =>
   obtain ⟨k, hk, rfl, rfl, HKW⟩ := hrel; have k0 := HKW.out.c0; have k1 := HKW.out.c1
   by_cases hlt : k < ne
   ·have hkl : k < es.length := by rw [HLE.out]; exact hlt
    obtain ⟨b, o, rfl, hb, hc⟩ := rd_ent HR.out (by omega); obtain ⟨c0, c1, c2, c3⟩ := hc k hkl; have c0 := (HKW.out.below.cell (p := ⟨b, o + k * 4, none⟩) hb).trans c0; have c1 := (HKW.out.below.cell (p := ⟨b, o + k * 4 + 1, none⟩) hb).trans c1; have c2 := (HKW.out.below.cell (p := ⟨b, o + k * 4 + 2, none⟩) hb).trans c2; have c3 := (HKW.out.below.cell (p := ⟨b, o + k * 4 + 3, none⟩) hb).trans c3; obtain ⟨s1, hs1⟩ : ∃ s : Int, sumE (es.take k) = s := ⟨_, rfl⟩; obtain ⟨s2, hs2⟩ : ∃ s : Int, sumE (es.take (k + 1)) = s := ⟨_, rfl⟩; have hst := sumE_take hkl; have hlo := sum_take HSV.out k (by omega); have hhi := sum_take HSV.out (k + 1) (by omega); have hee := HSV.out _ (List.getElem_mem hkl); obtain ⟨v, hv⟩ : ∃ v : Int, (es[k]).v = v := ⟨_, rfl⟩; rw [hv] at c3 hst hee; rw [hs1] at hst hlo ⊢; rw [hs2] at hst hhi
    have hw : IntKind.i64.wrap (s1 + v) = s2 := by rw [IntKind.wrap_i64]; omega
    have HS2 := Lib.hid hs2; clear hs1 hs2 hst hlo hhi hee hv hc

    go_wp2_with fail; go_roundw
    case rel => exact ⟨k + 1, by omega, by go_num, by rw [HS2.out], HKW.out⟩
    case measure => simp [intOf]; omega
   ·obtain rfl : k = ne := by omega
    have hsum : sumE (es.take k) = x := by rw [← HXS.out, List.take_of_length_le (by rw [HLE.out]; omega)]
    rw [hsum]; clear hsum; go_wp2_with fail; go_ret; exact ⟨rfl, HKW.out.below⟩
theorem value_any (t : T) (Ae Ak : Option Addr) (ne nk ce ck : Nat) (w : World) (x : Int) (hx : (if Tr.rightB 5 t = true then sumE t.es else 0) = x) (hl : LenT reachBytes t) (hn : nodes t ≤ 999) (hr : RdT w w.heap.size t ⟨Ae, ne, ce⟩ ⟨Ak, nk, ck⟩) :
  Calls Try.prog 13 #[.agg #[.slice Ae ne ce, .slice Ak nk ck]] w fun e w' => e = .returned (.int .i64 x) ∧ Below w.heap.size w w' := by
 have HR0 := Lib.hid hr; have HL := Lib.hid hl; have HX := Lib.hid hx; clear hx hl; obtain ⟨g, hg⟩ : ∃ g, g = w.heap.size := ⟨_, rfl⟩; have HK := Lib.hid (tree_box w Ae Ak ne nk ce ck); rw [← hg] at HK; obtain ⟨W0, hW0⟩ : ∃ W, W = w.alloc (.cells #[.slice Ae ne ce, .slice Ak nk ck] 25) := ⟨_, rfl⟩; rw [← hW0] at HK; have HG := Lib.hid hg; have HW0 := Lib.hid hW0; have k0 := HK.out.c0; have k1 := HK.out.c1; clear hg hW0; have HC := Lib.hid (rightT_any t Ae Ak ne nk ce ck W0 HL.out (RdT.more HK.out.below.size _ (RdT.below HR0.out HK.out.below))); obtain ⟨y, hy⟩ : ∃ y, Tr.rightB 5 t = y := ⟨_, rfl⟩; rw [hy] at HC HX; have HY := Lib.hid hy; clear hy; go_enter Try.func13, Try.ntmps13; go_wp2_with fail; rw [← HG.out, ← HW0.out]; refine HC.out.mono ?_; rintro e v1 ⟨rfl, hb9⟩; have HKv := Lib.hid (HK.out.later hb9); clear hb9 k0 k1 HC
 have k0 := HKv.out.c0; have k1 := HKv.out.c1
 cases y with
 | false =>
  obtain rfl : x = 0 := HX.out.symm; go_wp2_with fail; go_ret; exact ⟨rfl, HKv.out.below⟩
 | true =>
  have hsv := small_v (Tr.rightB_iff.1 HY.out); clear HY
  cases t with
  | mk es ks =>
   obtain ⟨hle, hlk⟩ := rd_lens hr; have HR := Lib.hid hr; have HLE := Lib.hid hle; have HSV : Hid (∀ e ∈ es, -1099511627776 ≤ e.v ∧ e.v ≤ 1099511627776) := hsv
   have hnk : ne ≤ 999 := by have := nodes_es es ks; omega
   clear hle hlk hr hsv; have HXS : Hid (sumE es = x) := HX.out; clear HX; clear hn; go_wp2_with fail; clear k0 k1
   go_loopw [3, 12] (fun s9 i wr => ∃ (k : Nat), k ≤ ne ∧ i = .int .i64 k ∧ s9 = .int .i64 (sumE (es.take k)) ∧ Hid (Kept [(⟨g, 0, none⟩, .slice Ae ne ce), (⟨g, 1, none⟩, .slice Ak nk ck)] w wr)) (fun _ i _ => ne - (intOf i).toNat)
   case atStart => exact ⟨0, by omega, rfl, rfl, HKv.out⟩
   case round =>
    obtain ⟨k, hk, rfl, rfl, HKW⟩ := hrel; have k0 := HKW.out.c0; have k1 := HKW.out.c1
    by_cases hlt : k < ne
    ·have hkl : k < es.length := by rw [HLE.out]; exact hlt
     obtain ⟨b, o, rfl, hb, hc⟩ := rd_ent HR.out (by omega); obtain ⟨c0, c1, c2, c3⟩ := hc k hkl; have c0 := (HKW.out.below.cell (p := ⟨b, o + k * 4, none⟩) hb).trans c0; have c1 := (HKW.out.below.cell (p := ⟨b, o + k * 4 + 1, none⟩) hb).trans c1; have c2 := (HKW.out.below.cell (p := ⟨b, o + k * 4 + 2, none⟩) hb).trans c2; have c3 := (HKW.out.below.cell (p := ⟨b, o + k * 4 + 3, none⟩) hb).trans c3; obtain ⟨s1, hs1⟩ : ∃ s : Int, sumE (es.take k) = s := ⟨_, rfl⟩; obtain ⟨s2, hs2⟩ : ∃ s : Int, sumE (es.take (k + 1)) = s := ⟨_, rfl⟩; have hst := sumE_take hkl; have hlo := sum_take HSV.out k (by omega); have hhi := sum_take HSV.out (k + 1) (by omega); have hee := HSV.out _ (List.getElem_mem hkl); obtain ⟨v, hv⟩ : ∃ v : Int, (es[k]).v = v := ⟨_, rfl⟩; rw [hv] at c3 hst hee; rw [hs1] at hst hlo ⊢; rw [hs2] at hst hhi
     have hw : IntKind.i64.wrap (s1 + v) = s2 := by rw [IntKind.wrap_i64]; omega
     have HS2 := Lib.hid hs2; clear hs1 hs2 hst hlo hhi hee hv hc

     go_wp2_with fail; go_roundw
     case rel => exact ⟨k + 1, by omega, by go_num, by rw [HS2.out], (HKW.out.alloc _)⟩
     case measure => simp [intOf]; omega
    ·obtain rfl : k = ne := by omega
     have hsum : sumE (es.take k) = x := by rw [← HXS.out, List.take_of_length_le (by rw [HLE.out]; omega)]
     rw [hsum]; clear hsum; go_wp2_with fail; go_ret; exact ⟨rfl, HKW.out.below⟩
end Cs
end Go.Proofs.Ytolanjimmbpijaa
