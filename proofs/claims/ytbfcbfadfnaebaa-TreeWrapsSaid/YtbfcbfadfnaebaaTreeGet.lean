/- Trees: what is below keys, which kids, a copy; the program's. -/
import Derived.Test.YtbfcbfadfnaebaaTreeCopy
import Derived.Test.YtbfcbfadfnaebaaTreeRight
namespace Go.Proofs.Ytbfcbfadfnaebaa
open Go.ChangeShapes Go.WideShapes Go.ChangeAt Go.RowKit
namespace Tr
open Sp Rw
theorem getT_none : ∀ p : List ByteArray, getT none_ p = none_
  | [] => rfl
  | k :: p => by
    unfold getT
    exact getT_none p
theorem getT_append (t : T) : ∀ a b : List ByteArray, getT t (a ++ b) = getT (getT t a) b
  | [], _ => rfl
  | k :: a, b => by
    show getT (kidAt t.ks k) (a ++ b) = getT (getT (kidAt t.ks k) a) b
    exact getT_append _ a b
theorem getT_succ (t : T) {p : List ByteArray} {k : Nat} (h : k < p.length) : getT t (p.take (k + 1)) = kidAt (getT t (p.take k)).ks p[k] := by
  rw [List.take_succ_eq_append_getElem h, getT_append]
  rfl
theorem kidAt_at {ks : List (ByteArray × T)} (hs : ks.Pairwise (fun x y => ltS x.1 y.1)) {i : Nat} (h : i < ks.length) : kidAt ks (ks[i]).1 = (ks[i]).2 := by
  rcases kidAt_mem (ks := ks) (key := (ks[i]).1) with ⟨k, hk, he, e2⟩ | ⟨hn, _⟩
  · rw [e2]
    obtain ⟨j, hj, rfl⟩ := List.getElem_of_mem hk
    have : j = i := by
      rcases Nat.lt_trichotomy i j with h1 | h1 | h1
      · have := List.pairwise_iff_getElem.1 hs i j h hj h1
        rw [he] at this
        exact absurd this (tot_str.irr _)
      · exact h1.symm
      · have := List.pairwise_iff_getElem.1 hs j i hj h h1
        rw [he] at this
        exact absurd this (tot_str.irr _)
    subst this; rfl
  · exact absurd rfl (hn _ (List.getElem_mem h))
theorem kidAt_no {ks : List (ByteArray × T)} {x : ByteArray} (h : ¬ x ∈ keysOf ks) : kidAt ks x = none_ := kidAt_not fun k hk e => h (List.mem_map.2 ⟨k, hk, e⟩)
theorem getT_cut {t : T} {p : List ByteArray} {k : Nat} (h : getT t (p.take k) = none_) : getT t p = none_ := by
  conv => lhs; rw [← List.take_append_drop k p]
  rw [getT_append, h, getT_none]
theorem nodes_kidAt (ks : List (ByteArray × T)) (es : List E) (key : ByteArray) : nodes (kidAt ks key) ≤ nodes (.mk es ks) := by
  rcases kidAt_mem (ks := ks) (key := key) with ⟨k, hk, _, e⟩ | ⟨_, e⟩
  · rw [e]; exact nodes_kid hk
  · rw [e]; unfold none_; rw [nodes_mk]; simp
theorem rise_keys {d : Nat} {es : List E} {ks : List (ByteArray × T)} (h : RightT (d + 1) (.mk es ks)) : (keysOf ks).Pairwise fun a b => ¬ ltS b a := by
  unfold keysOf
  rw [List.pairwise_map]
  exact h.2.2.1.imp fun h => tot_str.asym h
/-- a tree of new memory is answered -/
def TreeIs (u : T) (w : World) (e : Ending) (w' : World) : Prop := ∃ Ae ne ce Ak nk ck, e = .returned (.agg #[.slice Ae ne ce, .slice Ak nk ck]) ∧ RdO w' (fun b => w.heap.size ≤ b) u ⟨Ae, ne, ce⟩ ⟨Ak, nk, ck⟩ ∧ Below w.heap.size w w'
theorem TreeIs.rd {u : T} {Ae Ak : Option Addr} {ne nk ce ck lo : Nat} {w : World} (h : RdO w (fun b => lo ≤ b) u ⟨Ae, ne, ce⟩ ⟨Ak, nk, ck⟩) : RdT w w.heap.size u ⟨Ae, ne, ce⟩ ⟨Ak, nk, ck⟩ := h.rd
set_option maxRecDepth 100000 in
set_option maxHeartbeats 4000000 in
theorem clone_any (t : T) (Ae Ak : Option Addr) (ne nk ce ck : Nat) (w : World) (hl : LenT reachBytes t) (hn : nodes t ≤ 100000) (hr : RdT w w.heap.size t ⟨Ae, ne, ce⟩ ⟨Ak, nk, ck⟩) :
    Calls Try.prog 30 #[.agg #[.slice Ae ne ce, .slice Ak nk ck]] w (TreeIs (if rightB 5 t then t else none_) w) := by
  obtain ⟨u, hu⟩ : ∃ u, (if rightB 5 t then t else none_) = u := ⟨_, rfl⟩
  rw [hu]
  have HRT : ∀ W, Below w.heap.size w W → Calls Try.prog 15 #[.agg #[.slice Ae ne ce, .slice Ak nk ck]] W fun e w' => e = .returned (.bool (rightB 5 t)) ∧ Below W.heap.size W w' := fun W hW => rightT_any t Ae Ak ne nk ce ck W hl (RdT.more hW.size _ (RdT.below hr hW))
  obtain ⟨g, hg⟩ : ∃ g, g = w.heap.size := ⟨_, rfl⟩
  have HK := Lib.hid (tree_box w Ae Ak ne nk ce ck)
  rw [← hg] at HK
  obtain ⟨W0, hW0⟩ : ∃ W, W = w.alloc (.cells #[.slice Ae ne ce, .slice Ak nk ck] 25) := ⟨_, rfl⟩
  rw [← hW0] at HK
  have HG := Lib.hid hg
  have HW0 := Lib.hid hW0
  have k0 := HK.out.c0
  have k1 := HK.out.c1
  clear hg hW0
  obtain ⟨q, hq⟩ : ∃ q, q = W0.heap.size := ⟨_, rfl⟩
  obtain ⟨W1, hW1⟩ : ∃ W, W = W0.alloc (.cells #[.slice none 0 0, .slice none 0 0] 25) := ⟨_, rfl⟩
  have hb1 : Below W0.heap.size W0 W1 := by rw [hW1]; exact Dt.box_below _ _ _
  have q0 : W1.cell? ⟨q, 0, none⟩ = some (.slice none 0 0) := by rw [hW1, hq]; go_simp
  have q1 : W1.cell? ⟨q, 1, none⟩ = some (.slice none 0 0) := by rw [hW1, hq]; go_simp
  have HFQ : Hid (Free q W1) := ⟨by rw [hW1, hq]; simp, fun j => by rw [hW1, hq]; go_simp⟩
  have HFG : Hid (Free g W1) := (show Free g W0 from ⟨World.block_lt_of_cell? W0 _ HK.out.c0, fun j => by rw [HW0.out, HG.out]; go_simp⟩).later hb1
  have HKB := Lib.hid (((HK.out.later hb1).cons_of q1).cons_of q0)
  have HQ : Hid (q = g + 1) := by unfold Hid; rw [hq, HW0.out, HG.out]; simp
  have hgW : g < W0.heap.size := World.block_lt_of_cell? W0 _ HK.out.c0
  have hgq : g ≠ q := by omega
  have hgq2 : ¬ q = g := by omega
  have hwg : w.heap.size ≤ g := by have := HG.out; omega
  have hwq : w.heap.size ≤ q := by omega
  have HW1 := Lib.hid hW1
  have HBq : Hid (Below w.heap.size w W1) := HKB.out.below
  clear hq hW1 hb1 q0 q1 k0 k1
  have k2 := HKB.out.c2
  have k3 := HKB.out.c3
  cases hz : rightB 5 t with
  | false =>
    rw [hz, if_neg (by simp)] at hu
    subst hu
    rw [hz] at HRT
    have HRT := Lib.hid HRT
    clear hz hr hl
    go_enter Try.func30, Try.ntmps30
    go_wp2_with fail
    rw [← HG.out, ← HW0.out, ← HQ.out, ← HW1.out]
    refine (HRT.out _ HBq.out).mono ?_
    rintro e w2 ⟨rfl, hb2⟩
    have HKc := Lib.hid (HKB.out.later hb2)
    have HFQ := Lib.hid (HFQ.out.later hb2)
    have HFG := Lib.hid (HFG.out.later hb2)
    clear hb2 k2 k3
    have k0 := HKc.out.c0
    have k1 := HKc.out.c1
    have k2 := HKc.out.c2
    have k3 := HKc.out.c3
    have m0 := HFQ.out.2 0
    have m1 := HFQ.out.2 1
    obtain ⟨w9, hw9⟩ : ∃ W, W = (w2.setCell ⟨q, 0, none⟩ (.slice none 0 0)).setCell ⟨q, 1, none⟩ (.slice none 0 0) := ⟨_, rfl⟩
    have HB9 : Hid (Below w.heap.size w w9) := by unfold Hid; rw [hw9]; exact (HKc.out.below.setCell (p := ⟨q, 0, none⟩) hwq _).setCell (p := ⟨q, 1, none⟩) hwq _
    have j0 : w9.cell? ⟨q, 0, none⟩ = some (.slice none 0 0) := by rw [hw9]; go_simp
    have j1 : w9.cell? ⟨q, 1, none⟩ = some (.slice none 0 0) := by rw [hw9]; go_simp
    have HW9 := Lib.hid hw9
    clear hw9
    go_wp2_with fail
    rw [← HW9.out]
    refine bodyPost_ret (v := .agg #[.slice none 0 0, .slice none 0 0]) (by simp [results, Try.results30, go_sem, j0, j1]) rfl ⟨none, 0, 0, none, 0, 0, rfl, RdO.none _ _ _ _ _ _, HB9.out⟩
  | true =>
    rw [hz, if_pos rfl] at hu
    subst hu
    rw [hz] at HRT
    have HRT := Lib.hid HRT
    have HRI := Lib.hid (rightB_iff.1 hz)
    have HR := Lib.hid hr
    have HN := Lib.hid hn
    clear hz hr hl hn
    go_enter Try.func30, Try.ntmps30
    go_wp2_with fail
    rw [← HG.out, ← HW0.out, ← HQ.out, ← HW1.out]
    refine (HRT.out _ HBq.out).mono ?_
    rintro e w2 ⟨rfl, hb2⟩
    have HKc := Lib.hid (HKB.out.later hb2)
    have HFQ := Lib.hid (HFQ.out.later hb2)
    have HFG := Lib.hid (HFG.out.later hb2)
    clear hb2 k2 k3
    have k0 := HKc.out.c0
    have k1 := HKc.out.c1
    have k2 := HKc.out.c2
    have k3 := HKc.out.c3
    have m0 := HFQ.out.2 0
    have m1 := HFQ.out.2 1
    go_wp2_with fail
    refine (copied_any t Ae Ak ne nk ce ck w2 HN.out (RdT.more HKc.out.below.size _ (RdT.below HR.out HKc.out.below))).mono ?_
    rintro e w3 ⟨Ae9, ce9, Ak9, ck9, rfl, hro, hb3⟩
    have HKc := Lib.hid (HKc.out.later hb3)
    have HFQ := Lib.hid (HFQ.out.later hb3)
    have hqw2 : q < w2.heap.size := World.block_lt_of_cell? w2 _ k0
    have hbs := HKc.out.below.size
    have hbs2 : w.heap.size ≤ w2.heap.size := by omega
    have HRO := Lib.hid (RdO.mono (ok' := fun b => w.heap.size ≤ b ∧ b ≠ q) (fun b hb _ => ⟨by omega, fun e => by omega⟩) _ hro)
    clear k0 k1 k2 k3 m0 m1 hro hb3 hbs hbs2
    have k0 := HKc.out.c0
    have k1 := HKc.out.c1
    have m0 := HFQ.out.2 0
    have m1 := HFQ.out.2 1
    obtain ⟨w9, hw9⟩ : ∃ W, W = (w3.setCell ⟨q, 0, none⟩ (.slice Ae9 ne ce9)).setCell ⟨q, 1, none⟩ (.slice Ak9 nk ck9) := ⟨_, rfl⟩
    have HT9 : Hid (RdO w9 (fun b => w.heap.size ≤ b) (t) ⟨Ae9, ne, ce9⟩ ⟨Ak9, nk, ck9⟩) := by
      unfold Hid
      rw [hw9]
      refine RdO.mono (fun b hb _ => hb.1) _ (RdO.keep (ok := fun b => w.heap.size ≤ b ∧ b ≠ q) (by simp [World.setCell]) (fun b hb hlt => ?_) _ HRO.out)
      exact (Below.heap_setCell _ ⟨q, 1, none⟩ _ b (fun e => hb.2 e)).trans (Below.heap_setCell _ ⟨q, 0, none⟩ _ b (fun e => hb.2 e))
    have HB9 : Hid (Below w.heap.size w w9) := by unfold Hid; rw [hw9]; exact (HKc.out.below.setCell (p := ⟨q, 0, none⟩) hwq _).setCell (p := ⟨q, 1, none⟩) hwq _
    have j0 : w9.cell? ⟨q, 0, none⟩ = some (.slice Ae9 ne ce9) := by rw [hw9]; go_simp
    have j1 : w9.cell? ⟨q, 1, none⟩ = some (.slice Ak9 nk ck9) := by rw [hw9]; go_simp
    have HW9 := Lib.hid hw9
    clear hw9
    go_wp2_with fail
    rw [← HW9.out]
    refine bodyPost_ret (v := .agg #[.slice Ae9 ne ce9, .slice Ak9 nk ck9]) (by simp [results, Try.results30, go_sem, j0, j1]) rfl ⟨Ae9, ne, ce9, Ak9, nk, ck9, rfl, HT9.out, HB9.out⟩
set_option maxRecDepth 100000 in
set_option maxHeartbeats 4000000 in
theorem only_any (t : T) (Ae Ak : Option Addr) (ne nk ce ck : Nat) (w : World) (l : List ByteArray) (A : Option Addr) (n c : Nat) (hl9 : l.length = n) (hn9 : n ≤ 100000) (hrl : Rd w w.heap.size 1 A n c (strs l)) (hl : LenT reachBytes t) (hn : nodes t ≤ 100000) (hr : RdT w w.heap.size t ⟨Ae, ne, ce⟩ ⟨Ak, nk, ck⟩) :
    Calls Try.prog 27 #[.agg #[.slice Ae ne ce, .slice Ak nk ck], .slice A n c] w (TreeIs (if rightB 5 t then .mk [] (keepK (fun k => inB l k == true) t.ks) else none_) w) := by
  obtain ⟨u, hu⟩ : ∃ u, (if rightB 5 t then .mk [] (keepK (fun k => inB l k == true) t.ks) else none_) = u := ⟨_, rfl⟩
  rw [hu]
  have HL9 := Lib.hid hl9
  have HRL := Lib.hid hrl
  clear hl9 hrl
  have HRT : ∀ W, Below w.heap.size w W → Calls Try.prog 15 #[.agg #[.slice Ae ne ce, .slice Ak nk ck]] W fun e w' => e = .returned (.bool (rightB 5 t)) ∧ Below W.heap.size W w' := fun W hW => rightT_any t Ae Ak ne nk ce ck W hl (RdT.more hW.size _ (RdT.below hr hW))
  obtain ⟨g, hg⟩ : ∃ g, g = w.heap.size := ⟨_, rfl⟩
  have HK := Lib.hid (tree_box w Ae Ak ne nk ce ck)
  rw [← hg] at HK
  obtain ⟨W0, hW0⟩ : ∃ W, W = w.alloc (.cells #[.slice Ae ne ce, .slice Ak nk ck] 25) := ⟨_, rfl⟩
  rw [← hW0] at HK
  have HG := Lib.hid hg
  have HW0 := Lib.hid hW0
  have k0 := HK.out.c0
  have k1 := HK.out.c1
  clear hg hW0
  obtain ⟨q, hq⟩ : ∃ q, q = W0.heap.size := ⟨_, rfl⟩
  obtain ⟨W1, hW1⟩ : ∃ W, W = W0.alloc (.cells #[.slice none 0 0, .slice none 0 0] 25) := ⟨_, rfl⟩
  have hb1 : Below W0.heap.size W0 W1 := by rw [hW1]; exact Dt.box_below _ _ _
  have q0 : W1.cell? ⟨q, 0, none⟩ = some (.slice none 0 0) := by rw [hW1, hq]; go_simp
  have q1 : W1.cell? ⟨q, 1, none⟩ = some (.slice none 0 0) := by rw [hW1, hq]; go_simp
  have HFQ : Hid (Free q W1) := ⟨by rw [hW1, hq]; simp, fun j => by rw [hW1, hq]; go_simp⟩
  have HFG : Hid (Free g W1) := (show Free g W0 from ⟨World.block_lt_of_cell? W0 _ HK.out.c0, fun j => by rw [HW0.out, HG.out]; go_simp⟩).later hb1
  have HKB := Lib.hid (((HK.out.later hb1).cons_of q1).cons_of q0)
  have HQ : Hid (q = g + 1) := by unfold Hid; rw [hq, HW0.out, HG.out]; simp
  have hgW : g < W0.heap.size := World.block_lt_of_cell? W0 _ HK.out.c0
  have hgq : g ≠ q := by omega
  have hgq2 : ¬ q = g := by omega
  have hwg : w.heap.size ≤ g := by have := HG.out; omega
  have hwq : w.heap.size ≤ q := by omega
  have HW1 := Lib.hid hW1
  have HBq : Hid (Below w.heap.size w W1) := HKB.out.below
  clear hq hW1 hb1 q0 q1 k0 k1
  have k2 := HKB.out.c2
  have k3 := HKB.out.c3
  cases hz : rightB 5 t with
  | false =>
    rw [hz, if_neg (by simp)] at hu
    subst hu
    rw [hz] at HRT
    have HRT := Lib.hid HRT
    clear hz hr hl
    go_enter Try.func27, Try.ntmps27
    go_wp2_with fail
    rw [← HG.out, ← HW0.out, ← HQ.out, ← HW1.out]
    refine (HRT.out _ HBq.out).mono ?_
    rintro e w2 ⟨rfl, hb2⟩
    have HKc := Lib.hid (HKB.out.later hb2)
    have HFQ := Lib.hid (HFQ.out.later hb2)
    have HFG := Lib.hid (HFG.out.later hb2)
    clear hb2 k2 k3
    have k0 := HKc.out.c0
    have k1 := HKc.out.c1
    have k2 := HKc.out.c2
    have k3 := HKc.out.c3
    have m0 := HFQ.out.2 0
    have m1 := HFQ.out.2 1
    obtain ⟨w9, hw9⟩ : ∃ W, W = (w2.setCell ⟨q, 0, none⟩ (.slice none 0 0)).setCell ⟨q, 1, none⟩ (.slice none 0 0) := ⟨_, rfl⟩
    have HB9 : Hid (Below w.heap.size w w9) := by unfold Hid; rw [hw9]; exact (HKc.out.below.setCell (p := ⟨q, 0, none⟩) hwq _).setCell (p := ⟨q, 1, none⟩) hwq _
    have j0 : w9.cell? ⟨q, 0, none⟩ = some (.slice none 0 0) := by rw [hw9]; go_simp
    have j1 : w9.cell? ⟨q, 1, none⟩ = some (.slice none 0 0) := by rw [hw9]; go_simp
    have HW9 := Lib.hid hw9
    clear hw9
    go_wp2_with fail
    rw [← HW9.out]
    refine bodyPost_ret (v := .agg #[.slice none 0 0, .slice none 0 0]) (by simp [results, Try.results27, go_sem, j0, j1]) rfl ⟨none, 0, 0, none, 0, 0, rfl, RdO.none _ _ _ _ _ _, HB9.out⟩
  | true =>
    rw [hz, if_pos rfl] at hu
    subst hu
    rw [hz] at HRT
    have HRT := Lib.hid HRT
    have HRI := Lib.hid (rightB_iff.1 hz)
    have HR := Lib.hid hr
    have HN := Lib.hid hn
    clear hz hr hl hn
    go_enter Try.func27, Try.ntmps27
    go_wp2_with fail
    rw [← HG.out, ← HW0.out, ← HQ.out, ← HW1.out]
    refine (HRT.out _ HBq.out).mono ?_
    rintro e w2 ⟨rfl, hb2⟩
    have HKc := Lib.hid (HKB.out.later hb2)
    have HFQ := Lib.hid (HFQ.out.later hb2)
    have HFG := Lib.hid (HFG.out.later hb2)
    clear hb2 k2 k3
    have k0 := HKc.out.c0
    have k1 := HKc.out.c1
    have k2 := HKc.out.c2
    have k3 := HKc.out.c3
    have m0 := HFQ.out.2 0
    have m1 := HFQ.out.2 1
    obtain ⟨es, ks, rfl⟩ : ∃ es ks, t = .mk es ks := ⟨t.es, t.ks, (T.eta t).symm⟩
    go_wp2_with fail
    refine (kids_any _ _ l A n c true Ae Ak ne nk ce ck w2 HL9.out hn9 ((HRL.out.below HKc.out.below).more HKc.out.below.size) HN.out (RdT.more HKc.out.below.size _ (RdT.below HR.out HKc.out.below))).mono ?_
    rintro e w3 ⟨base, Ak9, nk9, ck9, kr, rfl, hbs1, hbs3, hkr, hb3⟩
    have HKc := Lib.hid (HKc.out.later hb3)
    have HFQ := Lib.hid (HFQ.out.later hb3)
    have hqw2 : q < w2.heap.size := World.block_lt_of_cell? w2 _ k0
    have hws := World.block_lt_of_cell? w2 _ k2
    have hww : w.heap.size ≤ w2.heap.size := by omega
    have HRO := Lib.hid (hkr.tree (ok := fun b => w.heap.size ≤ b ∧ b ≠ q) (fun b hb hlt => ⟨by omega, fun e => by omega⟩) (es := []) (se := ⟨none, 0, 0⟩) rfl (RO.nil _ _ _ _ _))
    clear k0 k1 k2 k3 m0 m1 hkr hb3
    have k0 := HKc.out.c0
    have k1 := HKc.out.c1
    have m0 := HFQ.out.2 0
    have m1 := HFQ.out.2 1
    obtain ⟨w9, hw9⟩ : ∃ W, W = (w3.setCell ⟨q, 0, none⟩ (.slice none 0 0)).setCell ⟨q, 1, none⟩ (.slice Ak9 nk9 ck9) := ⟨_, rfl⟩
    have HT9 : Hid (RdO w9 (fun b => w.heap.size ≤ b) (.mk [] (keepK (fun k => inB l k == true) ks)) ⟨none, 0, 0⟩ ⟨Ak9, nk9, ck9⟩) := by
      unfold Hid
      rw [hw9]
      refine RdO.mono (fun b hb _ => hb.1) _ (RdO.keep (ok := fun b => w.heap.size ≤ b ∧ b ≠ q) (by simp [World.setCell]) (fun b hb hlt => ?_) _ HRO.out)
      exact (Below.heap_setCell _ ⟨q, 1, none⟩ _ b (fun e => hb.2 e)).trans (Below.heap_setCell _ ⟨q, 0, none⟩ _ b (fun e => hb.2 e))
    have HB9 : Hid (Below w.heap.size w w9) := by unfold Hid; rw [hw9]; exact (HKc.out.below.setCell (p := ⟨q, 0, none⟩) hwq _).setCell (p := ⟨q, 1, none⟩) hwq _
    have j0 : w9.cell? ⟨q, 0, none⟩ = some (.slice none 0 0) := by rw [hw9]; go_simp
    have j1 : w9.cell? ⟨q, 1, none⟩ = some (.slice Ak9 nk9 ck9) := by rw [hw9]; go_simp
    have HW9 := Lib.hid hw9
    clear hw9
    go_wp2_with fail
    rw [← HW9.out]
    refine bodyPost_ret (v := .agg #[.slice none 0 0, .slice Ak9 nk9 ck9]) (by simp [results, Try.results27, go_sem, j0, j1]) rfl ⟨none, 0, 0, Ak9, nk9, ck9, rfl, HT9.out, HB9.out⟩
set_option maxRecDepth 100000 in
set_option maxHeartbeats 4000000 in
theorem without_any (t : T) (Ae Ak : Option Addr) (ne nk ce ck : Nat) (w : World) (l : List ByteArray) (A : Option Addr) (n c : Nat) (hl9 : l.length = n) (hn9 : n ≤ 100000) (hrl : Rd w w.heap.size 1 A n c (strs l)) (hl : LenT reachBytes t) (hn : nodes t ≤ 100000) (hr : RdT w w.heap.size t ⟨Ae, ne, ce⟩ ⟨Ak, nk, ck⟩) :
    Calls Try.prog 28 #[.agg #[.slice Ae ne ce, .slice Ak nk ck], .slice A n c] w (TreeIs (if rightB 5 t then .mk t.es (keepK (fun k => inB l k == false) t.ks) else none_) w) := by
  obtain ⟨u, hu⟩ : ∃ u, (if rightB 5 t then .mk t.es (keepK (fun k => inB l k == false) t.ks) else none_) = u := ⟨_, rfl⟩
  rw [hu]
  have HL9 := Lib.hid hl9
  have HRL := Lib.hid hrl
  clear hl9 hrl
  have HRT : ∀ W, Below w.heap.size w W → Calls Try.prog 15 #[.agg #[.slice Ae ne ce, .slice Ak nk ck]] W fun e w' => e = .returned (.bool (rightB 5 t)) ∧ Below W.heap.size W w' := fun W hW => rightT_any t Ae Ak ne nk ce ck W hl (RdT.more hW.size _ (RdT.below hr hW))
  obtain ⟨g, hg⟩ : ∃ g, g = w.heap.size := ⟨_, rfl⟩
  have HK := Lib.hid (tree_box w Ae Ak ne nk ce ck)
  rw [← hg] at HK
  obtain ⟨W0, hW0⟩ : ∃ W, W = w.alloc (.cells #[.slice Ae ne ce, .slice Ak nk ck] 25) := ⟨_, rfl⟩
  rw [← hW0] at HK
  have HG := Lib.hid hg
  have HW0 := Lib.hid hW0
  have k0 := HK.out.c0
  have k1 := HK.out.c1
  clear hg hW0
  obtain ⟨q, hq⟩ : ∃ q, q = W0.heap.size := ⟨_, rfl⟩
  obtain ⟨W1, hW1⟩ : ∃ W, W = W0.alloc (.cells #[.slice none 0 0, .slice none 0 0] 25) := ⟨_, rfl⟩
  have hb1 : Below W0.heap.size W0 W1 := by rw [hW1]; exact Dt.box_below _ _ _
  have q0 : W1.cell? ⟨q, 0, none⟩ = some (.slice none 0 0) := by rw [hW1, hq]; go_simp
  have q1 : W1.cell? ⟨q, 1, none⟩ = some (.slice none 0 0) := by rw [hW1, hq]; go_simp
  have HFQ : Hid (Free q W1) := ⟨by rw [hW1, hq]; simp, fun j => by rw [hW1, hq]; go_simp⟩
  have HFG : Hid (Free g W1) := (show Free g W0 from ⟨World.block_lt_of_cell? W0 _ HK.out.c0, fun j => by rw [HW0.out, HG.out]; go_simp⟩).later hb1
  have HKB := Lib.hid (((HK.out.later hb1).cons_of q1).cons_of q0)
  have HQ : Hid (q = g + 1) := by unfold Hid; rw [hq, HW0.out, HG.out]; simp
  have hgW : g < W0.heap.size := World.block_lt_of_cell? W0 _ HK.out.c0
  have hgq : g ≠ q := by omega
  have hgq2 : ¬ q = g := by omega
  have hwg : w.heap.size ≤ g := by have := HG.out; omega
  have hwq : w.heap.size ≤ q := by omega
  have HW1 := Lib.hid hW1
  have HBq : Hid (Below w.heap.size w W1) := HKB.out.below
  clear hq hW1 hb1 q0 q1 k0 k1
  have k2 := HKB.out.c2
  have k3 := HKB.out.c3
  cases hz : rightB 5 t with
  | false =>
    rw [hz, if_neg (by simp)] at hu
    subst hu
    rw [hz] at HRT
    have HRT := Lib.hid HRT
    clear hz hr hl
    go_enter Try.func28, Try.ntmps28
    go_wp2_with fail
    rw [← HG.out, ← HW0.out, ← HQ.out, ← HW1.out]
    refine (HRT.out _ HBq.out).mono ?_
    rintro e w2 ⟨rfl, hb2⟩
    have HKc := Lib.hid (HKB.out.later hb2)
    have HFQ := Lib.hid (HFQ.out.later hb2)
    have HFG := Lib.hid (HFG.out.later hb2)
    clear hb2 k2 k3
    have k0 := HKc.out.c0
    have k1 := HKc.out.c1
    have k2 := HKc.out.c2
    have k3 := HKc.out.c3
    have m0 := HFQ.out.2 0
    have m1 := HFQ.out.2 1
    obtain ⟨w9, hw9⟩ : ∃ W, W = (w2.setCell ⟨q, 0, none⟩ (.slice none 0 0)).setCell ⟨q, 1, none⟩ (.slice none 0 0) := ⟨_, rfl⟩
    have HB9 : Hid (Below w.heap.size w w9) := by unfold Hid; rw [hw9]; exact (HKc.out.below.setCell (p := ⟨q, 0, none⟩) hwq _).setCell (p := ⟨q, 1, none⟩) hwq _
    have j0 : w9.cell? ⟨q, 0, none⟩ = some (.slice none 0 0) := by rw [hw9]; go_simp
    have j1 : w9.cell? ⟨q, 1, none⟩ = some (.slice none 0 0) := by rw [hw9]; go_simp
    have HW9 := Lib.hid hw9
    clear hw9
    go_wp2_with fail
    rw [← HW9.out]
    refine bodyPost_ret (v := .agg #[.slice none 0 0, .slice none 0 0]) (by simp [results, Try.results28, go_sem, j0, j1]) rfl ⟨none, 0, 0, none, 0, 0, rfl, RdO.none _ _ _ _ _ _, HB9.out⟩
  | true =>
    rw [hz, if_pos rfl] at hu
    subst hu
    rw [hz] at HRT
    have HRT := Lib.hid HRT
    have HRI := Lib.hid (rightB_iff.1 hz)
    have HR := Lib.hid hr
    have HN := Lib.hid hn
    clear hz hr hl hn
    go_enter Try.func28, Try.ntmps28
    go_wp2_with fail
    rw [← HG.out, ← HW0.out, ← HQ.out, ← HW1.out]
    refine (HRT.out _ HBq.out).mono ?_
    rintro e w2 ⟨rfl, hb2⟩
    have HKc := Lib.hid (HKB.out.later hb2)
    have HFQ := Lib.hid (HFQ.out.later hb2)
    have HFG := Lib.hid (HFG.out.later hb2)
    clear hb2 k2 k3
    have k0 := HKc.out.c0
    have k1 := HKc.out.c1
    have k2 := HKc.out.c2
    have k3 := HKc.out.c3
    have m0 := HFQ.out.2 0
    have m1 := HFQ.out.2 1
    obtain ⟨es, ks, rfl⟩ : ∃ es ks, t = .mk es ks := ⟨t.es, t.ks, (T.eta t).symm⟩
    have hlens := rd_lens HR.out
    have HLE := Lib.hid hlens.1
    have hne : ne ≤ 900000 := by have := nodes_es es ks; have := HN.out; have := hlens.1; omega
    have hqw2 : q < w2.heap.size := World.block_lt_of_cell? w2 _ k0
    have hww : w.heap.size ≤ w2.heap.size := by omega
    have HKd := Lib.hid HKc.out.drew
    clear hlens
    go_wp2_with fail
    refine wp_region_held_drew (S := fun W => W.cell? ⟨g, 0, none⟩ = some (.slice Ae ne ce) ∧ W.cell? ⟨g, 1, none⟩ = some (.slice Ak nk ck)) (by kernel_rfl) (by go_keep) (fun hHeld => ?_)
    refine wpAnyH_take (i := 0) (oi := ⟨some 9, _, _, _, _, _⟩) (v := ?_) rfl (by kernel_rfl) (by kernel_rfl) (by kernel_rfl) (fun _ _ _ h => h) (Or.inl ⟨by kernel_rfl, ?_⟩) (by assumption) ?_
    rotate_left
    (intro wz hSw; (try dsimp only at hSw); go_simp; try with_reducible rfl)
    try simp only [Act.put, List.setIfInBounds_toArray, List.set_cons_zero, List.set_cons_succ]
    refine wpAnyH_take (i := 2) (oi := ⟨some 11, _, _, _, _, _⟩) (v := ?_) rfl (by kernel_rfl) (by kernel_rfl) (by kernel_rfl) (fun _ _ _ h => h) (Or.inl ⟨by kernel_rfl, ?_⟩) (by assumption) ?_
    rotate_left
    (intro wz hSw; (try dsimp only at hSw); go_simp; try with_reducible rfl)
    try simp only [Act.put, List.setIfInBounds_toArray, List.set_cons_zero, List.set_cons_succ]
    refine wpAnyH_take (i := 3) (oi := ⟨some 12, _, _, _, _, _⟩) (v := ?_) rfl (by kernel_rfl) (by kernel_rfl) (by kernel_rfl) (fun _ _ _ h => h) (Or.inl ⟨by kernel_rfl, ?_⟩) (by assumption) ?_
    rotate_left
    (intro wz hSw; (try dsimp only at hSw); go_simp; try with_reducible rfl)
    try simp only [Act.put, List.setIfInBounds_toArray, List.set_cons_zero, List.set_cons_succ]
    refine wpAnyH_ready (rs := [1]) (by kernel_rfl) (by simp) ?_
    refine AllReadyH.cons (o := ⟨some 10, _, _, _, _, _⟩) rfl (fun K hK => ?_) AllReadyH.nil
    go_simp
    (go_at_call 57; refine (entries_any es ks Ae Ak ne nk ce ck _ hne (RdT.more HKd.out.below.size _ (RdT.below HR.out HKd.out.below))).mono ?_)
    rintro e w3 ⟨Ae9, ce9, rfl, ho3, hb3⟩
    have HKd := Lib.hid (HKd.out.later hb3)
    have HFQ := Lib.hid ((HFQ.out.drew).later hb3)
    have HO3 := Lib.hid (RO.of_own ho3)
    have hbs3 := hb3.size
    clear ho3 hb3
    refine hK.out _ _ ?_ (fun hHeld2 => ?_)
    · exact ⟨HKd.out.c2, HKd.out.c3⟩
    clear hK K hHeld
    have hHeld := hHeld2
    clear hHeld2
    try simp only [Act.put, List.setIfInBounds_toArray, List.set_cons_zero, List.set_cons_succ]
    refine wpAnyH_ready (rs := [4]) (by kernel_rfl) (by simp) ?_
    refine AllReadyH.cons (o := ⟨some 13, _, _, _, _, _⟩) rfl (fun K hK => ?_) AllReadyH.nil
    go_simp
    (go_at_call 56; refine (kids_any es ks l A n c false Ae Ak ne nk ce ck w3 HL9.out hn9 ((HRL.out.below HKd.out.below).more HKd.out.below.size) HN.out (RdT.more HKd.out.below.size _ (RdT.below HR.out HKd.out.below))).mono ?_)
    rintro e w4 ⟨base, Ak9, nk9, ck9, kr, rfl, hbs1, hbs4, hkr, hb4⟩
    have HKd := Lib.hid (HKd.out.later hb4)
    have HFQ := Lib.hid (HFQ.out.later hb4)
    have hO4 := HO3.out.keep hb4.size (fun b _ hlt => hb4.block b hlt)
    have hsz : w2.drew.heap.size = w2.heap.size := rfl
    have HRO := Lib.hid (hkr.tree (ok := fun b => w.heap.size ≤ b ∧ b ≠ q) (fun b hb hlt => ⟨by omega, fun e => by omega⟩) (es := es) (se := ⟨Ae9, ne, ce9⟩) HLE.out (hO4.mono (fun b hb _ => ⟨by omega, fun e => by omega⟩)))
    have t0 := HKd.out.c0
    have t1 := HKd.out.c1
    have t2 := HKd.out.c2
    have t3 := HKd.out.c3
    have n0 := HFQ.out.2 0
    have n1 := HFQ.out.2 1
    clear hkr hb4 hO4
    refine hK.out _ _ ?_ (fun hHeld2 => ?_)
    · exact ⟨t2, t3⟩
    clear hK K hHeld
    have hHeld := hHeld2
    clear hHeld2
    try simp only [Act.put, List.setIfInBounds_toArray, List.set_cons_zero, List.set_cons_succ]
    refine wpAnyH_take (i := 5) (oi := ⟨some 14, _, _, _, _, _⟩) (v := ?_) rfl (by kernel_rfl) (by kernel_rfl) (by kernel_rfl) (fun _ _ _ h => h) (Or.inl ⟨by kernel_rfl, ?_⟩) (by assumption) ?_
    rotate_left
    (intro wz hSw; (try dsimp only at hSw); go_simp; try with_reducible rfl)
    try simp only [Act.put, List.setIfInBounds_toArray, List.set_cons_zero, List.set_cons_succ]
    refine wpAnyH_ready (rs := [6]) (by kernel_rfl) (by simp) ?_
    refine AllReadyH.cons (o := ⟨none, _, _, _, _, _⟩) rfl (fun K hK => ?_) AllReadyH.nil
    go_simp
    refine hK.out _ _ ?_ (fun hHeld2 => ?_)
    · (try dsimp only); go_keep
    clear hK K hHeld
    have hHeld := hHeld2
    clear hHeld2
    try simp only [Act.put, List.setIfInBounds_toArray, List.set_cons_zero, List.set_cons_succ]
    refine wpAnyH_done (by kernel_rfl) ?_ _
    clear m0 m1
    obtain ⟨w9, hw9⟩ : ∃ W, W = (w4.setCell ⟨q, 0, none⟩ (.slice Ae9 ne ce9)).setCell ⟨q, 1, none⟩ (.slice Ak9 nk9 ck9) := ⟨_, rfl⟩
    have HT9 : Hid (RdO w9 (fun b => w.heap.size ≤ b) (.mk es (keepK (fun k => inB l k == false) ks)) ⟨Ae9, ne, ce9⟩ ⟨Ak9, nk9, ck9⟩) := by
      unfold Hid
      rw [hw9]
      refine RdO.mono (fun b hb _ => hb.1) _ (RdO.keep (ok := fun b => w.heap.size ≤ b ∧ b ≠ q) (by simp [World.setCell]) (fun b hb hlt => ?_) _ HRO.out)
      exact (Below.heap_setCell _ ⟨q, 1, none⟩ _ b (fun e => hb.2 e)).trans (Below.heap_setCell _ ⟨q, 0, none⟩ _ b (fun e => hb.2 e))
    have HB9 : Hid (Below w.heap.size w w9) := by unfold Hid; rw [hw9]; exact (HKd.out.below.setCell (p := ⟨q, 0, none⟩) hwq _).setCell (p := ⟨q, 1, none⟩) hwq _
    have j0 : w9.cell? ⟨q, 0, none⟩ = some (.slice Ae9 ne ce9) := by rw [hw9]; go_simp
    have j1 : w9.cell? ⟨q, 1, none⟩ = some (.slice Ak9 nk9 ck9) := by rw [hw9]; go_simp
    have HW9 := Lib.hid hw9
    clear hw9
    clear t0 t1 t2 t3 n0 n1 hHeld
    go_wp2_with fail
    rw [← HW9.out]
    refine bodyPost_ret (v := .agg #[.slice Ae9 ne ce9, .slice Ak9 nk9 ck9]) (by simp [results, Try.results28, go_sem, j0, j1]) rfl ⟨Ae9, ne, ce9, Ak9, nk9, ck9, rfl, HT9.out, HB9.out⟩
set_option maxRecDepth 100000 in
set_option maxHeartbeats 4000000 in
theorem get_any (t : T) (Ae Ak : Option Addr) (ne nk ce ck : Nat) (w : World) (l : List ByteArray) (A : Option Addr) (n c : Nat) (hl9 : l.length = n) (hn9 : n ≤ 100000) (hrl : Rd w w.heap.size 1 A n c (strs l)) (hl : LenT reachBytes t) (hn : nodes t ≤ 100000) (hr : RdT w w.heap.size t ⟨Ae, ne, ce⟩ ⟨Ak, nk, ck⟩) :
    Calls Try.prog 22 #[.agg #[.slice Ae ne ce, .slice Ak nk ck], .slice A n c] w (TreeIs (if rightB 5 t then getT t l else none_) w) := by
  obtain ⟨u, hu⟩ : ∃ u, (if rightB 5 t then getT t l else none_) = u := ⟨_, rfl⟩
  rw [hu]
  have HL9 := Lib.hid hl9
  have HRL := Lib.hid hrl
  clear hl9 hrl
  have HRT : ∀ W, Below w.heap.size w W → Calls Try.prog 15 #[.agg #[.slice Ae ne ce, .slice Ak nk ck]] W fun e w' => e = .returned (.bool (rightB 5 t)) ∧ Below W.heap.size W w' := fun W hW => rightT_any t Ae Ak ne nk ce ck W hl (RdT.more hW.size _ (RdT.below hr hW))
  obtain ⟨g, hg⟩ : ∃ g, g = w.heap.size := ⟨_, rfl⟩
  have HK := Lib.hid (tree_box w Ae Ak ne nk ce ck)
  rw [← hg] at HK
  obtain ⟨W0, hW0⟩ : ∃ W, W = w.alloc (.cells #[.slice Ae ne ce, .slice Ak nk ck] 25) := ⟨_, rfl⟩
  rw [← hW0] at HK
  have HG := Lib.hid hg
  have HW0 := Lib.hid hW0
  have k0 := HK.out.c0
  have k1 := HK.out.c1
  clear hg hW0
  obtain ⟨q, hq⟩ : ∃ q, q = W0.heap.size := ⟨_, rfl⟩
  obtain ⟨W1, hW1⟩ : ∃ W, W = W0.alloc (.cells #[.slice none 0 0, .slice none 0 0] 25) := ⟨_, rfl⟩
  have hb1 : Below W0.heap.size W0 W1 := by rw [hW1]; exact Dt.box_below _ _ _
  have q0 : W1.cell? ⟨q, 0, none⟩ = some (.slice none 0 0) := by rw [hW1, hq]; go_simp
  have q1 : W1.cell? ⟨q, 1, none⟩ = some (.slice none 0 0) := by rw [hW1, hq]; go_simp
  have HFQ : Hid (Free q W1) := ⟨by rw [hW1, hq]; simp, fun j => by rw [hW1, hq]; go_simp⟩
  have HFG : Hid (Free g W1) := (show Free g W0 from ⟨World.block_lt_of_cell? W0 _ HK.out.c0, fun j => by rw [HW0.out, HG.out]; go_simp⟩).later hb1
  have HKB := Lib.hid (((HK.out.later hb1).cons_of q1).cons_of q0)
  have HQ : Hid (q = g + 1) := by unfold Hid; rw [hq, HW0.out, HG.out]; simp
  have hgW : g < W0.heap.size := World.block_lt_of_cell? W0 _ HK.out.c0
  have hgq : g ≠ q := by omega
  have hgq2 : ¬ q = g := by omega
  have hwg : w.heap.size ≤ g := by have := HG.out; omega
  have hwq : w.heap.size ≤ q := by omega
  have HW1 := Lib.hid hW1
  have HBq : Hid (Below w.heap.size w W1) := HKB.out.below
  clear hq hW1 hb1 q0 q1 k0 k1
  have k2 := HKB.out.c2
  have k3 := HKB.out.c3
  cases hz : rightB 5 t with
  | false =>
    rw [hz, if_neg (by simp)] at hu
    subst hu
    rw [hz] at HRT
    have HRT := Lib.hid HRT
    clear hz hr hl
    go_enter Try.func22, Try.ntmps22
    go_wp2_with fail
    rw [← HG.out, ← HW0.out, ← HQ.out, ← HW1.out]
    refine (HRT.out _ HBq.out).mono ?_
    rintro e w2 ⟨rfl, hb2⟩
    have HKc := Lib.hid (HKB.out.later hb2)
    have HFQ := Lib.hid (HFQ.out.later hb2)
    have HFG := Lib.hid (HFG.out.later hb2)
    clear hb2 k2 k3
    have k0 := HKc.out.c0
    have k1 := HKc.out.c1
    have k2 := HKc.out.c2
    have k3 := HKc.out.c3
    have m0 := HFQ.out.2 0
    have m1 := HFQ.out.2 1
    obtain ⟨w9, hw9⟩ : ∃ W, W = (w2.setCell ⟨q, 0, none⟩ (.slice none 0 0)).setCell ⟨q, 1, none⟩ (.slice none 0 0) := ⟨_, rfl⟩
    have HB9 : Hid (Below w.heap.size w w9) := by unfold Hid; rw [hw9]; exact (HKc.out.below.setCell (p := ⟨q, 0, none⟩) hwq _).setCell (p := ⟨q, 1, none⟩) hwq _
    have j0 : w9.cell? ⟨q, 0, none⟩ = some (.slice none 0 0) := by rw [hw9]; go_simp
    have j1 : w9.cell? ⟨q, 1, none⟩ = some (.slice none 0 0) := by rw [hw9]; go_simp
    have HW9 := Lib.hid hw9
    clear hw9
    go_wp2_with fail
    rw [← HW9.out]
    refine bodyPost_ret (v := .agg #[.slice none 0 0, .slice none 0 0]) (by simp [results, Try.results22, go_sem, j0, j1]) rfl ⟨none, 0, 0, none, 0, 0, rfl, RdO.none _ _ _ _ _ _, HB9.out⟩
  | true =>
    rw [hz, if_pos rfl] at hu
    subst hu
    rw [hz] at HRT
    have HRT := Lib.hid HRT
    have HRI := Lib.hid (rightB_iff.1 hz)
    have HR := Lib.hid hr
    have HN := Lib.hid hn
    clear hz hr hl hn
    go_enter Try.func22, Try.ntmps22
    go_wp2_with fail
    rw [← HG.out, ← HW0.out, ← HQ.out, ← HW1.out]
    refine (HRT.out _ HBq.out).mono ?_
    rintro e w2 ⟨rfl, hb2⟩
    have HKc := Lib.hid (HKB.out.later hb2)
    have HFQ := Lib.hid (HFQ.out.later hb2)
    have HFG := Lib.hid (HFG.out.later hb2)
    clear hb2 k2 k3
    have k0 := HKc.out.c0
    have k1 := HKc.out.c1
    have k2 := HKc.out.c2
    have k3 := HKc.out.c3
    have m0 := HFQ.out.2 0
    have m1 := HFQ.out.2 1
    go_wp2_with fail
    go_loopw [15] (fun i wr => ∃ (k : Nat) (u : T) (Ae5 Ak5 : Option Addr) (ne5 nk5 ce5 ck5 : Nat), k ≤ n ∧ i = .int .i64 k ∧ Hid (u = getT t (l.take k)) ∧ Hid (RightT 5 u) ∧ Hid (nodes u ≤ 100000) ∧ Hid (RdT w w.heap.size u ⟨Ae5, ne5, ce5⟩ ⟨Ak5, nk5, ck5⟩) ∧ Hid (Kept [(⟨g, 0, none⟩, .slice Ae5 ne5 ce5), (⟨g, 1, none⟩, .slice Ak5 nk5 ck5), (⟨q, 0, none⟩, .slice none 0 0), (⟨q, 1, none⟩, .slice none 0 0)] w wr) ∧ Hid (Free g wr) ∧ Hid (Free q wr)) (fun i _ => n - (intOf i).toNat)
    case atStart =>
      exact ⟨0, t, Ae, Ak, ne, nk, ce, ck, by omega, rfl, rfl, HRI.out, HN.out, HR.out, ((((Kept.nil_of HKc.out.below).cons_of k1).cons_of k0).cons_of k3).cons_of k2, HFG.out, HFQ.out⟩
    case round =>
      obtain ⟨k, u, Ae5, Ak5, ne5, nk5, ce5, ck5, hk, rfl, HU, HRU, HNU, HR5, HKW, HFGW, HFQW⟩ := hrel
      clear k0 k1 k2 k3 m0 m1
      have k0 := HKW.out.c0
      have k1 := HKW.out.c1
      have k2 := HKW.out.c2
      have k3 := HKW.out.c3
      have m0 := HFQW.out.2 0
      have m1 := HFQW.out.2 1
      by_cases hlt : k < n
      · have hkl : k < l.length := by rw [HL9.out]; exact hlt
        obtain ⟨b, o, rfl, hb, hc⟩ := HRL.out.at_ (by omega)
        obtain ⟨x, hx⟩ : ∃ x, x = l[k] := ⟨_, rfl⟩
        have cx := (HKW.out.below.cell (p := ⟨b, o + k, none⟩) hb).trans (hc k (.string x) (by rw [hx]; simp [strs, hkl]))
        have HSU := Lib.hid (getT_succ t hkl)
        have HX := Lib.hid hx
        clear hc hx
        obtain ⟨es, ks, rfl⟩ : ∃ es ks, u = .mk es ks := ⟨u.es, u.ks, (T.eta u).symm⟩
        have hlens := rd_lens HR5.out
        have hnk5 : nk5 ≤ 100000 := by have := nodes_es es ks; have := HNU.out; omega
        have HSE := Lib.hid (searchK_any es ks Ae5 Ak5 ne5 nk5 ce5 ck5 x wr (by omega) (RdT.more HKW.out.below.size _ (RdT.below HR5.out HKW.out.below)) (rise_keys HRU.out))
        have HLK5 := Lib.hid hlens.2
        clear hlens
        go_wp2_with fail
        refine HSE.out.mono ?_
        rintro e w3 ⟨i3, z, rfl, ⟨hz1, hz2⟩, hb3⟩
        have HKW := Lib.hid (HKW.out.later hb3)
        have HFGW := Lib.hid (HFGW.out.later hb3)
        have HFQW := Lib.hid (HFQW.out.later hb3)
        clear k0 k1 k2 k3 m0 m1 hb3 cx
        have k0 := HKW.out.c0
        have k1 := HKW.out.c1
        have k2 := HKW.out.c2
        have k3 := HKW.out.c3
        have m0 := HFQW.out.2 0
        have m1 := HFQW.out.2 1
        cases z with
        | false =>
          have hno := kidAt_no (hz2 rfl)
          have hnone : getT t l = none_ := by
            refine getT_cut (k := k + 1) ?_
            rw [HSU.out, ← HU.out, ← HX.out]
            exact hno
          have HNONE := Lib.hid hnone
          clear hz1 hz2 hno hnone
          obtain ⟨w9, hw9⟩ : ∃ W, W = (w3.setCell ⟨q, 0, none⟩ (.slice none 0 0)).setCell ⟨q, 1, none⟩ (.slice none 0 0) := ⟨_, rfl⟩
          have HB9 : Hid (Below w.heap.size w w9) := by unfold Hid; rw [hw9]; exact (HKW.out.below.setCell (p := ⟨q, 0, none⟩) hwq _).setCell (p := ⟨q, 1, none⟩) hwq _
          have j0 : w9.cell? ⟨q, 0, none⟩ = some (.slice none 0 0) := by rw [hw9]; go_simp
          have j1 : w9.cell? ⟨q, 1, none⟩ = some (.slice none 0 0) := by rw [hw9]; go_simp
          have HW9 := Lib.hid hw9
          clear hw9
          go_wp2_with fail
          rw [← HW9.out]
          rw [HNONE.out]
          refine bodyPost_ret (v := .agg #[.slice none 0 0, .slice none 0 0]) (by simp [results, Try.results22, go_sem, j0, j1]) rfl ⟨none, 0, 0, none, 0, 0, rfl, RdO.none _ _ _ _ _ _, HB9.out⟩
        | true =>
          obtain ⟨h31, h32⟩ := hz1 rfl
          have hik : i3 < ks.length := by rw [HLK5.out]; exact h31
          obtain ⟨b2, o2, rfl, hb2, hc2⟩ := rd_kid HR5.out (by omega)
          obtain ⟨⟨Ae6, ne6, ce6⟩, ⟨Ak6, nk6, ck6⟩, _, c1, c2, hkid⟩ := hc2 i3 hik
          dsimp only at c1 c2
          have c1 := (HKW.out.below.cell (p := ⟨b2, o2 + i3 * 3 + 1, none⟩) hb2).trans c1
          have c2 := (HKW.out.below.cell (p := ⟨b2, o2 + i3 * 3 + 2, none⟩) hb2).trans c2
          have hu2 : (ks[i3]).2 = getT t (l.take (k + 1)) := by
            rw [HSU.out, ← HU.out, ← HX.out, ← h32 hik]
            exact (kidAt_at HRU.out.2.2.1 hik).symm
          have HU2 := Lib.hid hu2
          have HRU2 : Hid (RightT 5 (ks[i3]).2) := (HRU.out.2.2.2 _ (List.getElem_mem hik)).2.2.more
          have HNU2 : Hid (nodes (ks[i3]).2 ≤ 100000) := Nat.le_trans (nodes_kid (List.getElem_mem hik)) HNU.out
          have HKID := Lib.hid hkid
          have m2 := HFGW.out.2 0
          have m3 := HFGW.out.2 1
          obtain ⟨w4, hw4⟩ : ∃ W, W = (w3.setCell ⟨g, 0, none⟩ (.slice Ae6 ne6 ce6)).setCell ⟨g, 1, none⟩ (.slice Ak6 nk6 ck6) := ⟨_, rfl⟩
          have j0 : w4.cell? ⟨g, 0, none⟩ = some (.slice Ae6 ne6 ce6) := by rw [hw4]; go_simp
          have j1 : w4.cell? ⟨g, 1, none⟩ = some (.slice Ak6 nk6 ck6) := by rw [hw4]; go_simp
          have HB4 : Hid (Below w.heap.size w w4) := by unfold Hid; rw [hw4]; exact (HKW.out.below.setCell (p := ⟨g, 0, none⟩) hwg _).setCell (p := ⟨g, 1, none⟩) hwg _
          have j2 : w4.cell? ⟨q, 0, none⟩ = some (.slice none 0 0) := by rw [hw4]; go_simp
          have j3 : w4.cell? ⟨q, 1, none⟩ = some (.slice none 0 0) := by rw [hw4]; go_simp
          have HK4 : Hid (Kept [(⟨g, 0, none⟩, .slice Ae6 ne6 ce6), (⟨g, 1, none⟩, .slice Ak6 nk6 ck6), (⟨q, 0, none⟩, .slice none 0 0), (⟨q, 1, none⟩, .slice none 0 0)] w w4) := ((((Kept.nil_of HB4.out).cons_of j3).cons_of j2).cons_of j1).cons_of j0
          have HFG4 : Hid (Free g w4) := by unfold Hid; rw [hw4]; exact (HFGW.out.set _ _).set _ _
          have HFQ4 : Hid (Free q w4) := by unfold Hid; rw [hw4]; exact (HFQW.out.set _ _).set _ _
          have HW4 := Lib.hid hw4
          have h31i : (i3 : Int) < nk5 := by omega
          clear hz1 hz2 hc2 hkid hu2 h32 hw4 j0 j1 j2 j3
          go_wp2_with fail
          rw [← HW4.out]
          go_roundw
          case rel => exact ⟨k + 1, _, Ae6, Ak6, ne6, nk6, ce6, ck6, by omega, by go_num, HU2.out, HRU2.out, HNU2.out, HKID.out, HK4.out, HFG4.out, HFQ4.out⟩
          case measure => simp [intOf]; omega
      · obtain rfl : k = n := by omega
        have hall : l.take k = l := List.take_of_length_le (by rw [HL9.out]; omega)
        have HUA : Hid (u = getT t l) := by have := HU.out; rwa [hall] at this
        clear hall
        go_wp2_with fail
        refine (copied_any u Ae5 Ak5 ne5 nk5 ce5 ck5 wr HNU.out (RdT.more HKW.out.below.size _ (RdT.below HR5.out HKW.out.below))).mono ?_
        rintro e w3 ⟨Ae9, ce9, Ak9, ck9, rfl, hro, hb3⟩
        have hqw2 : q < wr.heap.size := World.block_lt_of_cell? wr _ k2
        have hww : w.heap.size ≤ wr.heap.size := by omega
        have HKW := Lib.hid (HKW.out.later hb3)
        have HFQW := Lib.hid (HFQW.out.later hb3)
        have HRO := Lib.hid (RdO.mono (ok' := fun b => w.heap.size ≤ b ∧ b ≠ q) (fun b hb _ => ⟨by omega, fun e => by omega⟩) _ hro)
        clear k0 k1 k2 k3 m0 m1 hro hb3
        have k2 := HKW.out.c2
        have k3 := HKW.out.c3
        have m0 := HFQW.out.2 0
        have m1 := HFQW.out.2 1
        obtain ⟨w9, hw9⟩ : ∃ W, W = (w3.setCell ⟨q, 0, none⟩ (.slice Ae9 ne5 ce9)).setCell ⟨q, 1, none⟩ (.slice Ak9 nk5 ck9) := ⟨_, rfl⟩
        have HT9 : Hid (RdO w9 (fun b => w.heap.size ≤ b) (u) ⟨Ae9, ne5, ce9⟩ ⟨Ak9, nk5, ck9⟩) := by
          unfold Hid
          rw [hw9]
          refine RdO.mono (fun b hb _ => hb.1) _ (RdO.keep (ok := fun b => w.heap.size ≤ b ∧ b ≠ q) (by simp [World.setCell]) (fun b hb hlt => ?_) _ HRO.out)
          exact (Below.heap_setCell _ ⟨q, 1, none⟩ _ b (fun e => hb.2 e)).trans (Below.heap_setCell _ ⟨q, 0, none⟩ _ b (fun e => hb.2 e))
        have HB9 : Hid (Below w.heap.size w w9) := by unfold Hid; rw [hw9]; exact (HKW.out.below.setCell (p := ⟨q, 0, none⟩) hwq _).setCell (p := ⟨q, 1, none⟩) hwq _
        have j0 : w9.cell? ⟨q, 0, none⟩ = some (.slice Ae9 ne5 ce9) := by rw [hw9]; go_simp
        have j1 : w9.cell? ⟨q, 1, none⟩ = some (.slice Ak9 nk5 ck9) := by rw [hw9]; go_simp
        have HW9 := Lib.hid hw9
        clear hw9
        go_wp2_with fail
        rw [← HW9.out]
        refine bodyPost_ret (v := .agg #[.slice Ae9 ne5 ce9, .slice Ak9 nk5 ck9]) (by simp [results, Try.results22, go_sem, j0, j1]) rfl ⟨Ae9, ne5, ce9, Ak9, nk5, ck9, rfl, by have h9 := HT9.out; rw [HUA.out] at h9; exact h9, HB9.out⟩
end Tr
end Go.Proofs.Ytbfcbfadfnaebaa
