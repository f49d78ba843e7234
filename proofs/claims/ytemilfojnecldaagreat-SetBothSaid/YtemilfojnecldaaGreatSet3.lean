/- Sets: the elements; is a text one of them: the program. -/
import Derived.Test.YtemilfojnecldaaGreatSet1
set_option maxRecDepth 100000
set_option maxHeartbeats 4000000
namespace Go.Proofs.YtemilfojnecldaaGreat
open Go.ChangeShapes Go.WideShapes Go.ChangeAt Go.RowKit
namespace Cs
open Tr Cx Sp Rw Classical
def elemsK (ks : List Kd) : List ByteArray := (ks.filter fun k => decide (0 < k.2.es.length)).map fun k => k.1
theorem elemsK_yes {ks : List Kd} {k : Nat} (h : k < ks.length) (h2 : 0 < (ks[k]).2.es.length) : elemsK (ks.take (k + 1)) = elemsK (ks.take k) ++ [(ks[k]).1] := by
 unfold elemsK; rw [List.take_succ_eq_append_getElem h, List.filter_append, List.map_append]
 congr 1
 rw [List.filter_cons, if_pos (decide_eq_true h2)]; rfl
theorem elemsK_no {ks : List Kd} {k : Nat} (h : k < ks.length) (h2 : ¬ 0 < (ks[k]).2.es.length) : elemsK (ks.take (k + 1)) = elemsK (ks.take k) := by
 unfold elemsK; rw [List.take_succ_eq_append_getElem h, List.filter_append, List.map_append]; rw [List.filter_cons, if_neg (by rw [decide_eq_true_iff]; exact h2)]; simp
theorem elemsK_all {ks : List Kd} {k : Nat} (h : ks.length = k) : elemsK (ks.take k) = elemsK ks := by rw [List.take_of_length_le (by omega)]
theorem has_elems {t : T} {s : ByteArray} (ht : RightT 5 t) : s ∈ elemsT t ↔ 0 < (kidAt t.ks s).es.length := by
 rw [mem_elems ht, es_some]; rfl
theorem selems_any (t : T) (Ae Ak : Option Addr) (ne nk ce ck : Nat) (w : World) (l : List ByteArray) (hl0 : (if Tr.rightB 5 t = true then elemsT t else []) = l) (hl : LenT reachBytes t) (hn : nodes t ≤ 1000) (hr : RdT w w.heap.size t ⟨Ae, ne, ce⟩ ⟨Ak, nk, ck⟩) :
  Calls Tryz.prog 21 #[.agg #[.slice Ae ne ce, .slice Ak nk ck]] w (fun e w' => ∃ (A : Option Addr) (m c : Nat), e = .returned (.slice A m c) ∧ Hid (Rd w' w'.heap.size 1 A m c (strs l)) ∧ Below w.heap.size w w') := by
 have HRT : ∀ W, Below w.heap.size w W → Hid (Calls Tryz.prog 48 #[.agg #[.slice Ae ne ce, .slice Ak nk ck]] W fun e w' => e = .returned (.bool (Tr.rightB 5 t)) ∧ Below W.heap.size W w') := fun W hW => rightT_any t Ae Ak ne nk ce ck W hl (RdT.more hW.size _ (RdT.below hr hW)); obtain ⟨z, hz⟩ : ∃ z, Tr.rightB 5 t = z := ⟨_, rfl⟩; rw [hz] at hl0 HRT; have HZ := Lib.hid hz; have HL0 := Lib.hid hl0; clear hz hl0
 cases t with
 | mk es ks =>
  obtain ⟨hle, hlk⟩ := rd_lens hr; have HR := Lib.hid hr; have HL := Lib.hid hl; have HLK := Lib.hid hlk
  have hnk : nk ≤ 1000 := by have := nodes_es es ks; omega
  have hkn : ∀ k ∈ ks, nodes k.2 ≤ 1000 := fun k hk => by have := nodes_kid (es := es) hk; omega
  have HKN := Lib.hid hkn; clear hle hlk hr hl hn hkn; obtain ⟨g, hg⟩ : ∃ g, g = w.heap.size := ⟨_, rfl⟩; have HK := Lib.hid (tree_box w Ae Ak ne nk ce ck); rw [← hg] at HK; obtain ⟨W0, hW0⟩ : ∃ W, W = w.alloc (.cells #[.slice Ae ne ce, .slice Ak nk ck] 25) := ⟨_, rfl⟩; rw [← hW0] at HK; have HG := Lib.hid hg; have HW0 := Lib.hid hW0; have k0 := HK.out.c0; have k1 := HK.out.c1; clear hg hW0; go_enter Tryz.func21, Tryz.ntmps21; go_wp2_with fail; rw [← HG.out, ← HW0.out]; refine (HRT W0 HK.out.below).out.mono ?_; rintro e w1 ⟨rfl, hb9⟩; have HKc := Lib.hid (HK.out.later hb9); clear hb9 k0 k1 HRT; have k0 := HKc.out.c0; have k1 := HKc.out.c1
  cases z with
  | false =>
   obtain rfl : [] = l := by rw [← HL0.out]; rfl
   go_wp2_with fail; go_ret; exact ⟨none, 0, 0, rfl, Rd.nil _, HKc.out.below⟩
  | true =>
   have HRI : Hid (RightT 5 (.mk es ks)) := Tr.rightB_iff.1 HZ.out
   obtain rfl : elemsK ks = l := by rw [← HL0.out]; rfl
   go_wp2_with fail
   go_loopw [3, 12] (fun v i wr => ∃ (k m : Nat) (Ax : Option Addr) (cx : Nat), k ≤ nk ∧ m ≤ k ∧ i = .int .i64 k ∧ v = .slice Ax m cx ∧ Hid (Own wr w1.heap.size 9 1 Ax m cx (strs (elemsK (ks.take k)))) ∧ Hid (Below w1.heap.size w1 wr)) (fun _ i _ => nk - (intOf i).toNat)
   case atStart => exact ⟨0, 0, none, 0, by omega, by omega, rfl, rfl, ⟨World.ownsRow_nil _ _ _ _, by simp [Tr.strs, elemsK]⟩, Below.refl _ _⟩
   case round =>
    obtain ⟨k, m, Ax, cx, hk, hmk, rfl, rfl, HO, HBL⟩ := hrel
    by_cases hlt : k < nk
    ·have hbw := HKc.out.below.trans (HBL.out.mono HKc.out.below.size)
     have hkl : k < ks.length := by rw [HLK.out]; exact hlt
     obtain ⟨b, o, rfl, hb, hc⟩ := rd_kid HR.out (by omega); obtain ⟨⟨Ae', ne', ce'⟩, ⟨Ak', nk', ck'⟩, c0, c1, c2, hkid⟩ := hc k hkl; dsimp only at c0 c1 c2; have c0 := (hbw.cell (p := ⟨b, o + k * 3, none⟩) hb).trans c0; have c1 := (hbw.cell (p := ⟨b, o + k * 3 + 1, none⟩) hb).trans c1; have c2 := (hbw.cell (p := ⟨b, o + k * 3 + 2, none⟩) hb).trans c2; obtain ⟨key, hkey⟩ : ∃ key, key = (ks[k]).1 := ⟨_, rfl⟩; rw [← hkey] at c0
     have hle' : (ks[k]).2.es.length = ne' := by
      have h := hkid; rw [← T.eta (ks[k]).2] at h; exact (rd_lens h).1
     obtain ⟨W1, hW1⟩ : ∃ W, W = wr.alloc (.cells #[.string key, .slice Ae' ne' ce', .slice Ak' nk' ck'] 67) := ⟨_, rfl⟩; obtain ⟨q, hq⟩ : ∃ q, q = wr.heap.size := ⟨_, rfl⟩
     have hb1 : Below wr.heap.size wr W1 := by rw [hW1]; exact Dt.box_below _ _ _
     have q0 : W1.cell? ⟨q, 0, none⟩ = some (.string key) := by rw [hW1, hq]; go_simp
     have HKQ := Lib.hid ((Kept.nil_of hb1).cons_of q0); have hbw1 := hbw.trans (hb1.mono hbw.size); have hright : Tr.rightB 5 (ks[k]).2 = true := Tr.rightB_iff.2 ((HRI.out.2.2.2 _ (List.getElem_mem hkl)).2.2.more); have hmem : (ks[k]) ∈ ks := List.getElem_mem hkl; have hon : ∀ y, decide (0 < ne') = y → Calls Tryz.prog 49 #[.agg #[.slice Ae' ne' ce', .slice Ak' nk' ck']] W1 fun e w' => e = .returned (.bool y) ∧ Below W1.heap.size W1 w' := fun y hy => on_any (ks[k]).2 Ae' Ak' ne' nk' ce' ck' W1 y (by rw [hright, hy]; rfl) (LenT.few (by have := HKN.out _ hmem; omega)) (RdT.more hbw1.size _ (RdT.below hkid hbw1)); have HON := Lib.hid hon; have HO1 := Lib.hid (own_later HO.out hb1); have HBL1 := Lib.hid (HBL.out.trans (hb1.mono HBL.out.size)); have HQ := Lib.hid hq; have HW1 := Lib.hid hW1
     by_cases hy : 0 < ne'
     ·have HSUC : Hid (elemsK (ks.take (k + 1)) = elemsK (ks.take k) ++ [key]) := by unfold Hid; rw [hkey]; exact elemsK_yes hkl (by rw [hle']; exact hy)
      have HC := Lib.hid (HON.out true (decide_eq_true hy)); clear hc hkid hkey hle' hq hW1 hb1 q0 hbw1 hright hmem hon HON hbw; go_wp2_with fail; rw [← HQ.out, ← HW1.out]; refine HC.out.mono ?_; rintro e w2 ⟨rfl, hb2⟩; have HO := Lib.hid (own_later HO1.out hb2); have HBL := Lib.hid (HBL1.out.trans (hb2.mono HBL1.out.size)); have q0 := (HKQ.out.later hb2).c0; clear hb2 HC HO1 HBL1 c0 c1 c2; obtain ⟨A6, c6, w6, r1, r2, r3⟩ := push_str w2 w1.heap.size w2.heap.size rfl HO.out HBL.out.size key (by omega)
      have HO6 : Hid (Own w6 w1.heap.size 9 1 A6 (m + 1) c6 (strs (elemsK (ks.take (k + 1))))) := by unfold Hid; rw [HSUC.out]; exact r2
      have HBL6 := Lib.hid (HBL.out.trans r3); have Hrun := Lib.hid r1; clear r1 r2 r3; go_wp2_with (at_builtin; refine Lib.wpList_append_run _ rfl _ _ _ _ rfl _ _ rfl rfl _ _ Hrun.out ?_); go_roundw
      case rel => exact ⟨k + 1, m + 1, A6, c6, by omega, by omega, by go_num, rfl, HO6.out, HBL6.out⟩
      case measure => simp [intOf]; omega
     ·have HSUC : Hid (elemsK (ks.take (k + 1)) = elemsK (ks.take k)) := by unfold Hid; exact elemsK_no hkl (by rw [hle']; exact hy)
      have HC := Lib.hid (HON.out false (decide_eq_false hy)); clear hc hkid hkey hle' hq hW1 hb1 q0 hbw1 hright hmem hon HON hbw; go_wp2_with fail; rw [← HQ.out, ← HW1.out]; refine HC.out.mono ?_; rintro e w2 ⟨rfl, hb2⟩
      have HO2 : Hid (Own w2 w1.heap.size 9 1 Ax m cx (strs (elemsK (ks.take (k + 1))))) := by unfold Hid; rw [HSUC.out]; exact own_later HO1.out hb2
      have HBL := Lib.hid (HBL1.out.trans (hb2.mono HBL1.out.size)); clear hb2 HC HO1 HBL1 c0 c1 c2; go_wp2_with fail; go_roundw
      case rel => exact ⟨k + 1, m, Ax, cx, by omega, by omega, by go_num, rfl, HO2.out, HBL.out⟩
      case measure => simp [intOf]; omega
    ·obtain rfl : k = nk := by omega
     have HRD : Hid (Rd wr wr.heap.size 1 Ax m cx (strs (elemsK ks))) := by
      have h1 := HO.out; rw [elemsK_all HLK.out] at h1; exact h1.rd
     have HB := Lib.hid (HKc.out.below.trans (HBL.out.mono HKc.out.below.size)); go_wp2_with fail; go_ret; exact ⟨Ax, m, cx, rfl, HRD.out, HB.out⟩
theorem shas_any (t : T) (Ae Ak : Option Addr) (ne nk ce ck : Nat) (s : ByteArray) (w : World) (z : Bool) (hz : (Tr.rightB 5 t && decide (s ∈ elemsT t)) = z) (hl : LenT reachBytes t) (hn : nodes t ≤ 1000) (hr : RdT w w.heap.size t ⟨Ae, ne, ce⟩ ⟨Ak, nk, ck⟩) :
  Calls Tryz.prog 23 #[.agg #[.slice Ae ne ce, .slice Ak nk ck], .string s] w fun e w' => e = .returned (.bool z) ∧ Below w.heap.size w w' := by
 have HR := Lib.hid hr; have HL := Lib.hid hl; have HN := Lib.hid hn; have HZ := Lib.hid hz; clear hr hl hn hz; obtain ⟨g, hg⟩ : ∃ g, g = w.heap.size := ⟨_, rfl⟩; have HK := Lib.hid (tree_box w Ae Ak ne nk ce ck); rw [← hg] at HK; obtain ⟨W0, hW0⟩ : ∃ W, W = w.alloc (.cells #[.slice Ae ne ce, .slice Ak nk ck] 25) := ⟨_, rfl⟩; rw [← hW0] at HK; have HG := Lib.hid hg; have HW0 := Lib.hid hW0; have k0 := HK.out.c0; have k1 := HK.out.c1; clear hg hW0
 have hs0 : W0.heap.size = g + 1 := by rw [HW0.out, HG.out]; simp
 obtain ⟨g2, hg2⟩ : ∃ z, z = g + 1 := ⟨_, rfl⟩; obtain ⟨W1, hW1⟩ : ∃ W, W = W0.alloc (.cells #[.string s] 9) := ⟨_, rfl⟩
 have hb1 : Below W0.heap.size W0 W1 := by rw [hW1]; exact Dt.box_below _ _ _
 have HS : Hid (Rd W1 W1.heap.size 1 (some ⟨g2, 0, none⟩) 1 1 (strs [s])) := by unfold Hid; rw [hW1, hg2, ← hs0]; exact rd_one1 _ _
 have HKc := Lib.hid (HK.out.later hb1); have HG2 := Lib.hid hg2; have HW1 := Lib.hid hW1; clear hg2 hW1 hb1 hs0; go_enter Tryz.func23, Tryz.ntmps23; go_wp2_with fail; rw [← HG.out, ← HW0.out, ← HG2.out, ← HW1.out]; refine (get_any t Ae Ak ne nk ce ck W1 [s] (some ⟨g2, 0, none⟩) 1 1 rfl (by omega) HS.out HL.out (by have := HN.out; omega) (RdT.more HKc.out.below.size _ (RdT.below HR.out HKc.out.below))).mono ?_; rintro e w2 ⟨Ge, gn, gc, Gk, gm, gd, rfl, ho, hb9⟩; have HKd := Lib.hid (HKc.out.later hb9)
 obtain ⟨u, hu⟩ : ∃ u, (if Tr.rightB 5 t = true then getT t [s] else none_) = u := ⟨_, rfl⟩
 rw [hu] at ho
 have hnu : nodes u ≤ 1000 := by
  rw [← hu]
  split
  ·exact Nat.le_trans (nodes_kid_at t s) HN.out
  ·rw [nodes_none]; omega
 have hgn : u.es.length = gn := by
  have h := ho.rd; rw [← T.eta u] at h; exact (rd_lens h).1
 have hzz : (Tr.rightB 5 u && decide (0 < gn)) = z := by
  rw [← HZ.out, ← hgn, ← hu]
  cases hrt : Tr.rightB 5 t with
  | false => rw [if_neg (by simp)]; simp [none_, T.es]
  | true =>
   have ht := Tr.rightB_iff.1 hrt; rw [if_pos rfl, show getT t [s] = kidAt t.ks s from rfl, Tr.rightB_iff.2 (kid_right ht s), decide_eq_decide.2 (has_elems ht).symm]
 have HON := Lib.hid (on_any u Ge Gk gn gm gc gd w2 z hzz (LenT.few (by omega)) ho.rd); clear ho hb9 hu hnu hgn hzz k0 k1; go_wp2_with fail; refine HON.out.mono ?_; rintro e w3 ⟨rfl, hb9⟩; have HKe := Lib.hid (HKd.out.later hb9); clear hb9; go_wp2_with fail; go_ret; exact ⟨rfl, HKe.out.below⟩
end Cs
end Go.Proofs.YtemilfojnecldaaGreat
