/- Sets: a key, the elements, two lists, a list without one: the document's. -/
import Derived.Test.YtemilfojnecldaaGreatSet3
import Derived.Test.YtemilfojnecldaaGreatG00
set_option maxRecDepth 100000
set_option maxHeartbeats 4000000
namespace Go.Proofs.YtemilfojnecldaaGreat
open Go.ChangeShapes Go.WideShapes Go.ChangeAt Go.RowKit
namespace Cs
open Tr Cx Sp Rw Classical
theorem refelems_any (t : T) (Ae Ak : Option Addr) (ne nk ce ck : Nat) (w : World) (hl : LenT reachBytes t) (hn : nodes t ≤ 1000) (hr : RdT w w.heap.size t ⟨Ae, ne, ce⟩ ⟨Ak, nk, ck⟩) :
  Calls Tryz.prog 20 #[.agg #[.slice Ae ne ce, .slice Ak nk ck]] w (fun e w' => ∃ (A : Option Addr) (m c : Nat), e = .returned (.slice A m c) ∧ Hid (Rd w' w'.heap.size 1 A m c (strs (elemsT t))) ∧ Below w.heap.size w w') := by
 cases t with
 | mk es ks =>
  obtain ⟨hle, hlk⟩ := rd_lens hr; have HR := Lib.hid hr; have HL := Lib.hid hl; have HLK := Lib.hid hlk
  have hnk : nk ≤ 1000 := by have := nodes_es es ks; omega
  have hkn : ∀ k ∈ ks, nodes k.2 ≤ 1000 := fun k hk => by have := nodes_kid (es := es) hk; omega
  have HKN := Lib.hid hkn; clear hle hlk hr hl hn hkn; obtain ⟨g, hg⟩ : ∃ g, g = w.heap.size := ⟨_, rfl⟩; have HK := Lib.hid (tree_box w Ae Ak ne nk ce ck); rw [← hg] at HK; obtain ⟨W0, hW0⟩ : ∃ W, W = w.alloc (.cells #[.slice Ae ne ce, .slice Ak nk ck] 25) := ⟨_, rfl⟩; rw [← hW0] at HK; have HG := Lib.hid hg; have HW0 := Lib.hid hW0; have k0 := HK.out.c0; have k1 := HK.out.c1; clear hg hW0; rw [show elemsT (.mk es ks) = elemsK ks from rfl]; go_enter Tryz.func20, Tryz.ntmps20; go_wp2_with fail; rw [← HG.out, ← HW0.out]; go_wp2_with fail
  go_loopw [3, 8] (fun v i wr => ∃ (k m : Nat) (Ax : Option Addr) (cx : Nat), k ≤ nk ∧ m ≤ k ∧ i = .int .i64 k ∧ v = .slice Ax m cx ∧ Hid (Own wr W0.heap.size 9 1 Ax m cx (strs (elemsK (ks.take k)))) ∧ Hid (Below W0.heap.size W0 wr)) (fun _ i _ => nk - (intOf i).toNat)
  case atStart => exact ⟨0, 0, none, 0, by omega, by omega, rfl, rfl, ⟨World.ownsRow_nil _ _ _ _, by simp [Tr.strs, elemsK]⟩, Below.refl _ _⟩
  case round =>
   obtain ⟨k, m, Ax, cx, hk, hmk, rfl, rfl, HO, HBL⟩ := hrel; clear k0 k1; have k0 := (HBL.out.cell (p := ⟨g, 0, none⟩) (World.block_lt_of_cell? W0 _ HK.out.c0)).trans HK.out.c0; have k1 := (HBL.out.cell (p := ⟨g, 1, none⟩) (World.block_lt_of_cell? W0 _ HK.out.c1)).trans HK.out.c1
   by_cases hlt : k < nk
   ·have hbw := HK.out.below.trans (HBL.out.mono HK.out.below.size)
    have hkl : k < ks.length := by rw [HLK.out]; exact hlt
    obtain ⟨b, o, rfl, hb, hc⟩ := rd_kid HR.out (by omega); obtain ⟨⟨Ae', ne', ce'⟩, ⟨Ak', nk', ck'⟩, c0, c1, c2, hkid⟩ := hc k hkl; dsimp only at c0 c1 c2; have c0 := (hbw.cell (p := ⟨b, o + k * 3, none⟩) hb).trans c0; have c1 := (hbw.cell (p := ⟨b, o + k * 3 + 1, none⟩) hb).trans c1; have c2 := (hbw.cell (p := ⟨b, o + k * 3 + 2, none⟩) hb).trans c2; obtain ⟨key, hkey⟩ : ∃ key, key = (ks[k]).1 := ⟨_, rfl⟩; rw [← hkey] at c0
    have hle' : (ks[k]).2.es.length = ne' := by
     have h := hkid; rw [← T.eta (ks[k]).2] at h; exact (rd_lens h).1
    by_cases hy : 0 < ne'
    ·have HSUC : Hid (elemsK (ks.take (k + 1)) = elemsK (ks.take k) ++ [key]) := by unfold Hid; rw [hkey]; exact elemsK_yes hkl (by rw [hle']; exact hy)
     have fy : decide ((0 : Int) < (ne' : Int)) = true := decide_eq_true (by omega); clear hc hkid hkey hle' hbw; obtain ⟨A6, c6, w6, r1, r2, r3⟩ := push_str wr W0.heap.size wr.heap.size rfl HO.out HBL.out.size key (by omega)
     have HO6 : Hid (Own w6 W0.heap.size 9 1 A6 (m + 1) c6 (strs (elemsK (ks.take (k + 1))))) := by unfold Hid; rw [HSUC.out]; exact r2
     have HBL6 := Lib.hid (HBL.out.trans r3); have Hrun := Lib.hid r1; clear r1 r2 r3; go_wp2_with (at_builtin; refine Lib.wpList_append_run _ rfl _ _ _ _ rfl _ _ rfl rfl _ _ Hrun.out ?_); go_roundw
     case rel => exact ⟨k + 1, m + 1, A6, c6, by omega, by omega, by go_num, rfl, HO6.out, HBL6.out⟩
     case measure => simp [intOf]; omega
    ·have HO2 : Hid (Own wr W0.heap.size 9 1 Ax m cx (strs (elemsK (ks.take (k + 1))))) := by unfold Hid; rw [elemsK_no hkl (by rw [hle']; exact hy)]; exact HO.out
     have fy : decide ((0 : Int) < (ne' : Int)) = false := decide_eq_false (by omega); clear hc hkid hkey hle' hbw; go_wp2_with fail; go_roundw
     case rel => exact ⟨k + 1, m, Ax, cx, by omega, by omega, by go_num, rfl, HO2.out, HBL.out⟩
     case measure => simp [intOf]; omega
   ·obtain rfl : k = nk := by omega
    have HRD : Hid (Rd wr wr.heap.size 1 Ax m cx (strs (elemsK ks))) := by
     have h1 := HO.out; rw [elemsK_all HLK.out] at h1; exact h1.rd
    have HB := Lib.hid (HK.out.below.trans (HBL.out.mono HK.out.below.size)); go_wp2_with fail; go_ret; exact ⟨Ax, m, cx, rfl, HRD.out, HB.out⟩
theorem refalike_any (a b : List ByteArray) (n m : Nat) (A B : Option Addr) (c d : Nat) (w : World) (hn : n ≤ 1000) (hra : Rd w w.heap.size 1 A n c (strs a)) (hrb : Rd w w.heap.size 1 B m d (strs b)) (z : Bool) (hz : decide (a = b) = z) :
  Calls Tryz.prog 22 #[.slice A n c, .slice B m d] w fun e w' => e = .returned (.bool z) ∧ Below w.heap.size w w' := by
 have HZ := Lib.hid hz; have HA := Lib.hid hra; have HB := Lib.hid hrb; have HLA := Lib.hid (rd_len1 hra); have HLB := Lib.hid (rd_len1 hrb); clear hra hrb hz
 by_cases hnm : n = m
 ·subst hnm
  have f0 : (n != n) = false := by simp
  go_enter Tryz.func22, Tryz.ntmps22; go_wp2
  go_loopw [13] (fun i wr => ∃ (k : Nat), k ≤ n ∧ i = .int .i64 k ∧ Hid (a.take k = b.take k) ∧ Hid (Below w.heap.size w wr)) (fun i _ => n - (intOf i).toNat)
  case atStart => exact ⟨0, by omega, rfl, Lib.hid (by rw [List.take_zero, List.take_zero]), Below.refl _ _⟩
  case round =>
   obtain ⟨k, hk, rfl, HT, HBL⟩ := hrel
   by_cases hlt : k < n
   ·have hka : k < a.length := by rw [HLA.out]; exact hlt
    have hkb : k < b.length := by rw [HLB.out]; exact hlt
    obtain ⟨g, o, rfl, hgl, hc⟩ := rd_text HA.out (by omega); obtain ⟨g2, o2, rfl, hgl2, hc2⟩ := rd_text HB.out (by omega); have q0 := (HBL.out.cell (p := ⟨g, o + k, none⟩) hgl).trans (hc k hka); have r0 := (HBL.out.cell (p := ⟨g2, o2 + k, none⟩) hgl2).trans (hc2 k hkb); have hT1 : a.take (k + 1) = a.take k ++ [a[k]] := List.take_succ_eq_append_getElem hka; have hT2 : b.take (k + 1) = b.take k ++ [b[k]] := List.take_succ_eq_append_getElem hkb; obtain ⟨x, hx⟩ : ∃ x, x = a[k] := ⟨_, rfl⟩; obtain ⟨y, hy⟩ : ∃ y, y = b[k] := ⟨_, rfl⟩; rw [← hx] at q0 hT1; rw [← hy] at r0 hT2
    by_cases h0 : x = y
    ·subst h0
     have HT2 : Hid (a.take (k + 1) = b.take (k + 1)) := by unfold Hid; rw [hT1, hT2, HT.out]
     clear hc hc2 hT1 hT2 hx hy; go_wp2
     go_quiet (fail)
     go_wp2; go_roundw
     case rel => exact ⟨k + 1, by omega, by go_num, HT2.out, bel_drewN HBL.out _⟩
     case measure => simp [intOf]; omega
    ·have f2 : (x.toList == y.toList) = false := bytes_ne h0
     have f3 : (x.toList != y.toList) = true := by unfold bne; rw [f2]; rfl
     obtain rfl : z = false := by
      rw [← HZ.out]; refine decide_eq_false fun e => ?_; subst e; exact h0 (hx.trans hy.symm)
     clear hc hc2 hT1 hT2 hx hy h0; go_wp2
     go_quiet (fail)
     go_wp2; go_ret; exact ⟨rfl, bel_drewN HBL.out _⟩
   ·obtain rfl : k = n := by omega
    obtain rfl : z = true := by
     rw [← HZ.out]; have h := HT.out; rw [List.take_of_length_le (by rw [HLA.out]; omega), List.take_of_length_le (by rw [HLB.out]; omega)] at h; exact decide_eq_true h
    go_wp2; go_ret; exact ⟨rfl, HBL.out⟩
 ·have f0 : (n != m) = true := by simpa using hnm
  have f1 : ((n : Int) != (m : Int)) = true := by simp; omega
  obtain rfl : z = false := by
   rw [← HZ.out]; refine decide_eq_false fun e => hnm ?_; rw [← HLA.out, ← HLB.out, e]
  go_enter Tryz.func22, Tryz.ntmps22; go_wp2; go_ret; exact ⟨rfl, Below.refl _ _⟩
def lessL (l : List ByteArray) (s : ByteArray) : List ByteArray := l.filter fun x => decide (¬ x = s)
theorem lessL_yes {l : List ByteArray} {s : ByteArray} {k : Nat} (h : k < l.length) (h2 : ¬ l[k] = s) : lessL (l.take (k + 1)) s = lessL (l.take k) s ++ [l[k]] := by
 unfold lessL; rw [List.take_succ_eq_append_getElem h, List.filter_append, List.filter_cons, if_pos (decide_eq_true h2)]; rfl
theorem lessL_no {l : List ByteArray} {s : ByteArray} {k : Nat} (h : k < l.length) (h2 : l[k] = s) : lessL (l.take (k + 1)) s = lessL (l.take k) s := by
 unfold lessL; rw [List.take_succ_eq_append_getElem h, List.filter_append, List.filter_cons, if_neg (by rw [decide_eq_true_iff]; exact fun h3 => h3 h2)]; simp
theorem lessL_mem {l : List ByteArray} {s x : ByteArray} : x ∈ lessL l s ↔ x ∈ l ∧ ¬ x = s := by
 unfold lessL; rw [List.mem_filter, decide_eq_true_iff]
theorem refless_any (l : List ByteArray) (n : Nat) (A : Option Addr) (c : Nat) (s : ByteArray) (w : World) (hn : n ≤ 1000) (hr : Rd w w.heap.size 1 A n c (strs l)) :
  Calls Tryz.prog 24 #[.slice A n c, .string s] w (fun e w' => ∃ (A : Option Addr) (m c : Nat), e = .returned (.slice A m c) ∧ Hid (Rd w' w'.heap.size 1 A m c (strs (lessL l s))) ∧ Below w.heap.size w w') := by
 have HA := Lib.hid hr; have HLA := Lib.hid (rd_len1 hr); clear hr; go_enter Tryz.func24, Tryz.ntmps24; go_wp2
 go_loopw [5, 9] (fun v i wr => ∃ (k m : Nat) (Ax : Option Addr) (cx : Nat), k ≤ n ∧ m ≤ k ∧ i = .int .i64 k ∧ v = .slice Ax m cx ∧ Hid (Own wr w.heap.size 9 1 Ax m cx (strs (lessL (l.take k) s))) ∧ Hid (Below w.heap.size w wr)) (fun _ i _ => n - (intOf i).toNat)
 case atStart => exact ⟨0, 0, none, 0, by omega, by omega, rfl, rfl, ⟨World.ownsRow_nil _ _ _ _, by simp [Tr.strs, lessL]⟩, Below.refl _ _⟩
 case round =>
  obtain ⟨k, m, Ax, cx, hk, hmk, rfl, rfl, HO, HBL⟩ := hrel
  by_cases hlt : k < n
  ·have hka : k < l.length := by rw [HLA.out]; exact hlt
   obtain ⟨g, o, rfl, hgl, hc⟩ := rd_text HA.out (by omega); have q0 := (HBL.out.cell (p := ⟨g, o + k, none⟩) hgl).trans (hc k hka); obtain ⟨key, hx⟩ : ∃ x, x = l[k] := ⟨_, rfl⟩; rw [← hx] at q0
   by_cases h0 : key = s
   ·have HO2 : Hid (Own wr w.heap.size 9 1 Ax m cx (strs (lessL (l.take (k + 1)) s))) := by unfold Hid; rw [lessL_no hka (by rw [← hx]; exact h0)]; exact HO.out
    subst h0; clear hc hx; go_wp2_with fail; go_roundw
    case rel => exact ⟨k + 1, m, Ax, cx, by omega, by omega, by go_num, rfl, HO2.out, HBL.out⟩
    case measure => simp [intOf]; omega
   ·have f2 : (key.toList == s.toList) = false := bytes_ne h0
    have f3 : (key.toList != s.toList) = true := by unfold bne; rw [f2]; rfl
    have HSUC : Hid (lessL (l.take (k + 1)) s = lessL (l.take k) s ++ [key]) := by unfold Hid; rw [hx]; exact lessL_yes hka (by rw [← hx]; exact h0)
    obtain ⟨A6, c6, w6, r1, r2, r3⟩ := push_str wr w.heap.size wr.heap.size rfl HO.out HBL.out.size key (by omega)
    have HO6 : Hid (Own w6 w.heap.size 9 1 A6 (m + 1) c6 (strs (lessL (l.take (k + 1)) s))) := by unfold Hid; rw [HSUC.out]; exact r2
    have HBL6 := Lib.hid (HBL.out.trans r3); have Hrun := Lib.hid r1; clear r1 r2 r3 hc hx h0; go_wp2_with (at_builtin; refine Lib.wpList_append_run _ rfl _ _ _ _ rfl _ _ rfl rfl _ _ Hrun.out ?_); go_roundw
    case rel => exact ⟨k + 1, m + 1, A6, c6, by omega, by omega, by go_num, rfl, HO6.out, HBL6.out⟩
    case measure => simp [intOf]; omega
  ·obtain rfl : k = n := by omega
   have HRD : Hid (Rd wr wr.heap.size 1 Ax m cx (strs (lessL l s))) := by
    have h1 := HO.out; rw [List.take_of_length_le (by rw [HLA.out]; omega)] at h1; exact h1.rd
   go_wp2_with fail; go_ret; exact ⟨Ax, m, cx, rfl, HRD.out, HBL.out⟩
end Cs
end Go.Proofs.YtemilfojnecldaaGreat
