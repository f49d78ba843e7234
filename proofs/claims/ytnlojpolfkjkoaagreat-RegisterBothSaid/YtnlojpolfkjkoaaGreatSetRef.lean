/- Sets: a key, the elements, two lists, a list without one: the document's. -/
import Derived.Test.YtnlojpolfkjkoaaGreatSet3
import Derived.Test.YtnlojpolfkjkoaaGreatG00
namespace Go.Proofs.YtnlojpolfkjkoaaGreat
open Go.ChangeShapes Go.WideShapes Go.ChangeAt Go.RowKit
namespace Cs
open Tr Cx Sp Rw Classical
set_option maxRecDepth 100000 in
set_option maxHeartbeats 4000000 in
theorem refalike_any (a b : List ByteArray) (n m : Nat) (A B : Option Addr) (c d : Nat) (w : World) (hn : n ≤ 1000) (hra : Rd w w.heap.size 1 A n c (strs a)) (hrb : Rd w w.heap.size 1 B m d (strs b)) (z : Bool) (hz : decide (a = b) = z) :
  Calls Tryz.prog 16 #[.slice A n c, .slice B m d] w fun e w' => e = .returned (.bool z) ∧ Below w.heap.size w w' := by
 have HZ := Lib.hid hz; have HA := Lib.hid hra; have HB := Lib.hid hrb; have HLA := Lib.hid (rd_len1 hra); have HLB := Lib.hid (rd_len1 hrb); clear hra hrb hz
 by_cases hnm : n = m
 ·subst hnm
  have f0 : (n != n) = false := by simp
  go_enter Tryz.func16, Tryz.ntmps16; go_wp2
  go_loopw [13] (fun i wr => ∃ (k : Nat), k ≤ n ∧ i = .int .i64 k ∧ Hid (a.take k = b.take k) ∧ Hid (Below w.heap.size w wr)) (fun i _ => n - (intOf i).toNat)
  case atStart => exact ⟨0, by omega, rfl, Lib.hid (by rw [List.take_zero, List.take_zero]), Below.refl _ _⟩
  case round =>
   obtain ⟨k, hk, rfl, HT, HBL⟩ := hrel
   by_cases hlt : k < n
   ·have hka : k < a.length := by rw [HLA.out]; exact hlt
    have hkb : k < b.length := by rw [HLB.out]; exact hlt
    obtain ⟨g, o, rfl, hgl, hc⟩ := rd_text HA.out (by omega); obtain ⟨g2, o2, rfl, hgl2, hc2⟩ := rd_text HB.out (by omega); have q0 := (HBL.out.cell (p := ⟨g, o + k, none⟩) hgl).trans (hc k hka); have r0 := (HBL.out.cell (p := ⟨g2, o2 + k, none⟩) hgl2).trans (hc2 k hkb); have hT1 : a.take (k + 1) = a.take k ++ [a[k]] := List.take_succ_eq_append_getElem hka; have hT2 : b.take (k + 1) = b.take k ++ [b[k]] := List.take_succ_eq_append_getElem hkb; obtain ⟨x, hx⟩ : ∃ x, x = a[k] := ⟨_, rfl⟩; obtain ⟨y, hy⟩ : ∃ y, y = b[k] := ⟨_, rfl⟩; rw [← hx] at q0 hT1; rw [← hy] at r0 hT2
    by_cases h0 : x = y
    ·subst h0
     have HT2 : Hid (a.take (k + 1) = b.take (k + 1)) := by unfold Hid; rw [hT1, hT2, HT.out]
     clear hc hc2 hT1 hT2 hx hy; go_wp2
     go_quiet (fail)
     go_wp2; go_roundw
     case rel => exact ⟨k + 1, by omega, by go_num, HT2.out, bel_drewN HBL.out _⟩
     case measure => simp [intOf]; omega
    ·have f2 : (x.toList == y.toList) = false := bytes_ne h0
     have f3 : (x.toList != y.toList) = true := by unfold bne; rw [f2]; rfl
     obtain rfl : z = false := by
      rw [← HZ.out]; refine decide_eq_false fun e => ?_; subst e; exact h0 (hx.trans hy.symm)
     clear hc hc2 hT1 hT2 hx hy h0; go_wp2
     go_quiet (fail)
     go_wp2; go_ret; exact ⟨rfl, bel_drewN HBL.out _⟩
   ·obtain rfl : k = n := by omega
    obtain rfl : z = true := by
     rw [← HZ.out]; have h := HT.out; rw [List.take_of_length_le (by rw [HLA.out]; omega), List.take_of_length_le (by rw [HLB.out]; omega)] at h; exact decide_eq_true h
    go_wp2; go_ret; exact ⟨rfl, HBL.out⟩
 ·have f0 : (n != m) = true := by simpa using hnm
  have f1 : ((n : Int) != (m : Int)) = true := by simp; omega
  obtain rfl : z = false := by
   rw [← HZ.out]; refine decide_eq_false fun e => hnm ?_; rw [← HLA.out, ← HLB.out, e]
  go_enter Tryz.func16, Tryz.ntmps16; go_wp2; go_ret; exact ⟨rfl, Below.refl _ _⟩
end Cs
end Go.Proofs.YtnlojpolfkjkoaaGreat
