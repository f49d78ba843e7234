/- Are two contexts alike: the document's, the library's, the program's. -/
import Derived.Test.YtbfcbfadfnaebaaCtxLow
namespace Go.Proofs.Ytbfcbfadfnaebaa
open Go.ChangeShapes Go.WideShapes Go.ChangeAt Go.RowKit
namespace Cx
open Sp Rw
set_option maxRecDepth 100000 in
set_option maxHeartbeats 2000000 in
theorem refsameC_any (a b : List S3) (n m : Nat) (A B : Option Addr) (c d : Nat) (w : World) (ha : a.length = n) (hb : b.length = m) (hn : n ≤ 1000000) (hra : Rd w w.heap.size 3 A n c (spsC a)) (hrb : Rd w w.heap.size 3 B m d (spsC b)) (z : Bool) (hz : z = decide (a = b)) :
    Calls Try.prog 19 #[.slice A n c, .slice B m d] w fun e w' => e = .returned (.bool z) ∧ Below w.heap.size w w' := by
  have HZ := Lib.hid hz
  clear hz
  have HA := Lib.hid hra
  have HB := Lib.hid hrb
  have HLA := Lib.hid ha
  have HLB := Lib.hid hb
  clear hra hrb ha hb
  by_cases hnm : n = m
  · subst hnm
    have f0 : (n != n) = false := by simp
    go_enter Try.func19, Try.ntmps19
    go_wp2
    go_loopw [13] (fun i wr => ∃ (k : Nat), k ≤ n ∧ i = .int .i64 k ∧ Hid (a.take k = b.take k) ∧ Hid (Below w.heap.size w wr)) (fun i _ => n - (intOf i).toNat)
    case atStart => exact ⟨0, by omega, rfl, Lib.hid (by rw [List.take_zero, List.take_zero]), Below.refl _ _⟩
    case round =>
      obtain ⟨k, hk, rfl, HT, HBL⟩ := hrel
      by_cases hlt : k < n
      · have hka : k < a.length := by rw [HLA.out]; exact hlt
        have hkb : k < b.length := by rw [HLB.out]; exact hlt
        obtain ⟨g, o, rfl, hgl, hc⟩ := rd_span HA.out hlt
        obtain ⟨g2, o2, rfl, hgl2, hc2⟩ := rd_span HB.out hlt
        obtain ⟨q0, q1, q2⟩ := hc k hka
        obtain ⟨r0, r1, r2⟩ := hc2 k hkb
        have hT1 : a.take (k + 1) = a.take k ++ [a[k]] := List.take_succ_eq_append_getElem hka
        have hT2 : b.take (k + 1) = b.take k ++ [b[k]] := List.take_succ_eq_append_getElem hkb
        obtain ⟨p, hp⟩ : ∃ p, p = a[k] := ⟨_, rfl⟩
        obtain ⟨s, hs⟩ : ∃ s, s = b[k] := ⟨_, rfl⟩
        rw [← hp] at q0 q1 q2 hT1
        rw [← hs] at r0 r1 r2 hT2
        obtain ⟨x, y, z1⟩ := p
        obtain ⟨x', y', z1'⟩ := s
        dsimp only at q0 q1 q2 r0 r1 r2
        have q0 := (HBL.out.cell (p := ⟨g, o + k * 3, none⟩) hgl).trans q0
        have q1 := (HBL.out.cell (p := ⟨g, o + k * 3 + 1, none⟩) hgl).trans q1
        have q2 := (HBL.out.cell (p := ⟨g, o + k * 3 + 2, none⟩) hgl).trans q2
        have r0 := (HBL.out.cell (p := ⟨g2, o2 + k * 3, none⟩) hgl2).trans r0
        have r1 := (HBL.out.cell (p := ⟨g2, o2 + k * 3 + 1, none⟩) hgl2).trans r1
        have r2 := (HBL.out.cell (p := ⟨g2, o2 + k * 3 + 2, none⟩) hgl2).trans r2
        by_cases h0 : x = x'
        · subst h0
          by_cases h1 : y = y'
          · subst h1
            by_cases h2 : z1 = z1'
            · subst h2
              have HT2 : Hid (a.take (k + 1) = b.take (k + 1)) := by unfold Hid; rw [hT1, hT2, HT.out]
              clear hc hc2 hT1 hT2 hp hs
              go_wp2
              go_quiet (fail)
              go_wp2
              go_roundw
              case rel => exact ⟨k + 1, by omega, by go_num, HT2.out, bel_drewN HBL.out _⟩
              case measure => simp [intOf]; omega
            · have f2 : (z1 == z1') = false := by simpa using h2
              have hne : Hid (decide (a = b) = false) := by
                apply decide_eq_false
                rintro rfl
                have := hp.trans hs.symm
                injection this with e1 e2
                injection e2 with e2 e3
                omega
              clear hc hc2 hT1 hT2 hp hs
              go_wp2
              go_quiet (fail)
              go_wp2
              go_ret
              exact ⟨ret_bool (by rw [HZ.out, hne.out]), bel_drewN HBL.out _⟩
          · have f1 : (y == y') = false := by simpa using h1
            have hne : Hid (decide (a = b) = false) := by
              apply decide_eq_false
              rintro rfl
              have := hp.trans hs.symm
              injection this with e1 e2
              injection e2 with e2 e3
              omega
            clear hc hc2 hT1 hT2 hp hs
            go_wp2
            go_quiet (fail)
            go_wp2
            go_ret
            exact ⟨ret_bool (by rw [HZ.out, hne.out]), bel_drewN HBL.out _⟩
        · have f0' : (x == x') = false := by simpa using h0
          have hne : Hid (decide (a = b) = false) := by
            apply decide_eq_false
            rintro rfl
            have := hp.trans hs.symm
            injection this with e1 e2
            injection e2 with e2 e3
            omega
          clear hc hc2 hT1 hT2 hp hs
          go_wp2
          go_quiet (fail)
          go_wp2
          go_ret
          exact ⟨ret_bool (by rw [HZ.out, hne.out]), bel_drewN HBL.out _⟩
      · have hE : Hid (decide (a = b) = true) := by
          have := HT.out
          rw [List.take_of_length_le (by rw [HLA.out]; omega), List.take_of_length_le (by rw [HLB.out]; omega)] at this
          exact decide_eq_true this
        go_wp2
        go_ret
        exact ⟨ret_bool (by rw [HZ.out, hE.out]), HBL.out⟩
  · have f0 : ((n : Int) != (m : Int)) = true := by simp; omega
    have hne : decide (a = b) = false := by
      apply decide_eq_false
      rintro rfl
      exact hnm (by rw [← HLA.out, HLB.out])
    have HNE := Lib.hid hne
    clear hne
    go_enter Try.func19, Try.ntmps19
    go_wp2
    go_ret
    exact ⟨ret_bool (by rw [HZ.out, HNE.out]), Below.refl _ _⟩
end Cx
end Go.Proofs.Ytbfcbfadfnaebaa
