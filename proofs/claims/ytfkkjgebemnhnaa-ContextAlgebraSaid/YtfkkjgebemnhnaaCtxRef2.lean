/- Sets of dots, the document's: is it right. -/
import Derived.Test.YtfkkjgebemnhnaaCtxRef1
namespace Go.Proofs.Ytfkkjgebemnhnaa
open Go.ChangeShapes Go.WideShapes Go.ChangeAt Go.RowKit
namespace Cx
open Sp Rw
theorem ownsNo (l : List S3) (h : ¬ RiseC 0 l) {b : Bool} (hb : rightCB l = b) : false = b := by rw [← hb]; exact (rightCB_false fun h2 => h h2.rise).symm
set_option maxRecDepth 100000 in
set_option maxHeartbeats 2000000 in
theorem refrightC_any (l : List S3) (n : Nat) (A : Option Addr) (c : Nat) (w : World) (hl : l.length = n) (hn : n ≤ 100000) (hr : Rd w w.heap.size 3 A n c (spsC l)) (b : Bool) (hb : rightCB l = b) :
    Calls Try.prog 14 #[.slice A n c] w fun e w' => e = .returned (.bool b) ∧ Below w.heap.size w w' := by
  have HR := Lib.hid hr
  have HL := Lib.hid hl
  have HRB := Lib.hid hb
  clear hr hl hb
  go_enter Try.func14, Try.ntmps14
  go_wp2
  go_loopw [7] (fun i wr => ∃ (k : Nat) (m : Int), k ≤ n ∧ i = .int .i64 k ∧ Hid (0 ≤ m) ∧ Hid (k = 0 → m = 0) ∧ Hid (∀ (j : Nat) (h : j < l.length), k = j + 1 → m = l[j].1) ∧ Hid (RiseC 0 l ↔ RiseC m (l.drop k)) ∧ Hid (Below w.heap.size w wr)) (fun i _ => n - (intOf i).toNat)
  case atStart => exact ⟨0, 0, by omega, rfl, Int.le_refl 0, fun _ => rfl, fun j _ h => by omega, Iff.rfl, Below.refl _ _⟩
  case round =>
    obtain ⟨k, m, hk, rfl, HM, HM0, HM1, HI, HB⟩ := hrel
    by_cases hlt : k < n
    · have hkl : k < l.length := by rw [HL.out]; exact hlt
      obtain ⟨b1, o, rfl, hbl, hc⟩ := rd_span HR.out hlt
      obtain ⟨q0, _, _⟩ := hc k hkl
      obtain ⟨p, hp⟩ : ∃ p, p = l[k] := ⟨_, rfl⟩
      have HD := Lib.hid (dropC_at hkl hp)
      have HP : Hid (p = l[k]) := Lib.hid hp
      rw [← hp] at q0
      obtain ⟨a, xy⟩ := p
      dsimp only at q0
      have q0 := (HB.out.cell (p := ⟨b1, o + k * 3, none⟩) hbl).trans q0
      have HBe : ∀ q', Hid (Below w.heap.size w (wr.drewN q')) := fun q' => bel_drewN HB.out _
      have hm := HM.out
      by_cases h1 : a < 0
      · have f1 : decide (a < 0) = true := by simpa using h1
        have HE : Hid (false = b) := ownsNo l (fun h => by have := HI.out.1 h; rw [HD.out] at this; have := this.1; dsimp only at this; omega) HRB.out
        clear hc hp
        go_wp2
        go_quiet (fail)
        go_wp2
        go_ret
        exact ⟨ret_bool HE.out, (HBe _).out⟩
      · have f1 : decide (a < 0) = false := by simpa using h1
        by_cases h2 : 4 ≤ a
        · have f2 : decide (4 ≤ a) = true := by simpa using h2
          have HE : Hid (false = b) := ownsNo l (fun h => by have := HI.out.1 h; rw [HD.out] at this; have := this.2.1; dsimp only at this; omega) HRB.out
          clear hc hp
          go_wp2
          go_quiet (fail)
          go_wp2
          go_ret
          exact ⟨ret_bool HE.out, (HBe _).out⟩
        · have f2 : decide (4 ≤ a) = false := by simpa using h2
          have hstep : m ≤ a → (RiseC 0 l ↔ RiseC a (l.drop (k + 1))) := fun h => by
            refine Iff.trans HI.out ?_
            rw [HD.out]
            exact ⟨fun h => h.2.2, fun h3 => ⟨h, by show a < 4; omega, h3⟩⟩
          have hnext : Hid (∀ (j : Nat) (h : j < l.length), k + 1 = j + 1 → a = l[j].1) := fun j h e => by
            have : j = k := by omega
            subst this
            rw [← HP.out]
          rcases Nat.eq_zero_or_pos k with rfl | hk0
          · have hm0 := HM0.out rfl
            have HST := hstep (by omega)
            clear hc hp hstep
            simp only [Nat.zero_mul, Nat.add_zero] at q0
            go_wp2
            go_quiet (fail)
            go_wp2
            go_roundw
            case rel => exact ⟨1, a, by omega, rfl, by unfold Hid; omega, fun h => by omega, hnext.out, HST, (HBe _).out⟩
            case measure => simp [intOf]; omega
          · obtain ⟨k, rfl⟩ : ∃ j, k = j + 1 := ⟨k - 1, by omega⟩
            obtain ⟨r0, _, _⟩ := hc k (by omega)
            have hme := HM1.out k (by omega) rfl
            rw [← hme] at r0
            have r0 := (HB.out.cell (p := ⟨b1, o + k * 3, none⟩) hbl).trans r0
            have hk1 : ((k + 1 : Nat) : Int) - 1 = (k : Int) := by omega
            have hk2 : decide ((0 : Int) < ((k + 1 : Nat) : Int)) = true := decide_eq_true (by omega)
            by_cases h4 : a < m
            · have f4 : decide (a < m) = true := by simpa using h4
              have HE : Hid (false = b) := ownsNo l (fun h => by have := HI.out.1 h; rw [HD.out] at this; have := this.1; dsimp only at this; omega) HRB.out
              clear hc hp hstep hnext hme
              go_wp2
              go_quiet (fail)
              go_wp2
              go_ret
              exact ⟨ret_bool HE.out, (HBe _).out⟩
            · have f4 : decide (a < m) = false := by simpa using h4
              have HST := Lib.hid (hstep (by omega))
              clear hc hp hstep hme
              go_wp2
              go_quiet (fail)
              go_wp2
              go_roundw
              case rel => exact ⟨k + 1 + 1, a, by omega, by go_num, by unfold Hid; omega, fun h => by omega, hnext.out, HST.out, (HBe _).out⟩
              case measure => simp [intOf]; omega
    · obtain rfl : k = n := by omega
      have HRI : Hid (RiseC 0 l) := HI.out.2 (by rw [List.drop_eq_nil_of_le (by rw [HL.out]; omega)]; trivial)
      clear HI HM HM0 HM1
      go_wp2
      go_loopw [43] (fun i wr => ∃ (d : Nat), d ≤ 4 ∧ i = .int .i64 d ∧ Hid (∀ j : Nat, j < d → Sp.rightB (part l j) = true) ∧ Hid (Below w.heap.size w wr)) (fun i _ => 4 - (intOf i).toNat)
      case atStart => exact ⟨0, by omega, rfl, fun j hj => by omega, HB.out⟩
      case round =>
        clear HB
        obtain ⟨d, hd, rfl, HG, HB⟩ := hrel
        by_cases hd4 : d < 4
        · have HC := Lib.hid (part_any l k A c d wr HL.out (by omega) ((HR.out.below HB.out).more HB.out.size))
          have HPL : Hid ((part l d).length ≤ 100000) := Nat.le_trans (part_len _ _) (by rw [HL.out]; exact hn)
          cases hrb : Sp.rightB (part l d) with
          | false =>
            have HBF : Hid (false = b) := by
              unfold Hid
              rw [← HRB.out]
              refine (rightCB_false fun h => ?_).symm
              have := rightB_true (h.part d (by unfold Cen; omega))
              rw [hrb] at this
              cases this
            have HRB := Lib.hid hrb
            clear hrb
            go_wp2_with fail
            refine HC.out.mono ?_
            rintro e w1 ⟨A1, q1, c1, rfl, HL1, ho1, hb1⟩
            have HC2 := Lib.hid (refright_any (part l d) q1 A1 c1 w1 HL1.out (by have := HL1.out; have := HPL.out; omega) ho1.rd)
            rw [HRB.out] at HC2
            have HB1 := Lib.hid (HB.out.trans (hb1.mono HB.out.size))
            clear ho1 hb1
            go_wp2_with (go_at_call 43; refine HC2.out.mono ?_; rintro e w2 ⟨rfl, hb2⟩)
            go_ret
            exact ⟨ret_bool HBF.out, HB1.out.trans (hb2.mono HB1.out.size)⟩
          | true =>
            have HG2 : Hid (∀ j : Nat, j < d + 1 → Sp.rightB (part l j) = true) := fun j hj => by
              rcases (by omega : j < d ∨ j = d) with h | rfl
              · exact HG.out j h
              · exact hrb
            have HRB := Lib.hid hrb
            clear hrb
            go_wp2_with fail
            refine HC.out.mono ?_
            rintro e w1 ⟨A1, q1, c1, rfl, HL1, ho1, hb1⟩
            have HC2 := Lib.hid (refright_any (part l d) q1 A1 c1 w1 HL1.out (by have := HL1.out; have := HPL.out; omega) ho1.rd)
            rw [HRB.out] at HC2
            have HB1 := Lib.hid (HB.out.trans (hb1.mono HB.out.size))
            clear ho1 hb1
            go_wp2_with (go_at_call 43; refine HC2.out.mono ?_; rintro e w2 ⟨rfl, hb2⟩; have HB2 := Lib.hid (HB1.out.trans (hb2.mono HB1.out.size)); clear hb2)
            go_roundw
            case rel => exact ⟨d + 1, by omega, by go_num, HG2.out, HB2.out⟩
            case measure => simp [intOf]; omega
        · obtain rfl : d = 4 := by omega
          have HBT : Hid (true = b) := by
            unfold Hid
            rw [← HRB.out]
            refine (rightCB_true ⟨HRI.out, fun e he => ?_⟩).symm
            rcases cen_cases he with rfl | rfl | rfl | rfl
            · exact of_decide_eq_true (HG.out 0 (by omega))
            · exact of_decide_eq_true (HG.out 1 (by omega))
            · exact of_decide_eq_true (HG.out 2 (by omega))
            · exact of_decide_eq_true (HG.out 3 (by omega))
          go_wp2
          go_ret
          exact ⟨ret_bool HBT.out, HB.out⟩
end Cx
end Go.Proofs.Ytfkkjgebemnhnaa
