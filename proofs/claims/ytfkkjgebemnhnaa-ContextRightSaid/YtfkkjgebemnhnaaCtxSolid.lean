/- Sets of dots, the program's: is it solid. -/
import Derived.Test.YtfkkjgebemnhnaaCtx3
namespace Go.Proofs.Ytfkkjgebemnhnaa
open Go.ChangeShapes Go.WideShapes Go.ChangeAt Go.RowKit
namespace Cx
open Sp Rw
/-- are its numbers not just those up to the front? -/
def gapB (l : List (Int × Int)) : Bool := frontI l != countI l
set_option maxHeartbeats 400000 in
theorem gap_any (l : List (Int × Int)) (n : Nat) (A : Option Addr) (c : Nat) (w : World) (hl : l.length = n) (hn : n ≤ 1000000) (hr : Rd w w.heap.size 2 A n c (runsC l)) (hR : RightF 1 l) (z : Bool) (hz : gapB l = z) :
    Calls Try.prog 45 #[.slice A n c] w fun e w' => e = .returned (.bool z) ∧ Below w.heap.size w w' := by
  have HF := Lib.hid (front_any l n A c w hl hn hr true (rightB_true hR))
  have HC := fun W (h : Below w.heap.size w W) => Lib.hid (count_any l n A c W hl hn ((hr.below h).more h.size) true (rightB_true hR))
  rw [if_pos rfl] at HF HC
  obtain ⟨x, hx⟩ : ∃ x, x = frontI l := ⟨_, rfl⟩
  obtain ⟨y, hy⟩ : ∃ y, y = countI l := ⟨_, rfl⟩
  have hxy : (x != y) = z := by rw [hx, hy]; exact hz
  rw [← hx] at HF
  rw [← hy] at HC
  clear hl hr hR hz hx hy
  go_enter Try.func45, Try.ntmps45
  go_wp2_with fail
  refine HF.out.mono ?_
  rintro e w1 ⟨rfl, hb1⟩
  go_wp2_with fail
  refine (HC w1 hb1).out.mono ?_
  rintro e w2 ⟨rfl, hb2⟩
  go_wp2
  go_ret
  exact ⟨rfl, hb1.trans (hb2.mono hb1.size)⟩
set_option maxRecDepth 100000 in
set_option maxHeartbeats 1000000 in
theorem findC_any (s : Nat → SV) (q : Nat → List (Int × Int)) (p : Nat) (w : World) (hp : Cells4 w p (fun j => .slice (s j).A (s j).n (s j).c)) (hs : ∀ d : Nat, d < 4 → SvIs w (s d) (q d)) (hn : ∀ d, (q d).length ≤ 1000000) (hR : ∀ d, d < 4 → RightF 1 (q d)) :
    Calls Try.prog 62 #[.slice (some ⟨p, 0, none⟩) 4 4, .func (.func 45) #[] #[]] w fun e w' => ∃ z : Int, e = .returned (.int .i64 z) ∧ Hid (decide (0 ≤ z) = (gapB (q 0) || (gapB (q 1) || (gapB (q 2) || gapB (q 3))))) ∧ Below w.heap.size w w' := by
  have HP := Lib.hid hp
  have HS := Lib.hid hs
  have HN := Lib.hid hn
  have HR := Lib.hid hR
  clear hp hs hn hR
  go_enter Try.func62, Try.ntmps62
  go_wp2
  go_loopw [8] (fun i wr => ∃ (d : Nat), d ≤ 4 ∧ i = .int .i64 d ∧ Hid (∀ j : Nat, j < d → gapB (q j) = false) ∧ Hid (Below w.heap.size w wr)) (fun i _ => 4 - (intOf i).toNat)
  case atStart => exact ⟨0, by omega, rfl, fun j hj => by omega, Below.refl _ _⟩
  case round =>
    obtain ⟨d, hd, rfl, HG, HB⟩ := hrel
    by_cases hd4 : d < 4
    · have k0 := (HB.out.cell (p := ⟨p, d, none⟩) HP.out.free.1).trans (HP.out.cell d hd4)
      have hdi : (d : Int) < 4 := by omega
      have hsd := HS.out d hd4
      obtain ⟨z, hz⟩ : ∃ z, z = gapB (q d) := ⟨_, rfl⟩
      have HC := Lib.hid (gap_any (q d) (s d).n (s d).A (s d).c wr hsd.1 (by rw [← hsd.1]; exact HN.out d) ((hsd.2.below HB.out).more HB.out.size) (HR.out d hd4) z hz.symm)
      clear hsd
      cases z with
      | true =>
        have HE : Hid (true = (gapB (q 0) || (gapB (q 1) || (gapB (q 2) || gapB (q 3))))) := by
          unfold Hid
          rcases (by omega : d = 0 ∨ d = 1 ∨ d = 2 ∨ d = 3) with rfl | rfl | rfl | rfl <;> rw [← hz] <;> simp
        clear hz
        go_wp2_with (go_at_call 45; refine HC.out.mono ?_; rintro e w1 ⟨rfl, hb1⟩)
        go_ret
        exact ⟨d, rfl, by unfold Hid; rw [← HE.out]; exact decide_eq_true (by omega), HB.out.trans (hb1.mono HB.out.size)⟩
      | false =>
        have HG2 : Hid (∀ j : Nat, j < d + 1 → gapB (q j) = false) := fun j hj => by
          rcases (by omega : j < d ∨ j = d) with h | rfl
          · exact HG.out j h
          · exact hz.symm
        clear hz
        go_wp2_with (go_at_call 45; refine HC.out.mono ?_; rintro e w1 ⟨rfl, hb1⟩; have HB2 := Lib.hid (HB.out.trans (hb1.mono HB.out.size)); clear hb1)
        go_roundw
        case rel => exact ⟨d + 1, by omega, by go_num, HG2.out, HB2.out⟩
        case measure => simp [intOf]; omega
    · obtain rfl : d = 4 := by omega
      have HE : Hid (decide ((0 : Int) ≤ -1) = (gapB (q 0) || (gapB (q 1) || (gapB (q 2) || gapB (q 3))))) := by
        unfold Hid
        rw [HG.out 0 (by omega), HG.out 1 (by omega), HG.out 2 (by omega), HG.out 3 (by omega)]; rfl
      go_wp2
      go_ret
      exact ⟨-1, rfl, HE.out, HB.out⟩
theorem containsC_any (s : Nat → SV) (q : Nat → List (Int × Int)) (p : Nat) (w : World) (hp : Cells4 w p (fun j => .slice (s j).A (s j).n (s j).c)) (hs : ∀ d : Nat, d < 4 → SvIs w (s d) (q d)) (hn : ∀ d, (q d).length ≤ 1000000) (hR : ∀ d, d < 4 → RightF 1 (q d)) (z : Bool) (hz : (gapB (q 0) || (gapB (q 1) || (gapB (q 2) || gapB (q 3)))) = z) :
    Calls Try.prog 44 #[.slice (some ⟨p, 0, none⟩) 4 4, .func (.func 45) #[] #[]] w fun e w' => e = .returned (.bool z) ∧ Below w.heap.size w w' := by
  have HC := Lib.hid (findC_any s q p w hp hs hn hR)
  rw [hz] at HC
  clear hp hs hn hR hz
  go_enter Try.func44, Try.ntmps44
  go_wp2_with (go_at_call 62; refine HC.out.mono ?_; rintro e w1 ⟨y, rfl, hy, hb1⟩)
  go_ret
  exact ⟨ret_bool hy.out, hb1⟩
/-- a right set has no number behind its front just if it is all up to there -/
theorem gap_upTo {l : List (Int × Int)} (h : RightF 1 l) : gapB l = false ↔ l = upTo (frontI l) := by
  unfold gapB
  cases l with
  | nil => simp [frontI, countI, upTo]
  | cons r l =>
    obtain ⟨x, y⟩ := r
    obtain ⟨h1, h2, h3, h4⟩ := h
    dsimp only at h1 h2 h3 h4
    have hc := countI_nonneg h4
    by_cases hx : x = 1
    · subst hx
      have hf : frontI ((1, y) :: l) = y := by simp [frontI]
      rw [hf]
      have h0 : countI ((1, y) :: l) = y + countI l := by simp [countI]
      rw [h0]
      cases l with
      | nil =>
        have : (0 : Int) < y := by omega
        simp [countI, upTo, this]
      | cons t l =>
        have h5 := countI_nonneg h4.2.2.2
        have h6 := h4.2.1
        have h7 : countI (t :: l) = t.2 - t.1 + 1 + countI l := rfl
        have h8 : (0 : Int) < y := by omega
        simp only [upTo, h8, if_true]
        constructor
        · intro h; simp at h; omega
        · intro h; cases h
    · have hf : frontI ((x, y) :: l) = 0 := by simp [frontI, hx]
      rw [hf]
      have h7 : countI ((x, y) :: l) = y - x + 1 + countI l := rfl
      constructor
      · intro h; simp at h; omega
      · intro h; simp [upTo] at h
set_option maxHeartbeats 1000000 in
theorem solidC_any (l : List S3) (n : Nat) (A : Option Addr) (c : Nat) (w : World) (hl : l.length = n) (hn : n ≤ 100000) (hr : Rd w w.heap.size 3 A n c (spsC l)) (z : Bool) (hz : z = true ↔ RightC l ∧ l = fullV (fun d => vecN l true d)) :
    Calls Try.prog 16 #[.slice A n c] w fun e w' => e = .returned (.bool z) ∧ Below w.heap.size w w' := by
  obtain ⟨b, hb⟩ : ∃ b, b = rightCB l := ⟨_, rfl⟩
  obtain ⟨q, hq⟩ : ∃ q : Nat → List (Int × Int), q = fun d : Nat => if b then part l (d : Int) else [] := ⟨_, rfl⟩
  have HC := Lib.hid (split_to l n A c w hl hn hr b hb.symm q hq)
  obtain ⟨hq1, hq2, hq3⟩ := parts_of hb.symm hl hn hq
  have HQ1 := Lib.hid hq1
  have HQ2 := Lib.hid hq2
  cases b with
  | false =>
    have HZ : Hid (z = false) := by
      unfold Hid
      cases hzz : z with
      | false => rfl
      | true => exact absurd (hz.1 hzz).1 (not_rightCB hb.symm)
    clear hl hr hb hq hq1 hq2 hq3 hz
    go_enter Try.func16, Try.ntmps16
    go_wp2_with fail
    refine HC.out.mono ?_
    rintro e w1 ⟨s, rfl, HS, hb1⟩
    go_wp2
    go_ret
    exact ⟨ret_bool HZ.out.symm, hb1.alloc hb1.size _⟩
  | true =>
    have hR : RightC l := of_rightCB hb.symm
    obtain ⟨y, hy⟩ : ∃ y, y = (gapB (q 0) || (gapB (q 1) || (gapB (q 2) || gapB (q 3)))) := ⟨_, rfl⟩
    have HZ : Hid ((!y) = z) := by
      have e1 : (!y) = true ↔ RightC l ∧ l = fullV (fun d => vecN l true d) := by
        have e2 : (!y) = true ↔ ∀ d : Nat, d < 4 → gapB (part l d) = false := by
          rw [hy, hq]
          simp only [if_true]
          constructor
          · intro h d hd
            simp only [Bool.not_eq_true', Bool.or_eq_false_iff] at h
            rcases (by omega : d = 0 ∨ d = 1 ∨ d = 2 ∨ d = 3) with rfl | rfl | rfl | rfl
            · exact h.1
            · exact h.2.1
            · exact h.2.2.1
            · exact h.2.2.2
          · intro h
            have h0 := h 0 (by omega); have h1 := h 1 (by omega); have h2 := h 2 (by omega); have h3 := h 3 (by omega)
            simp only [Bool.not_eq_true', Bool.or_eq_false_iff]
            exact ⟨h0, h1, h2, h3⟩
        rw [e2]
        have e3 : ∀ d : Nat, d < 4 → (gapB (part l d) = false ↔ part l d = upTo (vecN l true d)) := fun d hd => gap_upTo (hR.part d (by unfold Cen; omega))
        constructor
        · intro h
          refine ⟨hR, ?_⟩
          unfold fullV
          rw [pre_four]
          refine ext_part hR.rise (rise_glue _) fun d hd => ?_
          rw [part_glue _ hd]
          have e : ((d.toNat : Nat) : Int) = d := by have := hd.1; omega
          have h5 : d.toNat < 4 := by have := hd.1; have := hd.2; omega
          have := (e3 d.toNat h5).1 (h d.toNat h5)
          rw [e] at this
          exact this
        · rintro ⟨_, h⟩ d hd
          refine (e3 d hd).2 ?_
          have h6 : part (fullV fun d => vecN l true d) d = upTo (vecN l true d) := by
            unfold fullV
            rw [pre_four, part_glue _ (by unfold Cen; omega)]
            simp
          rw [← h] at h6
          exact h6
      unfold Hid
      cases hyy : (!y) with
      | true => exact (hz.2 (e1.1 hyy)).symm
      | false =>
        cases hzz : z with
        | false => rfl
        | true => rw [e1.2 (hz.1 hzz)] at hyy; exact hyy.symm
    have HY := Lib.hid hy.symm
    clear hl hr hb hq hq1 hq2 hq3 hz hy hR
    go_enter Try.func16, Try.ntmps16
    go_wp2_with fail
    refine HC.out.mono ?_
    rintro e w1 ⟨s, rfl, HS, hb1⟩
    obtain ⟨W1, hW1⟩ : ∃ W, W = w1.alloc (.cells #[.slice (s 0).A (s 0).n (s 0).c, .slice (s 1).A (s 1).n (s 1).c, .slice (s 2).A (s 2).n (s 2).c, .slice (s 3).A (s 3).n (s 3).c] 60) := ⟨_, rfl⟩
    obtain ⟨p, hp⟩ : ∃ p, p = w1.heap.size := ⟨_, rfl⟩
    have hb1a : Below w1.heap.size w1 W1 := by rw [hW1]; exact Dt.box_below _ _ _
    have HP1 : Hid (Cells4 W1 p (fun j => .slice (s j).A (s j).n (s j).c)) := by rw [hW1, hp]; exact Cells4.new w1 _ _ _ _ _ _ rfl
    have HB1 := Lib.hid (hb1.trans (hb1a.mono hb1.size))
    have HCF := Lib.hid (containsC_any s q p W1 HP1.out (fun d hd => (HS.out d hd).later hb1a) (fun d => by have := HQ2.out d; omega) HQ1.out y HY.out)
    have HW1 := Lib.hid hW1
    have HPp := Lib.hid hp
    clear hb1 hb1a hW1 hp
    go_wp2_with fail
    rw [← HPp.out, ← HW1.out]
    refine HCF.out.mono ?_
    rintro e w2 ⟨rfl, hb2⟩
    go_wp2
    go_ret
    exact ⟨ret_bool HZ.out, HB1.out.trans (hb2.mono HB1.out.size)⟩
end Cx
end Go.Proofs.Ytfkkjgebemnhnaa
