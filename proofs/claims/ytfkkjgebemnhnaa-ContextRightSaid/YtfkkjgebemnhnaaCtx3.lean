/- Sets of dots: the vector; the program's, the document's. -/
import Derived.Test.YtfkkjgebemnhnaaCtxVec
import Derived.Test.YtfkkjgebemnhnaaCtxRef1
namespace Go.Proofs.Ytfkkjgebemnhnaa
open Go.ChangeShapes Go.WideShapes Go.ChangeAt Go.RowKit
namespace Cx
open Sp Rw
/-- of each center the front, or 0 -/
def vecN (l : List S3) (b : Bool) (d : Nat) : Int := if b then frontI (part l d) else 0
theorem split_to (l : List S3) (n : Nat) (A : Option Addr) (c : Nat) (w : World) (hl : l.length = n) (hn : n ≤ 100000) (hr : Rd w w.heap.size 3 A n c (spsC l)) (b : Bool) (hb : rightCB l = b) (q : Nat → List (Int × Int)) (hq : q = fun d : Nat => if b then part l (d : Int) else []) :
    Calls Try.prog 41 #[.slice A n c] w fun e w' => ∃ s : Nat → SV, e = .returned (.tuple #[.agg #[.slice (s 0).A (s 0).n (s 0).c, .slice (s 1).A (s 1).n (s 1).c, .slice (s 2).A (s 2).n (s 2).c, .slice (s 3).A (s 3).n (s 3).c], .bool b]) ∧ Hid (∀ d : Nat, d < 4 → SvIs w' (s d) (q d)) ∧ Below w.heap.size w w' := by
  rw [hq]; exact split_any l n A c w hl hn hr b hb
theorem parts_of {l : List S3} {b : Bool} (hb : rightCB l = b) {n : Nat} (hl : l.length = n) (hn : n ≤ 100000) {q : Nat → List (Int × Int)} (hq : q = fun d : Nat => if b then part l (d : Int) else []) :
    (∀ d : Nat, d < 4 → RightF 1 (q d)) ∧ (∀ d, (q d).length ≤ 100000) ∧ ∀ d, frontI (q d) = vecN l b d := by
  subst hq
  refine ⟨fun d hd => rightB_part hb d hd, fun d => ?_, fun d => ?_⟩
  · dsimp only; split
    · have := part_len l d; omega
    · simp
  · unfold vecN; dsimp only; cases b <;> rfl
def updI (v : Nat → Int) (d : Nat) (x : Int) (j : Nat) : Value := .int .i64 (upd v d x j)
theorem cells_upd {W : World} {h : Nat} {v : Nat → Int} (c : Cells4 W h (fun j => .int .i64 (v j))) {d : Nat} (hd : d < 4) (x : Int) : Cells4 (W.setCell ⟨h, d, none⟩ (.int .i64 x)) h (fun j => .int .i64 (upd v d x j)) := by
  refine (c.set hd _).congr fun j hj => ?_
  by_cases he : j = d
  · subst he; rw [upd_same, upd_same]
  · rw [upd_other _ _ he, upd_other _ _ he]
set_option maxRecDepth 100000 in
set_option maxHeartbeats 2000000 in
theorem vectorC_any (l : List S3) (n : Nat) (A : Option Addr) (c : Nat) (w : World) (hl : l.length = n) (hn : n ≤ 100000) (hr : Rd w w.heap.size 3 A n c (spsC l)) (b : Bool) (hb : rightCB l = b) (y : Nat → Int) (hy : ∀ d, d < 4 → y d = vecN l b d) :
    Calls Try.prog 13 #[.slice A n c] w fun e w' => e = .returned (.agg #[.int .i64 (y 0), .int .i64 (y 1), .int .i64 (y 2), .int .i64 (y 3)]) ∧ Below w.heap.size w w' := by
  obtain ⟨q, hq⟩ : ∃ q : Nat → List (Int × Int), q = fun d : Nat => if b then part l (d : Int) else [] := ⟨_, rfl⟩
  have HC := fun W (h : Below w.heap.size w W) => Lib.hid (split_to l n A c W hl hn ((hr.below h).more h.size) b hb q hq)
  obtain ⟨hq1, hq2, hq3⟩ := parts_of hb hl hn hq
  have HQ1 := Lib.hid hq1
  have HQ2 := Lib.hid hq2
  have HY : Hid (∀ d, d < 4 → frontI (q d) = y d) := fun d hd => by rw [hq3, hy d hd]
  obtain ⟨g, hg⟩ : ∃ g, g = w.heap.size := ⟨_, rfl⟩
  obtain ⟨W0, hW0⟩ : ∃ W, W = w.alloc (.cells #[.int .i64 0, .int .i64 0, .int .i64 0, .int .i64 0] 26) := ⟨_, rfl⟩
  have HG0 : Hid (Cells4 W0 g (fun _ => .int .i64 0)) := by rw [hW0, hg]; exact Cells4.new w _ _ _ _ _ _ rfl
  have HB0 : Hid (Below w.heap.size w W0) := by rw [hW0]; exact Dt.box_below _ _ _
  have HG := Lib.hid hg
  have HW0 := Lib.hid hW0
  clear hl hr hb hy hq hq1 hq2 hq3 hg hW0
  go_enter Try.func13, Try.ntmps13
  go_wp2_with fail
  rw [← HG.out, ← HW0.out]
  refine (HC W0 HB0.out).out.mono ?_
  rintro e w1 ⟨s, rfl, HS, hb1⟩
  obtain ⟨W1, hW1⟩ : ∃ W, W = w1.alloc (.cells #[.slice (s 0).A (s 0).n (s 0).c, .slice (s 1).A (s 1).n (s 1).c, .slice (s 2).A (s 2).n (s 2).c, .slice (s 3).A (s 3).n (s 3).c] 60) := ⟨_, rfl⟩
  obtain ⟨p, hp⟩ : ∃ p, p = w1.heap.size := ⟨_, rfl⟩
  have hb1a : Below w1.heap.size w1 W1 := by rw [hW1]; exact Dt.box_below _ _ _
  have HP1 : Hid (Cells4 W1 p (fun j => .slice (s j).A (s j).n (s j).c)) := by rw [hW1, hp]; exact Cells4.new w1 _ _ _ _ _ _ rfl
  obtain ⟨W2, hW2⟩ : ∃ W, W = W1.alloc (.cells #[.int .i64 0, .int .i64 0, .int .i64 0, .int .i64 0] 26) := ⟨_, rfl⟩
  have hp1 : W1.heap.size = p + 1 := by rw [hW1, hp]; simp
  have hb2a : Below W1.heap.size W1 W2 := by rw [hW2]; exact Dt.box_below _ _ _
  have HV2 : Hid (Cells4 W2 (p + 1) (fun _ => .int .i64 0)) := by rw [hW2, ← hp1]; exact Cells4.new W1 _ _ _ _ _ _ rfl
  have HP2 : Hid (Cells4 W2 p (fun j => .slice (s j).A (s j).n (s j).c)) := HP1.out.later hb2a
  have hbb := hb1.trans ((hb1a.trans (hb2a.mono hb1a.size)).mono hb1.size)
  have HG2 : Hid (Cells4 W2 g (fun _ => .int .i64 0)) := HG0.out.later hbb
  have HB2 := Lib.hid (HB0.out.trans (hbb.mono HB0.out.size))
  have HS2 : Hid (∀ d : Nat, d < 4 → (q d).length = (s d).n ∧ Rd W2 p 2 (s d).A (s d).n (s d).c (runsC (q d))) := fun d hd => ⟨(HS.out d hd).1, by
    rw [hp]
    exact (HS.out d hd).2.below (hb1a.trans (hb2a.mono hb1a.size))⟩
  have hgp : g < p := by rw [hp]; exact Nat.lt_of_lt_of_le HG0.out.free.1 hb1.size
  have HW1 : Hid (W2 = (w1.alloc (.cells #[.slice (s 0).A (s 0).n (s 0).c, .slice (s 1).A (s 1).n (s 1).c, .slice (s 2).A (s 2).n (s 2).c, .slice (s 3).A (s 3).n (s 3).c] 60)).alloc (.cells #[.int .i64 0, .int .i64 0, .int .i64 0, .int .i64 0] 26)) := by unfold Hid; rw [hW2, hW1]
  have HPp := Lib.hid hp
  have c0 := box4 w1 s 0 (by omega); have c1 := box4 w1 s 1 (by omega); have c2 := box4 w1 s 2 (by omega); have c3 := box4 w1 s 3 (by omega)
  clear hb1 hb1a hb2a hbb hW1 hW2 hp hp1 HS HP1 HG0 HB0
  go_wp2
  rw [← HPp.out, ← HW1.out]
  clear c0 c1 c2 c3
  go_loopw [14] (fun i wr => ∃ (d : Nat) (v : Nat → Int), d ≤ 4 ∧ i = .int .i64 d ∧ Hid (∀ j, j < d → v j = y j) ∧ Hid (Cells4 wr (p + 1) (fun j => .int .i64 (v j))) ∧ Hid (Below (p + 1) W2 wr)) (fun i _ => 4 - (intOf i).toNat)
  case atStart => exact ⟨0, fun _ => 0, by omega, rfl, fun j hj => by omega, HV2.out, Below.refl _ _⟩
  case round =>
    clear HV2
    obtain ⟨d, v, hd, rfl, HVY, HV, HBL⟩ := hrel
    by_cases hd4 : d < 4
    · have hix := index_parts s d hd4
      have hps : p + 1 < wr.heap.size := HV.out.free.1
      have hdi : (d : Int) < 4 := by omega
      have hsd := HS2.out d hd4
      have HF := Lib.hid (front_any (q d) (s d).n (s d).A (s d).c wr hsd.1 (by rw [← hsd.1]; have := HQ2.out d; omega) ((hsd.2.below (HBL.out.mono (by omega))).more (by omega)) true (rightB_true (HQ1.out d hd4)))
      rw [if_pos rfl, HY.out d hd4] at HF
      clear hsd
      go_wp2_with (go_at_call 42; refine HF.out.mono ?_; rintro e w3 ⟨rfl, hb3⟩; have HV3 := HV.out.later hb3; have k0 := HV3.cell d hd4; have m0 := HV3.free.2 d)
      have HV4 := Lib.hid (cells_upd HV3 hd4 (y d))
      have HVY4 : Hid (∀ j, j < d + 1 → upd v d (y d) j = y j) := fun j hj => by
        by_cases he : j = d
        · subst he; rw [upd_same]
        · rw [upd_other _ _ he]; exact HVY.out j (by omega)
      have HB4 : Hid (Below (p + 1) W2 (w3.setCell ⟨p + 1, d, none⟩ (.int .i64 (y d)))) := (HBL.out.trans (hb3.mono (by omega))).setCell (p := ⟨p + 1, d, none⟩) (Nat.le_refl _) _
      clear k0 m0 HV3 hb3
      go_roundw
      case rel => exact ⟨d + 1, upd v d (y d), by omega, by go_num, HVY4.out, HV4.out, HB4.out⟩
      case measure => simp [intOf]; omega
    · obtain rfl : d = 4 := by omega
      have k0 := HV.out.cell 0 (by omega); have k1 := HV.out.cell 1 (by omega); have k2 := HV.out.cell 2 (by omega); have k3 := HV.out.cell 3 (by omega)
      rw [HVY.out 0 (by omega)] at k0
      rw [HVY.out 1 (by omega)] at k1
      rw [HVY.out 2 (by omega)] at k2
      rw [HVY.out 3 (by omega)] at k3
      have HG3 : Cells4 wr g (fun _ => .int .i64 0) := ⟨⟨Nat.lt_of_lt_of_le HG2.out.free.1 HBL.out.size, fun j => (HBL.out.frozen (p := ⟨g, j, none⟩) (by show g < p + 1; omega)).trans (HG2.out.free.2 j)⟩, fun j hj => (HBL.out.cell (p := ⟨g, j, none⟩) (by show g < p + 1; omega)).trans (HG2.out.cell j hj)⟩
      obtain ⟨j0, j1, j2, j3⟩ := HG3.put (.int .i64 (y 0)) (.int .i64 (y 1)) (.int .i64 (y 2)) (.int .i64 (y 3))
      have i0 := HG3.cell 0 (by omega); have i1 := HG3.cell 1 (by omega); have i2 := HG3.cell 2 (by omega); have i3 := HG3.cell 3 (by omega)
      have m0 := HG3.free.2 0; have m1 := HG3.free.2 1; have m2 := HG3.free.2 2; have m3 := HG3.free.2 3
      have HBE : Hid (Below w.heap.size w (put4 g (.int .i64 (y 0)) (.int .i64 (y 1)) (.int .i64 (y 2)) (.int .i64 (y 3)) wr)) := put4_below (HB2.out.trans (HBL.out.mono (by have := HG.out; omega))) (by rw [HG.out]; exact Nat.le_refl _)
      clear HG3
      go_wp2
      unfold put4 at j0 j1 j2 j3
      refine bodyPost_ret (v := .agg #[.int .i64 (y 0), .int .i64 (y 1), .int .i64 (y 2), .int .i64 (y 3)]) (by simp [results, Try.results13, go_sem, j0, j1, j2, j3]) rfl ⟨rfl, HBE.out⟩
set_option maxRecDepth 100000 in
set_option maxHeartbeats 2000000 in
theorem refvectorC_any (l : List S3) (n : Nat) (A : Option Addr) (c : Nat) (w : World) (hl : l.length = n) (hn : n ≤ 100000) (hr : Rd w w.heap.size 3 A n c (spsC l)) (hb : RightC l) (y : Nat → Int) (hy : ∀ d, d < 4 → y d = vecN l true d) :
    Calls Try.prog 20 #[.slice A n c] w fun e w' => e = .returned (.agg #[.int .i64 (y 0), .int .i64 (y 1), .int .i64 (y 2), .int .i64 (y 3)]) ∧ Below w.heap.size w w' := by
  have HR := Lib.hid hr
  have HL := Lib.hid hl
  have HO := Lib.hid hb
  have HY : Hid (∀ d : Nat, d < 4 → frontI (part l d) = y d) := fun d hd => by rw [hy d hd]; rfl
  obtain ⟨g, hg⟩ : ∃ g, g = w.heap.size := ⟨_, rfl⟩
  obtain ⟨W2, hW2⟩ : ∃ W, W = (w.alloc (.cells #[.int .i64 0, .int .i64 0, .int .i64 0, .int .i64 0] 26)).alloc (.cells #[.int .i64 0, .int .i64 0, .int .i64 0, .int .i64 0] 26) := ⟨_, rfl⟩
  have HG2 : Hid (Cells4 W2 g (fun _ => .int .i64 0)) := by rw [hW2, hg]; exact (Cells4.new w _ _ _ _ _ _ rfl).later (Dt.box_below _ _ _)
  have HV2 : Hid (Cells4 W2 (g + 1) (fun _ => .int .i64 0)) := by
    have := Cells4.new (w.alloc (.cells #[.int .i64 0, .int .i64 0, .int .i64 0, .int .i64 0] 26)) (fun _ => .int .i64 0) (.int .i64 0) (.int .i64 0) (.int .i64 0) (.int .i64 0) 26 rfl
    rw [hW2, hg]; unfold Hid; simpa using this
  have HB2 : Hid (Below w.heap.size w W2) := by rw [hW2]; exact (Dt.box_below _ _ _).alloc (by simp) _
  have HG := Lib.hid hg
  have HW := Lib.hid hW2
  clear hl hr hb hy hg hW2
  go_enter Try.func20, Try.ntmps20
  go_wp2
  rw [← HG.out, ← HW.out]
  go_loopw [5] (fun i wr => ∃ (d : Nat) (v : Nat → Int), d ≤ 4 ∧ i = .int .i64 d ∧ Hid (∀ j, j < d → v j = y j) ∧ Hid (Cells4 wr (g + 1) (fun j => .int .i64 (v j))) ∧ Hid (Below (g + 1) W2 wr)) (fun i _ => 4 - (intOf i).toNat)
  case atStart => exact ⟨0, fun _ => 0, by omega, rfl, fun j hj => by omega, HV2.out, Below.refl _ _⟩
  case round =>
    clear HV2
    obtain ⟨d, v, hd, rfl, HVY, HV, HBL⟩ := hrel
    have HBW : Hid (Below w.heap.size w wr) := HB2.out.trans (HBL.out.mono (by have := HG.out; omega))
    by_cases hd4 : d < 4
    · have hps : g + 1 < wr.heap.size := HV.out.free.1
      have hdi : (d : Int) < 4 := by omega
      have HC := Lib.hid (part_any l n A c d wr HL.out (by omega) ((HR.out.below HBW.out).more HBW.out.size))
      have HPL : Hid ((part l d).length ≤ 100000) := Nat.le_trans (part_len _ _) (by rw [HL.out]; exact hn)
      go_wp2_with fail
      refine HC.out.mono ?_
      rintro e w1 ⟨A1, q1, c1, rfl, HL1, ho1, hb1⟩
      have HF := Lib.hid (reffront_any (part l d) q1 A1 c1 w1 HL1.out (by have := HL1.out; have := HPL.out; omega) ho1.rd (HO.out.part d (by unfold Cen; omega)))
      rw [HY.out d hd4] at HF
      have HV1 := HV.out.later hb1
      have HV4 := Lib.hid (cells_upd HV1 hd4 (y d))
      have k0 := HV1.cell d hd4
      have m0 := HV1.free.2 d
      have HVY4 : Hid (∀ j, j < d + 1 → upd v d (y d) j = y j) := fun j hj => by
        by_cases he : j = d
        · subst he; rw [upd_same]
        · rw [upd_other _ _ he]; exact HVY.out j (by omega)
      have HB4 : Hid (Below (g + 1) W2 (w1.setCell ⟨g + 1, d, none⟩ (.int .i64 (y d)))) := (HBL.out.trans (hb1.mono (by omega))).setCell (p := ⟨g + 1, d, none⟩) (Nat.le_refl _) _
      clear HV1 hb1 ho1
      go_wp2_with (go_at_call 47; refine HF.out.mono ?_; rintro e w3 ⟨rfl, rfl⟩)
      go_roundw
      case rel => exact ⟨d + 1, upd v d (y d), by omega, by go_num, HVY4.out, HV4.out, HB4.out⟩
      case measure => simp [intOf]; omega
    · obtain rfl : d = 4 := by omega
      have k0 := HV.out.cell 0 (by omega); have k1 := HV.out.cell 1 (by omega); have k2 := HV.out.cell 2 (by omega); have k3 := HV.out.cell 3 (by omega)
      rw [HVY.out 0 (by omega)] at k0
      rw [HVY.out 1 (by omega)] at k1
      rw [HVY.out 2 (by omega)] at k2
      rw [HVY.out 3 (by omega)] at k3
      have HG3 : Cells4 wr g (fun _ => .int .i64 0) := ⟨⟨Nat.lt_of_lt_of_le HG2.out.free.1 HBL.out.size, fun j => (HBL.out.frozen (p := ⟨g, j, none⟩) (by show g < g + 1; omega)).trans (HG2.out.free.2 j)⟩, fun j hj => (HBL.out.cell (p := ⟨g, j, none⟩) (by show g < g + 1; omega)).trans (HG2.out.cell j hj)⟩
      obtain ⟨j0, j1, j2, j3⟩ := HG3.put (.int .i64 (y 0)) (.int .i64 (y 1)) (.int .i64 (y 2)) (.int .i64 (y 3))
      have i0 := HG3.cell 0 (by omega); have i1 := HG3.cell 1 (by omega); have i2 := HG3.cell 2 (by omega); have i3 := HG3.cell 3 (by omega)
      have m0 := HG3.free.2 0; have m1 := HG3.free.2 1; have m2 := HG3.free.2 2; have m3 := HG3.free.2 3
      have HBE : Hid (Below w.heap.size w (put4 g (.int .i64 (y 0)) (.int .i64 (y 1)) (.int .i64 (y 2)) (.int .i64 (y 3)) wr)) := put4_below HBW.out (by rw [HG.out]; exact Nat.le_refl _)
      clear HG3
      go_wp2
      unfold put4 at j0 j1 j2 j3
      refine bodyPost_ret (v := .agg #[.int .i64 (y 0), .int .i64 (y 1), .int .i64 (y 2), .int .i64 (y 3)]) (by simp [results, Try.results20, go_sem, j0, j1, j2, j3]) rfl ⟨rfl, HBE.out⟩
end Cx
end Go.Proofs.Ytfkkjgebemnhnaa
