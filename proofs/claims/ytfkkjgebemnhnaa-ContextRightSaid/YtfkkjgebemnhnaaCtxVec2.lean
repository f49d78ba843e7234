/- Vectors: raised to one another, compared; are two the same. -/
import Derived.Test.YtfkkjgebemnhnaaCtx3
namespace Go.Proofs.Ytfkkjgebemnhnaa
open Go.ChangeShapes Go.WideShapes Go.ChangeAt Go.RowKit
namespace Cx
open Sp Rw
theorem eqV (W : World) (x y : Nat → Int) : (Op.equalIn 10000 26 (.agg #[.int .i64 (x 0), .int .i64 (x 1), .int .i64 (x 2), .int .i64 (x 3)]) (.agg #[.int .i64 (y 0), .int .i64 (y 1), .int .i64 (y 2), .int .i64 (y 3)])).run Try.prog W = Result.ok (x 0 == y 0 && (x 1 == y 1 && (x 2 == y 2 && x 3 == y 3))) W := by
  obtain ⟨i0, hi0, _, hz1, _⟩ := info_of infoI
  have cellsI : Try.prog.cellsOf 2 = 1 := by kernel_rfl
  rw [show (10000 : Nat) = 9999 + 1 from rfl, run_equalIn_array W 9999 _ _ Try.underlying26 hi0, cellsI]
  have hp : Try.prog.plainKey 2 = true := by kernel_rfl
  have he : ∀ (x y : Int) (W : World), (Op.equalIn 9999 2 (.int .i64 x) (.int .i64 y)).run Try.prog W = Result.ok (x == y) W := fun x y W => run_equalIn_int W 9998 2 .i64 .i64 x y Try.underlying2
  have hr : List.range 4 = [0, 1, 2, 3] := rfl
  rw [hr]
  have p0 : ∀ (xs : Array Value) (i : Nat) (v : Value) (W : World), xs[i]? = some v → (Go.part 2 xs i).run Try.prog W = Result.ok v W := fun xs i v W hx => run_part_plain (P := Try.prog) W hp hx
  have q0 := fun W => p0 #[.int .i64 (x 0), .int .i64 (x 1), .int .i64 (x 2), .int .i64 (x 3)] 0 (.int .i64 (x 0)) W rfl
  have q1 := fun W => p0 #[.int .i64 (x 0), .int .i64 (x 1), .int .i64 (x 2), .int .i64 (x 3)] 1 (.int .i64 (x 1)) W rfl
  have q2 := fun W => p0 #[.int .i64 (x 0), .int .i64 (x 1), .int .i64 (x 2), .int .i64 (x 3)] 2 (.int .i64 (x 2)) W rfl
  have q3 := fun W => p0 #[.int .i64 (x 0), .int .i64 (x 1), .int .i64 (x 2), .int .i64 (x 3)] 3 (.int .i64 (x 3)) W rfl
  have r0 := fun W => p0 #[.int .i64 (y 0), .int .i64 (y 1), .int .i64 (y 2), .int .i64 (y 3)] 0 (.int .i64 (y 0)) W rfl
  have r1 := fun W => p0 #[.int .i64 (y 0), .int .i64 (y 1), .int .i64 (y 2), .int .i64 (y 3)] 1 (.int .i64 (y 1)) W rfl
  have r2 := fun W => p0 #[.int .i64 (y 0), .int .i64 (y 1), .int .i64 (y 2), .int .i64 (y 3)] 2 (.int .i64 (y 2)) W rfl
  have r3 := fun W => p0 #[.int .i64 (y 0), .int .i64 (y 1), .int .i64 (y 2), .int .i64 (y 3)] 3 (.int .i64 (y 3)) W rfl
  simp only [Op.eqItems, Sem.run_bind, Nat.mul_one, q0, r0, Result.andThen_ok, he]
  cases h0 : (x 0 == y 0) <;> cases h1 : (x 1 == y 1) <;> cases h2 : (x 2 == y 2) <;> cases h3 : (x 3 == y 3) <;> simp [Sem.run_pure, q1, q2, q3, r1, r2, r3, he, h1, h2, h3]
set_option maxRecDepth 100000 in
set_option maxHeartbeats 1000000 in
theorem atmost_any (x y : Nat → Int) (w : World) (b : Bool) (hb : b = true ↔ ∀ d, d < 4 → x d ≤ y d) :
    Calls Try.prog 40 #[.agg #[.int .i64 (x 0), .int .i64 (x 1), .int .i64 (x 2), .int .i64 (x 3)], .agg #[.int .i64 (y 0), .int .i64 (y 1), .int .i64 (y 2), .int .i64 (y 3)]] w fun e w' => e = .returned (.bool b) ∧ Below w.heap.size w w' := by
  have HB := Lib.hid hb
  obtain ⟨p, hp⟩ : ∃ p, p = w.heap.size := ⟨_, rfl⟩
  obtain ⟨W2, hW2⟩ : ∃ W, W = (w.alloc (.cells #[.int .i64 (x 0), .int .i64 (x 1), .int .i64 (x 2), .int .i64 (x 3)] 26)).alloc (.cells #[.int .i64 (y 0), .int .i64 (y 1), .int .i64 (y 2), .int .i64 (y 3)] 26) := ⟨_, rfl⟩
  have HX : Hid (Cells4 W2 p (fun j => .int .i64 (x j))) := by rw [hW2, hp]; exact (boxV w x).later (Dt.box_below _ _ _)
  have HY : Hid (Cells4 W2 (p + 1) (fun j => .int .i64 (y j))) := by
    have := boxV (w.alloc (.cells #[.int .i64 (x 0), .int .i64 (x 1), .int .i64 (x 2), .int .i64 (x 3)] 26)) y
    rw [hW2, hp]; unfold Hid; simpa using this
  have HW : Hid (Below w.heap.size w W2) := by rw [hW2]; exact (Dt.box_below _ _ _).alloc (by simp) _
  have HP := Lib.hid hp
  have HW2 := Lib.hid hW2
  clear hb hp hW2
  go_enter Try.func40, Try.ntmps40
  go_wp2
  rw [← HP.out, ← HW2.out]
  go_loopw [6] (fun i wr => ∃ (d : Nat), d ≤ 4 ∧ i = .int .i64 d ∧ Hid (∀ j, j < d → x j ≤ y j) ∧ Hid (Below W2.heap.size W2 wr)) (fun i _ => 4 - (intOf i).toNat)
  case atStart => exact ⟨0, by omega, rfl, fun j hj => by omega, Below.refl _ _⟩
  case round =>
    obtain ⟨d, hd, rfl, HG, HBL⟩ := hrel
    by_cases hd4 : d < 4
    · have k0 := (HX.out.later HBL.out).cell d hd4
      have k1 := (HY.out.later HBL.out).cell d hd4
      have hdi : (d : Int) < 4 := by omega
      obtain ⟨u, hu⟩ : ∃ u, u = x d := ⟨_, rfl⟩
      obtain ⟨v, hv⟩ : ∃ v, v = y d := ⟨_, rfl⟩
      have HU := Lib.hid hu
      have HV := Lib.hid hv
      rw [← hu] at k0
      rw [← hv] at k1
      clear hu hv
      by_cases h1 : v < u
      · have f1 : decide (v < u) = true := by simpa using h1
        have HE : Hid (false = b) := by
          unfold Hid
          cases hbb : b with
          | false => rfl
          | true => have := HB.out.1 hbb d hd4; rw [← HU.out, ← HV.out] at this; omega
        go_wp2
        go_quiet (fail)
        go_wp2
        go_ret
        exact ⟨ret_bool HE.out, HW.out.trans ((bel_drewN HBL.out _).mono HW.out.size)⟩
      · have f1 : decide (v < u) = false := by simpa using h1
        have HG2 : Hid (∀ j, j < d + 1 → x j ≤ y j) := fun j hj => by
          rcases (by omega : j < d ∨ j = d) with h | rfl
          · exact HG.out j h
          · rw [← HU.out, ← HV.out]; omega
        go_wp2
        go_quiet (fail)
        go_wp2
        go_roundw
        case rel => exact ⟨d + 1, by omega, by go_num, HG2.out, bel_drewN HBL.out _⟩
        case measure => simp [intOf]; omega
    · obtain rfl : d = 4 := by omega
      have HE : Hid (true = b) := (HB.out.2 HG.out).symm
      go_wp2
      go_ret
      exact ⟨ret_bool HE.out, HW.out.trans (HBL.out.mono HW.out.size)⟩
set_option maxRecDepth 100000 in
set_option maxHeartbeats 2000000 in
theorem raised_any (x y z : Nat → Int) (w : World) (hz : ∀ d, d < 4 → max (x d) (y d) = z d) :
    Calls Try.prog 39 #[.agg #[.int .i64 (x 0), .int .i64 (x 1), .int .i64 (x 2), .int .i64 (x 3)], .agg #[.int .i64 (y 0), .int .i64 (y 1), .int .i64 (y 2), .int .i64 (y 3)]] w fun e w' => e = .returned (.agg #[.int .i64 (z 0), .int .i64 (z 1), .int .i64 (z 2), .int .i64 (z 3)]) ∧ Below w.heap.size w w' := by
  have HZ := Lib.hid hz
  obtain ⟨p, hp⟩ : ∃ p, p = w.heap.size := ⟨_, rfl⟩
  obtain ⟨W1, hW1⟩ : ∃ W, W = (w.alloc (.cells #[.int .i64 (x 0), .int .i64 (x 1), .int .i64 (x 2), .int .i64 (x 3)] 26)).alloc (.cells #[.int .i64 (y 0), .int .i64 (y 1), .int .i64 (y 2), .int .i64 (y 3)] 26) := ⟨_, rfl⟩
  obtain ⟨W2, hW2⟩ : ∃ W, W = W1.alloc (.cells #[.int .i64 0, .int .i64 0, .int .i64 0, .int .i64 0] 26) := ⟨_, rfl⟩
  have hp1 : W1.heap.size = p + 2 := by rw [hW1, hp]; simp
  have HX : Hid (Cells4 W2 p (fun j => .int .i64 (x j))) := by rw [hW2, hW1, hp]; exact ((boxV w x).later (Dt.box_below _ _ _)).later (Dt.box_below _ _ _)
  have HY : Hid (Cells4 W2 (p + 1) (fun j => .int .i64 (y j))) := by
    have := (boxV (w.alloc (.cells #[.int .i64 (x 0), .int .i64 (x 1), .int .i64 (x 2), .int .i64 (x 3)] 26)) y).later (Dt.box_below _ #[.int .i64 0, .int .i64 0, .int .i64 0, .int .i64 0] 26)
    rw [hW2, hW1, hp]; unfold Hid; simpa using this
  have HG : Hid (Cells4 W2 (p + 2) (fun _ => .int .i64 0)) := by rw [hW2, ← hp1]; exact Cells4.new W1 _ _ _ _ _ _ rfl
  have HW : Hid (Below w.heap.size w W2) := by rw [hW2, hW1]; exact ((Dt.box_below _ _ _).alloc (by simp) _).alloc (by simp; omega) _
  have HP := Lib.hid hp
  have HW2 : Hid (W2 = ((w.alloc (.cells #[.int .i64 (x 0), .int .i64 (x 1), .int .i64 (x 2), .int .i64 (x 3)] 26)).alloc (.cells #[.int .i64 (y 0), .int .i64 (y 1), .int .i64 (y 2), .int .i64 (y 3)] 26)).alloc (.cells #[.int .i64 0, .int .i64 0, .int .i64 0, .int .i64 0] 26)) := by unfold Hid; rw [hW2, hW1]
  clear hz hp hW1 hW2 hp1
  go_enter Try.func39, Try.ntmps39
  go_wp2
  rw [← HP.out, ← HW2.out]
  go_loopw [6] (fun i wr => ∃ (d : Nat) (v : Nat → Int), d ≤ 4 ∧ i = .int .i64 d ∧ Hid (∀ j, j < d → v j = z j) ∧ Hid (∀ j, d ≤ j → v j = x j) ∧ Hid (Cells4 wr p (fun j => .int .i64 (v j))) ∧ Hid (Cells4 wr (p + 1) (fun j => .int .i64 (y j))) ∧ Hid (Cells4 wr (p + 2) (fun _ => .int .i64 0)) ∧ Hid (Below w.heap.size w wr)) (fun i _ => 4 - (intOf i).toNat)
  case atStart => exact ⟨0, x, by omega, rfl, fun j hj => by omega, fun j _ => rfl, HX.out, HY.out, HG.out, HW.out⟩
  case round =>
    clear HX HY HG HW
    obtain ⟨d, v, hd, rfl, HV1, HV2, HX, HY, HG, HW⟩ := hrel
    by_cases hd4 : d < 4
    · have hdi : (d : Int) < 4 := by omega
      have k0 := HX.out.cell d hd4
      have k1 := HY.out.cell d hd4
      have m0 := HX.out.free.2 d
      rw [HV2.out d (Nat.le_refl _)] at k0
      have hmx := HZ.out d hd4
      obtain ⟨zd, hzd⟩ : ∃ t, t = z d := ⟨_, rfl⟩
      rw [← hzd] at hmx
      have HX2 : Hid (Cells4 (wr.setCell ⟨p, d, none⟩ (.int .i64 zd)) p (fun j => .int .i64 (upd v d zd j))) := cells_upd HX.out hd4 zd
      have HY2 : Hid (Cells4 (wr.setCell ⟨p, d, none⟩ (.int .i64 zd)) (p + 1) (fun j => .int .i64 (y j))) := HY.out.other (a := ⟨p, d, none⟩) (by show p ≠ p + 1; omega) _
      have HG2 : Hid (Cells4 (wr.setCell ⟨p, d, none⟩ (.int .i64 zd)) (p + 2) (fun _ => .int .i64 0)) := HG.out.other (a := ⟨p, d, none⟩) (by show p ≠ p + 2; omega) _
      have HW3 : Hid (Below w.heap.size w (wr.setCell ⟨p, d, none⟩ (.int .i64 zd))) := HW.out.setCell (p := ⟨p, d, none⟩) (by rw [HP.out]; exact Nat.le_refl _) _
      have HV3 : Hid (∀ j, j < d + 1 → upd v d zd j = z j) := fun j hj => by
        by_cases he : j = d
        · subst he; rw [upd_same, hzd]
        · rw [upd_other _ _ he]; exact HV1.out j (by omega)
      have HV4 : Hid (∀ j, d + 1 ≤ j → upd v d zd j = x j) := fun j hj => by
        rw [upd_other _ _ (by omega)]; exact HV2.out j (by omega)
      clear hzd HX HY HG HW HV1 HV2
      go_wp2
      go_region
      all_goals
        clear k0 k1 m0
        go_wp2
        go_roundw
        case rel => exact ⟨d + 1, upd v d zd, by omega, by go_num, HV3.out, HV4.out, HX2.out.later ((Below.refl _ _).drew), HY2.out.later ((Below.refl _ _).drew), HG2.out.later ((Below.refl _ _).drew), HW3.out.drew⟩
        case measure => simp [intOf]; omega
    · obtain rfl : d = 4 := by omega
      have k0 := HX.out.cell 0 (by omega); have k1 := HX.out.cell 1 (by omega); have k2 := HX.out.cell 2 (by omega); have k3 := HX.out.cell 3 (by omega)
      rw [HV1.out 0 (by omega)] at k0
      rw [HV1.out 1 (by omega)] at k1
      rw [HV1.out 2 (by omega)] at k2
      rw [HV1.out 3 (by omega)] at k3
      obtain ⟨j0, j1, j2, j3⟩ := HG.out.put (.int .i64 (z 0)) (.int .i64 (z 1)) (.int .i64 (z 2)) (.int .i64 (z 3))
      have i0 := HG.out.cell 0 (by omega); have i1 := HG.out.cell 1 (by omega); have i2 := HG.out.cell 2 (by omega); have i3 := HG.out.cell 3 (by omega)
      have m0 := HG.out.free.2 0; have m1 := HG.out.free.2 1; have m2 := HG.out.free.2 2; have m3 := HG.out.free.2 3
      have HBE : Hid (Below w.heap.size w (put4 (p + 2) (.int .i64 (z 0)) (.int .i64 (z 1)) (.int .i64 (z 2)) (.int .i64 (z 3)) wr)) := put4_below HW.out (by rw [HP.out]; omega)
      go_wp2
      unfold put4 at j0 j1 j2 j3
      refine bodyPost_ret (v := .agg #[.int .i64 (z 0), .int .i64 (z 1), .int .i64 (z 2), .int .i64 (z 3)]) (by simp [results, Try.results39, go_sem, j0, j1, j2, j3]) rfl ⟨rfl, HBE.out⟩
end Cx
end Go.Proofs.Ytfkkjgebemnhnaa
