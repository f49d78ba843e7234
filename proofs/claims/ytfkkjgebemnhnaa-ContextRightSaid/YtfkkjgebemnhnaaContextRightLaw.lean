/- ContextRight answers true for every list of spans. No condition. -/
import Derived.Test.YtfkkjgebemnhnaaCtxSolid
import Derived.Test.YtfkkjgebemnhnaaCtxSame
import Derived.Test.YtfkkjgebemnhnaaCtxVec2
import Derived.Test.YtfkkjgebemnhnaaCtxAwake
import Derived.Test.YtfkkjgebemnhnaaCtxArgs
import Derived.ProofKit
import Derived.OpenShut
namespace Go.Proofs.Ytfkkjgebemnhnaa.lawContextRight
open Go.ChangeShapes Go.WideShapes Go.ChangeAt Go.RowKit Sp Rw Cx
def MayH (x : Nat → Int) (b : Bool) : Prop := b = true ↔ MayV x
def SolH (l : List S3) (z : Bool) : Prop := z = true ↔ RightC l ∧ l = fullV (fun d => vecN l true d)
theorem fullV_part {x : Nat → Int} {d : Nat} (hd : d < 4) : Cx.part (fullV x) d = upTo (x d) := by
  unfold fullV
  rw [pre_four, part_glue _ (by unfold Cen; omega)]
  simp
theorem fullV_right {x : Nat → Int} (h : MayV x) : RightC (fullV x) := by
  unfold fullV
  rw [pre_four]
  exact right_glue fun d hd => upTo_right (h d.toNat (by have := hd.1; have := hd.2; omega))
theorem fullV_vec {x : Nat → Int} (h : MayV x) (d : Nat) (hd : d < 4) : vecN (fullV x) true d = x d := by
  unfold vecN
  rw [fullV_part hd]
  simp only [if_true]
  exact upTo_front (h d hd)
theorem fullV_congr {x y : Nat → Int} (h : ∀ d, d < 4 → x d = y d) : fullV x = fullV y := by
  unfold fullV
  exact (by simp only [pre]; rw [h 0 (by omega), h 1 (by omega), h 2 (by omega), h 3 (by omega)])
theorem full_solid {x : Nat → Int} (h : MayV x) : fullV x = fullV (fun d => vecN (fullV x) true d) := fullV_congr fun d hd => (fullV_vec h d hd).symm
theorem countC_to (l : List S3) (n : Nat) (A : Option Addr) (c : Nat) (w : World) (hl : l.length = n) (hn : n ≤ 100000) (hr : Rd w w.heap.size 3 A n c (spsC l)) (b : Bool) (hb : rightCB l = b) (x : Int) (hx : (if b then countC l else 0) = x) :
    Calls Try.prog 17 #[.slice A n c] w fun e w' => e = .returned (.int .i64 x) ∧ Below w.heap.size w w' := by
  subst hx; exact countC_any l n A c w hl hn hr b hb
set_option maxRecDepth 100000 in
set_option maxHeartbeats 8000000 in
theorem walk_any (ua : List S3) (Aa : Option Addr) (ca : Nat) (w : World) (hra : Rd w w.heap.size 3 Aa ua.length ca (spsC ua)) :
    Calls Try.prog 3 #[.slice Aa ua.length ca] w fun e w' => e = .returned (.bool true) ∧ Below w.heap.size w w' := by
  obtain ⟨na, hna⟩ : ∃ n, n = ua.length := ⟨_, rfl⟩
  rw [← hna] at hra ⊢
  have HLa : Hid (ua.length = na) := hna.symm
  have Ra := Lib.hid hra
  clear hra hna
  have HB0 : Hid (Below w.heap.size w w) := Below.refl _ _
  by_cases h1000 : na ≤ 1000
  · have f1 : decide ((1000 : Int) < na) = false := decide_eq_false (by omega)
    cases hR : rightCB ua with
    | true =>
      have HR0 := Lib.hid hR
      have HRa := Lib.hid (of_rightCB hR)
      obtain ⟨y, hy⟩ : ∃ y : Nat → Int, y = fun d => vecN ua true d := ⟨_, rfl⟩
      have HY : Hid (∀ d, d < 4 → y d = vecN ua true d) := fun d _ => by rw [hy]
      obtain ⟨z, hz⟩ : ∃ z, z = decide (ua = fullV y) := ⟨_, rfl⟩
      have HSO : Hid (SolH ua z) := by
        unfold Hid SolH
        rw [hz, decide_eq_true_iff, hy]
        exact ⟨fun h => ⟨HRa.out, h⟩, fun h => h.2⟩
      have HZ := Lib.hid hz
      obtain ⟨nf, hnf⟩ : ∃ n, n = (fullV y).length := ⟨_, rfl⟩
      have HLF : Hid ((fullV y).length = nf) := hnf.symm
      have hf4 : nf ≤ 4 := by rw [hnf]; exact preV_len y 4 (Nat.le_refl _)
      have ev := fun W => (eqV W y y).trans (show Result.ok (y 0 == y 0 && (y 1 == y 1 && (y 2 == y 2 && y 3 == y 3))) W = Result.ok true W by simp)
      have fz : (z == z) = true := by cases z <;> rfl
      clear hR hy hz hnf
      go_enter Try.func3, Try.ntmps3
      go_wp2_with fail
      refine (Cx.awake_any _).mono ?_
      rintro e w1 ⟨rfl, hb⟩
      have HB1 := Lib.hid (HB0.out.trans (hb.mono HB0.out.size))
      have Ra := Lib.hid (Ra.out.later hb)
      clear hb
      go_wp2_with fail
      refine (vectorC_any ua na Aa ca w1 HLa.out (by omega) Ra.out true HR0.out y HY.out).mono ?_
      rintro e w2 ⟨rfl, hb⟩
      have HB2 := Lib.hid (HB1.out.trans (hb.mono HB1.out.size))
      have Ra := Lib.hid (Ra.out.later hb)
      clear hb
      obtain ⟨pV, hp⟩ : ∃ p, p = w2.heap.size := ⟨_, rfl⟩
      obtain ⟨w3, hw⟩ : ∃ W, W = w2.alloc (.cells #[.int .i64 (y 0), .int .i64 (y 1), .int .i64 (y 2), .int .i64 (y 3)] 26) := ⟨_, rfl⟩
      have hb : Below w2.heap.size w2 w3 := by rw [hw]; exact Dt.box_below _ _ _
      have HB3 := Lib.hid (HB2.out.trans (hb.mono HB2.out.size))
      have Ra := Lib.hid (Ra.out.later hb)
      have CV : Hid (Cells4 w3 pV (fun j => .int .i64 (y j))) := by rw [hw, hp]; exact boxV _ y
      have HQV := Lib.hid hp
      have HWV := Lib.hid hw
      clear hb hp hw
      go_wp2_with fail
      rw [← HQV.out, ← HWV.out]
      refine (refrightC_any ua na Aa ca w3 HLa.out (by omega) Ra.out true HR0.out).mono ?_
      rintro e w4 ⟨rfl, hb⟩
      have HB4 := Lib.hid (HB3.out.trans (hb.mono HB3.out.size))
      have Ra := Lib.hid (Ra.out.later hb)
      have CV := Lib.hid (CV.out.later hb)
      clear hb
      go_wp2
      go_loopw [4, 38] (fun a i wr => ∃ (d : Nat) (x : Int), d ≤ 4 ∧ a = .int .i64 x ∧ i = .int .i64 d ∧ Hid (x = cntC ua d) ∧ Hid (0 ≤ x ∧ x ≤ d * 1099511627776) ∧ Hid (Below w4.heap.size w4 wr)) (fun _ i _ => 4 - (intOf i).toNat)
      case atStart => exact ⟨0, 0, by omega, rfl, rfl, rfl, ⟨by omega, by omega⟩, Below.refl _ _⟩
      case round =>
        obtain ⟨d, x, hd, rfl, rfl, HX, HXB, HBL⟩ := hrel
        have RA := Lib.hid (Ra.out.later HBL.out)
        by_cases hd4 : d < 4
        · have HC := Lib.hid (part_any ua na Aa ca d wr HLa.out (by omega) RA.out)
          have HPL : Hid ((Cx.part ua d).length ≤ 1000) := Nat.le_trans (part_len _ _) (by rw [HLa.out]; exact h1000)
          have HRP : Hid (RightF 1 (Cx.part ua d)) := HRa.out.part d (by unfold Cen; omega)
          obtain ⟨hy0, hy1⟩ := countI_bound HRP.out
          obtain ⟨hx0, hx1⟩ := HXB.out
          obtain ⟨t, ht⟩ : ∃ t, t = countI (Cx.part ua d) := ⟨_, rfl⟩
          rw [← ht] at hy0 hy1
          have hw : IntKind.i64.wrap (x + t) = x + t := IntWalk.i64_in _ (by omega)
          have HX2 : Hid (x + t = cntC ua (d + 1)) := by unfold Hid; rw [ht, HX.out]; rfl
          have HT := Lib.hid ht.symm
          clear ht
          go_wp2_with fail
          refine HC.out.mono ?_
          rintro e v1 ⟨A1, q1, c1, rfl, HL1, ho1, hb1⟩
          have HB1 := Lib.hid (HBL.out.trans (hb1.mono HBL.out.size))
          have HCN := Lib.hid (refcount_any (Cx.part ua d) q1 A1 c1 v1 HL1.out (by have := HL1.out; have := HPL.out; omega) ho1.rd HRP.out)
          rw [HT.out] at HCN
          clear ho1 hb1
          go_wp2_with (go_at_call 18; refine HCN.out.mono ?_; rintro e v2 ⟨rfl, hb2⟩; have HB2 := Lib.hid (HB1.out.trans (hb2.mono HB1.out.size)); clear hb2)
          go_roundw
          case rel => exact ⟨d + 1, x + t, by omega, by go_num, by go_num, HX2.out, ⟨by omega, by omega⟩, HB2.out⟩
          case measure => simp [intOf]; omega
        · obtain rfl : d = 4 := by omega
          rename World => w5
          have HB5 := Lib.hid (HB4.out.trans (HBL.out.mono HB4.out.size))
          have Ra := Lib.hid (Ra.out.later HBL.out)
          have CV := Lib.hid (CV.out.later HBL.out)
          have HXC : Hid ((if true then countC ua else 0) = x) := by unfold Hid; rw [if_pos rfl, HX.out, cntC_four]
          clear HBL HX HXB RA
          go_wp2_with fail
          refine (refvectorC_any ua na Aa ca w5 HLa.out (by omega) Ra.out HRa.out y HY.out).mono ?_
          rintro e w6 ⟨rfl, hb⟩
          have HB6 := Lib.hid (HB5.out.trans (hb.mono HB5.out.size))
          have Ra := Lib.hid (Ra.out.later hb)
          have CV := Lib.hid (CV.out.later hb)
          clear hb
          obtain ⟨pW, hp⟩ : ∃ p, p = w6.heap.size := ⟨_, rfl⟩
          obtain ⟨w7, hw⟩ : ∃ W, W = w6.alloc (.cells #[.int .i64 (y 0), .int .i64 (y 1), .int .i64 (y 2), .int .i64 (y 3)] 26) := ⟨_, rfl⟩
          have hb : Below w6.heap.size w6 w7 := by rw [hw]; exact Dt.box_below _ _ _
          have HB7 := Lib.hid (HB6.out.trans (hb.mono HB6.out.size))
          have Ra := Lib.hid (Ra.out.later hb)
          have CV := Lib.hid (CV.out.later hb)
          have CW : Hid (Cells4 w7 pW (fun j => .int .i64 (y j))) := by rw [hw, hp]; exact boxV _ y
          have HQW := Lib.hid hp
          have HWW := Lib.hid hw
          clear hb hp hw
          go_wp2
          rw [← HQW.out, ← HWW.out]
          have k0 := CV.out.cell 0 (by omega)
          have k1 := CV.out.cell 1 (by omega)
          have k2 := CV.out.cell 2 (by omega)
          have k3 := CV.out.cell 3 (by omega)
          have j0 := CW.out.cell 0 (by omega)
          have j1 := CW.out.cell 1 (by omega)
          have j2 := CW.out.cell 2 (by omega)
          have j3 := CW.out.cell 3 (by omega)
          refine wp_region_held_drew (S := fun W => W.cell? ⟨pV, 0, none⟩ = some (.int .i64 (y 0)) ∧ W.cell? ⟨pV, 1, none⟩ = some (.int .i64 (y 1)) ∧ W.cell? ⟨pV, 2, none⟩ = some (.int .i64 (y 2)) ∧ W.cell? ⟨pV, 3, none⟩ = some (.int .i64 (y 3)) ∧ W.cell? ⟨pW, 0, none⟩ = some (.int .i64 (y 0)) ∧ W.cell? ⟨pW, 1, none⟩ = some (.int .i64 (y 1)) ∧ W.cell? ⟨pW, 2, none⟩ = some (.int .i64 (y 2)) ∧ W.cell? ⟨pW, 3, none⟩ = some (.int .i64 (y 3))) (by kernel_rfl) (by go_keep) (fun hHeld => ?_)
          obtain ⟨w8, hw8⟩ : ∃ W, W = w7.drew := ⟨_, rfl⟩
          have hbd : Below w7.heap.size w7 w8 := by rw [hw8]; exact (Below.refl _ _).drew
          have HB8 := Lib.hid (HB7.out.trans (hbd.mono HB7.out.size))
          have Ra := Lib.hid (Ra.out.later hbd)
          have CV := Lib.hid (CV.out.later hbd)
          have CW := Lib.hid (CW.out.later hbd)
          clear hbd
          rw [← hw8] at hHeld ⊢
          clear hw8
          clear k0 k1 k2 k3
          clear j0 j1 j2 j3
          refine wpAnyH_take (i := 0) (oi := ⟨some 50, _, _, _, _, _⟩) (v := ?_) rfl (by kernel_rfl) (by kernel_rfl) (by kernel_rfl) (fun _ _ _ h => h) (Or.inl ⟨by kernel_rfl, ?_⟩) (by assumption) ?_
          rotate_left
          (intro wz hSw; (try dsimp only at hSw); go_simp; try with_reducible rfl)
          try simp only [Act.put, List.setIfInBounds_toArray, List.set_cons_zero, List.set_cons_succ]
          refine wpAnyH_ready (rs := [1]) (by kernel_rfl) (by simp) ?_
          refine AllReadyH.cons (o := ⟨some 51, _, _, _, _, _⟩) rfl (fun K hK => ?_) AllReadyH.nil
          go_simp
          go_at_call 15
          refine (rightC_any ua na Aa ca _ HLa.out (by omega) Ra.out true HR0.out).mono ?_
          rintro e w9 ⟨rfl, hb⟩
          have HB9 := Lib.hid (HB8.out.trans (hb.mono HB8.out.size))
          have Ra := Lib.hid (Ra.out.later hb)
          have CV := Lib.hid (CV.out.later hb)
          have CW := Lib.hid (CW.out.later hb)
          clear hb
          refine hK.out _ _ ?_ (fun hHeld2 => ?_)
          exact ⟨CV.out.cell 0 (by omega), CV.out.cell 1 (by omega), CV.out.cell 2 (by omega), CV.out.cell 3 (by omega), CW.out.cell 0 (by omega), CW.out.cell 1 (by omega), CW.out.cell 2 (by omega), CW.out.cell 3 (by omega)⟩
          clear hK K hHeld
          have hHeld := hHeld2
          clear hHeld2
          try simp only [Act.put, List.setIfInBounds_toArray, List.set_cons_zero, List.set_cons_succ]
          refine wpAnyH_take (i := 2) (oi := ⟨some 52, _, _, _, _, _⟩) (v := ?_) rfl (by kernel_rfl) (by kernel_rfl) (by kernel_rfl) (fun _ _ _ h => h) (Or.inl ⟨by kernel_rfl, ?_⟩) (by assumption) ?_
          rotate_left
          (intro wz hSw; (try dsimp only at hSw); go_simp; try with_reducible rfl)
          try simp only [Act.put, List.setIfInBounds_toArray, List.set_cons_zero, List.set_cons_succ]
          refine wpAnyH_take (i := 3) (oi := ⟨some 53, _, _, _, _, _⟩) (v := ?_) rfl (by kernel_rfl) (by kernel_rfl) (by kernel_rfl) (fun _ _ _ h => h) (Or.inl ⟨by kernel_rfl, ?_⟩) (by assumption) ?_
          rotate_left
          (intro wz hSw; (try dsimp only at hSw); go_simp; try with_reducible rfl)
          try simp only [Act.put, List.setIfInBounds_toArray, List.set_cons_zero, List.set_cons_succ]
          refine wpAnyH_take (i := 4) (oi := ⟨some 54, _, _, _, _, _⟩) (v := ?_) rfl (by kernel_rfl) (by kernel_rfl) (by kernel_rfl) (fun _ _ _ h => h) (Or.inl ⟨by kernel_rfl, ?_⟩) (by assumption) ?_
          rotate_left
          (intro wz hSw; (try dsimp only at hSw); go_simp; try with_reducible rfl)
          try simp only [Act.put, List.setIfInBounds_toArray, List.set_cons_zero, List.set_cons_succ]
          refine wpAnyH_take (i := 5) (oi := ⟨some 55, _, _, _, _, _⟩) (v := ?_) rfl (by kernel_rfl) (by kernel_rfl) (by kernel_rfl) (fun _ _ _ h => h) (Or.inl ⟨by kernel_rfl, ?_⟩) (by assumption) ?_
          rotate_left
          (intro wz hSw; (try dsimp only at hSw); go_simp; try with_reducible rfl)
          try simp only [Act.put, List.setIfInBounds_toArray, List.set_cons_zero, List.set_cons_succ]
          refine wpAnyH_take (i := 6) (oi := ⟨some 56, _, _, _, _, _⟩) (v := ?_) rfl (by kernel_rfl) (by kernel_rfl) (by kernel_rfl) (fun _ _ _ h => h) (Or.inl ⟨by kernel_rfl, ?_⟩) (by assumption) ?_
          rotate_left
          (intro wz hSw; (try dsimp only at hSw); go_simp; try with_reducible rfl)
          try simp only [Act.put, List.setIfInBounds_toArray, List.set_cons_zero, List.set_cons_succ]
          refine wpAnyH_take (i := 7) (oi := ⟨some 57, _, _, _, _, _⟩) (v := ?_) rfl (by kernel_rfl) (by kernel_rfl) (by kernel_rfl) (fun _ _ _ h => h) (Or.inl ⟨by kernel_rfl, ?_⟩) (by assumption) ?_
          rotate_left
          (intro wz hSw; (try dsimp only at hSw); go_simp; try with_reducible rfl)
          try simp only [Act.put, List.setIfInBounds_toArray, List.set_cons_zero, List.set_cons_succ]
          refine wpAnyH_take (i := 8) (oi := ⟨some 58, _, _, _, _, _⟩) (v := ?_) rfl (by kernel_rfl) (by kernel_rfl) (by kernel_rfl) (fun _ _ _ h => h) (Or.inl ⟨by kernel_rfl, ?_⟩) (by assumption) ?_
          rotate_left
          (intro wz hSw; (try dsimp only at hSw); go_simp; try with_reducible rfl)
          try simp only [Act.put, List.setIfInBounds_toArray, List.set_cons_zero, List.set_cons_succ]
          refine wpAnyH_take (i := 10) (oi := ⟨some 60, _, _, _, _, _⟩) (v := ?_) rfl (by kernel_rfl) (by kernel_rfl) (by kernel_rfl) (fun _ _ _ h => h) (Or.inl ⟨by kernel_rfl, ?_⟩) (by assumption) ?_
          rotate_left
          (intro wz hSw; (try dsimp only at hSw); go_simp; try with_reducible rfl)
          try simp only [Act.put, List.setIfInBounds_toArray, List.set_cons_zero, List.set_cons_succ]
          refine wpAnyH_ready (rs := [9]) (by kernel_rfl) (by simp) ?_
          refine AllReadyH.cons (o := ⟨some 59, _, _, _, _, _⟩) rfl (fun K hK => ?_) AllReadyH.nil
          go_simp
          go_at_call 17
          refine (countC_to ua na Aa ca _ HLa.out (by omega) Ra.out true HR0.out x HXC.out).mono ?_
          rintro e w10 ⟨rfl, hb⟩
          have HB10 := Lib.hid (HB9.out.trans (hb.mono HB9.out.size))
          have Ra := Lib.hid (Ra.out.later hb)
          have CV := Lib.hid (CV.out.later hb)
          have CW := Lib.hid (CW.out.later hb)
          clear hb
          refine hK.out _ _ ?_ (fun hHeld2 => ?_)
          exact ⟨CV.out.cell 0 (by omega), CV.out.cell 1 (by omega), CV.out.cell 2 (by omega), CV.out.cell 3 (by omega), CW.out.cell 0 (by omega), CW.out.cell 1 (by omega), CW.out.cell 2 (by omega), CW.out.cell 3 (by omega)⟩
          clear hK K hHeld
          have hHeld := hHeld2
          clear hHeld2
          try simp only [Act.put, List.setIfInBounds_toArray, List.set_cons_zero, List.set_cons_succ]
          refine wpAnyH_take (i := 11) (oi := ⟨some 61, _, _, _, _, _⟩) (v := ?_) rfl (by kernel_rfl) (by kernel_rfl) (by kernel_rfl) (fun _ _ _ h => h) (Or.inl ⟨by kernel_rfl, ?_⟩) (by assumption) ?_
          rotate_left
          (intro wz hSw; (try dsimp only at hSw); go_simp; try with_reducible rfl)
          try simp only [Act.put, List.setIfInBounds_toArray, List.set_cons_zero, List.set_cons_succ]
          refine wpAnyH_take (i := 12) (oi := ⟨some 62, _, _, _, _, _⟩) (v := ?_) rfl (by kernel_rfl) (by kernel_rfl) (by kernel_rfl) (fun _ _ _ h => h) (Or.inl ⟨by kernel_rfl, ?_⟩) (by assumption) ?_
          rotate_left
          (intro wz hSw; (try dsimp only at hSw); go_simp; try with_reducible rfl)
          try simp only [Act.put, List.setIfInBounds_toArray, List.set_cons_zero, List.set_cons_succ]
          refine wpAnyH_take (i := 13) (oi := ⟨some 63, _, _, _, _, _⟩) (v := ?_) rfl (by kernel_rfl) (by kernel_rfl) (by kernel_rfl) (fun _ _ _ h => h) (Or.inl ⟨by kernel_rfl, ?_⟩) (by assumption) ?_
          rotate_left
          (intro wz hSw; (try dsimp only at hSw); go_simp; try with_reducible rfl)
          try simp only [Act.put, List.setIfInBounds_toArray, List.set_cons_zero, List.set_cons_succ]
          refine wpAnyH_take (i := 14) (oi := ⟨some 64, _, _, _, _, _⟩) (v := ?_) rfl (by kernel_rfl) (by kernel_rfl) (by kernel_rfl) (fun _ _ _ h => h) (Or.inl ⟨by kernel_rfl, ?_⟩) (by assumption) ?_
          rotate_left
          (intro wz hSw; (try dsimp only at hSw); go_simp; try with_reducible rfl)
          try simp only [Act.put, List.setIfInBounds_toArray, List.set_cons_zero, List.set_cons_succ]
          refine wpAnyH_take (i := 16) (oi := ⟨some 66, _, _, _, _, _⟩) (v := ?_) rfl (by kernel_rfl) (by kernel_rfl) (by kernel_rfl) (fun _ _ _ h => h) (Or.inl ⟨by kernel_rfl, ?_⟩) (by assumption) ?_
          rotate_left
          (intro wz hSw; (try dsimp only at hSw); go_simp; try with_reducible rfl)
          try simp only [Act.put, List.setIfInBounds_toArray, List.set_cons_zero, List.set_cons_succ]
          refine wpAnyH_take (i := 17) (oi := ⟨some 67, _, _, _, _, _⟩) (v := ?_) rfl (by kernel_rfl) (by kernel_rfl) (by kernel_rfl) (fun _ _ _ h => h) (Or.inl ⟨by kernel_rfl, ?_⟩) (by assumption) ?_
          rotate_left
          (intro wz hSw; (try dsimp only at hSw); go_simp; try with_reducible rfl)
          try simp only [Act.put, List.setIfInBounds_toArray, List.set_cons_zero, List.set_cons_succ]
          refine wpAnyH_ready (rs := [15]) (by kernel_rfl) (by simp) ?_
          refine AllReadyH.cons (o := ⟨some 65, _, _, _, _, _⟩) rfl (fun K hK => ?_) AllReadyH.nil
          go_simp
          go_at_call 16
          refine (solidC_any ua na Aa ca _ HLa.out (by omega) Ra.out z HSO.out).mono ?_
          rintro e w11 ⟨rfl, hb⟩
          have HB11 := Lib.hid (HB10.out.trans (hb.mono HB10.out.size))
          have Ra := Lib.hid (Ra.out.later hb)
          have CV := Lib.hid (CV.out.later hb)
          have CW := Lib.hid (CW.out.later hb)
          clear hb
          refine hK.out _ _ ?_ (fun hHeld2 => ?_)
          exact ⟨CV.out.cell 0 (by omega), CV.out.cell 1 (by omega), CV.out.cell 2 (by omega), CV.out.cell 3 (by omega), CW.out.cell 0 (by omega), CW.out.cell 1 (by omega), CW.out.cell 2 (by omega), CW.out.cell 3 (by omega)⟩
          clear hK K hHeld
          have hHeld := hHeld2
          clear hHeld2
          try simp only [Act.put, List.setIfInBounds_toArray, List.set_cons_zero, List.set_cons_succ]
          refine wpAnyH_ready (rs := [18]) (by kernel_rfl) (by simp) ?_
          refine AllReadyH.cons (o := ⟨some 68, _, _, _, _, _⟩) rfl (fun K hK => ?_) AllReadyH.nil
          go_simp
          go_at_call 22
          refine (reffull_any y _ nf HLF.out).mono ?_
          rintro e w12 ⟨Aq, cq, rfl, hrq, hb⟩
          have HB12 := Lib.hid (HB11.out.trans (hb.mono HB11.out.size))
          have Ra := Lib.hid (Ra.out.later hb)
          have CV := Lib.hid (CV.out.later hb)
          have CW := Lib.hid (CW.out.later hb)
          clear hb
          have Rq := Lib.hid hrq
          clear hrq
          refine hK.out _ _ ?_ (fun hHeld2 => ?_)
          exact ⟨CV.out.cell 0 (by omega), CV.out.cell 1 (by omega), CV.out.cell 2 (by omega), CV.out.cell 3 (by omega), CW.out.cell 0 (by omega), CW.out.cell 1 (by omega), CW.out.cell 2 (by omega), CW.out.cell 3 (by omega)⟩
          clear hK K hHeld
          have hHeld := hHeld2
          clear hHeld2
          try simp only [Act.put, List.setIfInBounds_toArray, List.set_cons_zero, List.set_cons_succ]
          refine wpAnyH_ready (rs := [19]) (by kernel_rfl) (by simp) ?_
          refine AllReadyH.cons (o := ⟨some 69, _, _, _, _, _⟩) rfl (fun K hK => ?_) AllReadyH.nil
          go_simp
          go_at_call 21
          refine (refsameC_any ua (fullV y) na nf Aa Aq ca cq _ HLa.out HLF.out (by omega) Ra.out Rq.out z HZ.out).mono ?_
          rintro e w13 ⟨rfl, hb⟩
          have HB13 := Lib.hid (HB12.out.trans (hb.mono HB12.out.size))
          have Ra := Lib.hid (Ra.out.later hb)
          have Rq := Lib.hid (Rq.out.later hb)
          have CV := Lib.hid (CV.out.later hb)
          have CW := Lib.hid (CW.out.later hb)
          clear hb
          refine hK.out _ _ ?_ (fun hHeld2 => ?_)
          exact ⟨CV.out.cell 0 (by omega), CV.out.cell 1 (by omega), CV.out.cell 2 (by omega), CV.out.cell 3 (by omega), CW.out.cell 0 (by omega), CW.out.cell 1 (by omega), CW.out.cell 2 (by omega), CW.out.cell 3 (by omega)⟩
          clear hK K hHeld
          have hHeld := hHeld2
          clear hHeld2
          try simp only [Act.put, List.setIfInBounds_toArray, List.set_cons_zero, List.set_cons_succ]
          refine wpAnyH_take (i := 20) (oi := ⟨some 70, _, _, _, _, _⟩) (v := ?_) rfl (by kernel_rfl) (by kernel_rfl) (by kernel_rfl) (fun _ _ _ h => h) (Or.inl ⟨by kernel_rfl, ?_⟩) (by assumption) ?_
          rotate_left
          (intro wz hSw; (try dsimp only at hSw); go_simp; try with_reducible rfl)
          try simp only [Act.put, List.setIfInBounds_toArray, List.set_cons_zero, List.set_cons_succ]
          refine wpAnyH_take (i := 21) (oi := ⟨some 71, _, _, _, _, _⟩) (v := ?_) rfl (by kernel_rfl) (by kernel_rfl) (by kernel_rfl) (fun _ _ _ h => h) (Or.inl ⟨by kernel_rfl, ?_⟩) (by assumption) ?_
          rotate_left
          (intro wz hSw; (try dsimp only at hSw); go_simp; try with_reducible rfl)
          try simp only [Act.put, List.setIfInBounds_toArray, List.set_cons_zero, List.set_cons_succ]
          refine wpAnyH_take (i := 22) (oi := ⟨some 2, _, _, _, _, _⟩) (v := ?_) rfl (by kernel_rfl) (by kernel_rfl) (by kernel_rfl) (fun _ _ _ h => h) (Or.inl ⟨by kernel_rfl, ?_⟩) (by assumption) ?_
          rotate_left
          (intro wz hSw; (try dsimp only at hSw); go_simp; try with_reducible rfl)
          try simp only [Act.put, List.setIfInBounds_toArray, List.set_cons_zero, List.set_cons_succ]
          refine wpAnyH_done (by kernel_rfl) ?_ _
          go_wp2
          go_ret
          exact ⟨rfl, HB13.out⟩
    | false =>
      have HR0 := Lib.hid hR
      have HSO : Hid (SolH ua false) := ⟨fun h => Bool.noConfusion h, fun h => absurd h.1 (not_rightCB hR)⟩
      obtain ⟨y, hy⟩ : ∃ y : Nat → Int, ∀ d, y d = 0 := ⟨fun _ => 0, fun _ => rfl⟩
      have HY : Hid (∀ d, d < 4 → y d = vecN ua false d) := fun d _ => by rw [hy]; rfl
      have ev : ∀ W, (Op.equalIn 10000 26 (.agg #[.int .i64 (y 0), .int .i64 (y 1), .int .i64 (y 2), .int .i64 (y 3)]) (.agg #[.int .i64 0, .int .i64 0, .int .i64 0, .int .i64 0])).run Try.prog W = Result.ok true W := fun W => (eqV W y (fun _ => 0)).trans (by simp [hy])
      clear hR hy
      go_enter Try.func3, Try.ntmps3
      go_wp2_with fail
      refine (Cx.awake_any _).mono ?_
      rintro e w1 ⟨rfl, hb⟩
      have HB1 := Lib.hid (HB0.out.trans (hb.mono HB0.out.size))
      have Ra := Lib.hid (Ra.out.later hb)
      clear hb
      go_wp2_with fail
      refine (vectorC_any ua na Aa ca w1 HLa.out (by omega) Ra.out false HR0.out y HY.out).mono ?_
      rintro e w2 ⟨rfl, hb⟩
      have HB2 := Lib.hid (HB1.out.trans (hb.mono HB1.out.size))
      have Ra := Lib.hid (Ra.out.later hb)
      clear hb
      obtain ⟨pV, hp⟩ : ∃ p, p = w2.heap.size := ⟨_, rfl⟩
      obtain ⟨w3, hw⟩ : ∃ W, W = w2.alloc (.cells #[.int .i64 (y 0), .int .i64 (y 1), .int .i64 (y 2), .int .i64 (y 3)] 26) := ⟨_, rfl⟩
      have hb : Below w2.heap.size w2 w3 := by rw [hw]; exact Dt.box_below _ _ _
      have HB3 := Lib.hid (HB2.out.trans (hb.mono HB2.out.size))
      have Ra := Lib.hid (Ra.out.later hb)
      have CV : Hid (Cells4 w3 pV (fun j => .int .i64 (y j))) := by rw [hw, hp]; exact boxV _ y
      have HQV := Lib.hid hp
      have HWV := Lib.hid hw
      clear hb hp hw
      go_wp2_with fail
      rw [← HQV.out, ← HWV.out]
      refine (refrightC_any ua na Aa ca w3 HLa.out (by omega) Ra.out false HR0.out).mono ?_
      rintro e w4 ⟨rfl, hb⟩
      have HB4 := Lib.hid (HB3.out.trans (hb.mono HB3.out.size))
      have Ra := Lib.hid (Ra.out.later hb)
      have CV := Lib.hid (CV.out.later hb)
      clear hb
      go_wp2_with fail
      refine (rightC_any ua na Aa ca w4 HLa.out (by omega) Ra.out false HR0.out).mono ?_
      rintro e w5 ⟨rfl, hb⟩
      have HB5 := Lib.hid (HB4.out.trans (hb.mono HB4.out.size))
      have Ra := Lib.hid (Ra.out.later hb)
      have CV := Lib.hid (CV.out.later hb)
      clear hb
      have k0 := CV.out.cell 0 (by omega)
      have k1 := CV.out.cell 1 (by omega)
      have k2 := CV.out.cell 2 (by omega)
      have k3 := CV.out.cell 3 (by omega)
      go_wp2_with fail
      refine (solidC_any ua na Aa ca w5 HLa.out (by omega) Ra.out false HSO.out).mono ?_
      rintro e w6 ⟨rfl, hb⟩
      have HB6 := Lib.hid (HB5.out.trans (hb.mono HB5.out.size))
      have Ra := Lib.hid (Ra.out.later hb)
      have CV := Lib.hid (CV.out.later hb)
      clear hb
      clear k0 k1 k2 k3
      have k0 := CV.out.cell 0 (by omega)
      have k1 := CV.out.cell 1 (by omega)
      have k2 := CV.out.cell 2 (by omega)
      have k3 := CV.out.cell 3 (by omega)
      go_wp2_with fail
      refine (countC_to ua na Aa ca w6 HLa.out (by omega) Ra.out false HR0.out 0 rfl).mono ?_
      rintro e w7 ⟨rfl, hb⟩
      have HB7 := Lib.hid (HB6.out.trans (hb.mono HB6.out.size))
      have Ra := Lib.hid (Ra.out.later hb)
      have CV := Lib.hid (CV.out.later hb)
      clear hb
      go_wp2
      go_ret
      exact ⟨rfl, HB7.out⟩
  · have f1 : decide ((1000 : Int) < na) = true := decide_eq_true (by omega)
    go_enter Try.func3, Try.ntmps3
    go_wp2_with fail
    refine (Cx.awake_any _).mono ?_
    rintro e w1 ⟨rfl, hb⟩
    have HB1 := Lib.hid (HB0.out.trans (hb.mono HB0.out.size))
    have Ra := Lib.hid (Ra.out.later hb)
    clear hb
    go_wp2_with fail
    refine (Cx.awake_any _).mono ?_
    rintro e w2 ⟨rfl, hb⟩
    have HB2 := Lib.hid (HB1.out.trans (hb.mono HB1.out.size))
    have Ra := Lib.hid (Ra.out.later hb)
    clear hb
    go_wp2
    go_ret
    exact ⟨rfl, HB2.out⟩
set_option maxRecDepth 100000 in
theorem lifted (os : Os) (started : os.Started) (H : Type) (enc : TypeId × Value → H) :
    ReturnsInHanded {} Try.checked os 3 .any (Rows.contextRightSpec.pre6 enc Try.prog Try.f3 Rows.contextRightRow.domain false) (Rows.contextRightSpec.post enc Try.prog Try.f3 false true false false) := by
  refine returnsInHanded_of_change (C := Try.checked) own started (by kernel_rfl) Try.func3
    (ChangeSpec.witness6 (enc := enc) (C := Try.checked) false ⟨#[], #[.slice none 0 0], []⟩ 8 (by kernel_rfl) (by kernel_rfl) (by kernel_rfl) (by kernel_rfl)) ?_
  intro W base args ds gs before hval0 hW _ _
  have hval : ∀ (j : Nat) t v, Try.f3.params[j]? = some t → args[j]? = some v → Value.okWide Try.prog W .any base t v := hval0
  have hW' := hW
  obtain ⟨p, q, hA0, hV, rfl, hfz, hnd⟩ := hW
  have hA : DataW.TrodAll enc Try.prog W 0 (fun _ => true) true Try.f3.params.toList args.toList ds p := hA0
  rw [Try.params3] at hA hval
  obtain ⟨v0, d0, rfl, rfl, h0⟩ := trodAll_one hA
  obtain ⟨rfl, rfl⟩ := trodVars_none hV
  obtain ⟨a0, len0, cap0, rfl⟩ := okWide_slice Try.underlying23 (hval 0 23 v0 rfl rfl)
  obtain ⟨fuel0, hf0⟩ := h0
  obtain ⟨l0, rfl, hr0, _⟩ := Cx.ctx_of_trod hf0
  refine (walk_any l0 a0 cap0 W hr0).mono fun e W' ⟨he, hb⟩ => ?_
  subst he
  exact ⟨_, rfl, law_post hW' (by kernel_rfl) rfl rfl rfl hb⟩
theorem proved : Rows.ContextRightSaid :=
  OpenClaim.holds_of_wide 3 Try.f3 rfl rfl rfl rfl rfl rfl rfl ⟨rfl, rfl, rfl, rfl, rfl⟩ rfl rfl rfl rfl rfl (by kernel_rfl) Try.func3 (by kernel_rfl)
    (of_decide_eq_true (by kernel_rfl)) (by unfold Func.isWrapper; first | (rw [if_pos (by decide +kernel)]; kernel_rfl) | (rw [if_neg (by decide +kernel)]; exact ⟨rfl, rfl⟩))
    (fun os started H enc _ => lifted os started H enc)
#print axioms proved
end Go.Proofs.Ytfkkjgebemnhnaa.lawContextRight
