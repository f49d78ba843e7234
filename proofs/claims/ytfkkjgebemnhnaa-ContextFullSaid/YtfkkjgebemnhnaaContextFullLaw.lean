/- ContextFull answers true for every vector. No condition. -/
import Derived.Test.YtfkkjgebemnhnaaCtxSolid
import Derived.Test.YtfkkjgebemnhnaaCtxSame
import Derived.Test.YtfkkjgebemnhnaaCtxVec2
import Derived.Test.YtfkkjgebemnhnaaCtxAwake
import Derived.Test.YtfkkjgebemnhnaaCtxArgs
import Derived.ProofKit
import Derived.OpenShut
namespace Go.Proofs.Ytfkkjgebemnhnaa.lawContextFull
open Go.ChangeShapes Go.WideShapes Go.ChangeAt Go.RowKit Sp Rw Cx
def MayH (x : Nat → Int) (b : Bool) : Prop := b = true ↔ MayV x
def SolH (l : List S3) (z : Bool) : Prop := z = true ↔ RightC l ∧ l = fullV (fun d => vecN l true d)
theorem fullV_part {x : Nat → Int} {d : Nat} (hd : d < 4) : Cx.part (fullV x) d = upTo (x d) := by
  unfold fullV
  rw [pre_four, part_glue _ (by unfold Cen; omega)]
  simp
theorem fullV_right {x : Nat → Int} (h : MayV x) : RightC (fullV x) := by
  unfold fullV
  rw [pre_four]
  exact right_glue fun d hd => upTo_right (h d.toNat (by have := hd.1; have := hd.2; omega))
theorem fullV_vec {x : Nat → Int} (h : MayV x) (d : Nat) (hd : d < 4) : vecN (fullV x) true d = x d := by
  unfold vecN
  rw [fullV_part hd]
  simp only [if_true]
  exact upTo_front (h d hd)
theorem fullV_congr {x y : Nat → Int} (h : ∀ d, d < 4 → x d = y d) : fullV x = fullV y := by
  unfold fullV
  exact (by simp only [pre]; rw [h 0 (by omega), h 1 (by omega), h 2 (by omega), h 3 (by omega)])
theorem full_solid {x : Nat → Int} (h : MayV x) : fullV x = fullV (fun d => vecN (fullV x) true d) := fullV_congr fun d hd => (fullV_vec h d hd).symm
set_option maxRecDepth 100000 in
set_option maxHeartbeats 8000000 in
theorem walk_any (x : Nat → Int) (w : World) :
    Calls Try.prog 10 #[.agg #[.int .i64 (x 0), .int .i64 (x 1), .int .i64 (x 2), .int .i64 (x 3)]] w fun e w' => e = .returned (.bool true) ∧ Below w.heap.size w w' := by
  obtain ⟨g, hg⟩ : ∃ g, g = w.heap.size := ⟨_, rfl⟩
  obtain ⟨W0, hW0⟩ : ∃ W, W = w.alloc (.cells #[.int .i64 (x 0), .int .i64 (x 1), .int .i64 (x 2), .int .i64 (x 3)] 26) := ⟨_, rfl⟩
  have CV : Hid (Cells4 W0 g (fun j => .int .i64 (x j))) := by rw [hW0, hg]; exact boxV w x
  have HB0 : Hid (Below w.heap.size w W0) := by rw [hW0]; exact Dt.box_below _ _ _
  have HG := Lib.hid hg
  have HW0 := Lib.hid hW0
  clear hg hW0
  by_cases hM : MayV x
  · have HM := Lib.hid hM
    obtain ⟨nu, hnu⟩ : ∃ n, n = (fullV x).length := ⟨_, rfl⟩
    have HLu : Hid ((fullV x).length = nu) := hnu.symm
    have hn4 : nu ≤ 4 := by rw [hnu]; exact preV_len x 4 (Nat.le_refl _)
    have HRu : Hid (RightC (fullV x)) := fullV_right hM
    have HVY : Hid (∀ d, d < 4 → x d = vecN (fullV x) true d) := fun d hd => (fullV_vec hM d hd).symm
    have HSO : Hid (SolH (fullV x) true) := ⟨fun _ => ⟨HRu.out, full_solid hM⟩, fun _ => rfl⟩
    have HMT : Hid (MayH x true) := ⟨fun _ => hM, fun _ => rfl⟩
    have ev := fun W => (eqV W x x).trans (show Result.ok (x 0 == x 0 && (x 1 == x 1 && (x 2 == x 2 && x 3 == x 3))) W = Result.ok true W by simp)
    obtain ⟨u, hu⟩ : ∃ u, u = fullV x := ⟨_, rfl⟩
    rw [← hu] at HLu HRu HVY HSO
    have HU := Lib.hid hu.symm
    clear hM hnu hu
    go_enter Try.func10, Try.ntmps10
    go_wp2_with fail
    rw [← HG.out, ← HW0.out]
    refine (Cx.awake_any _).mono ?_
    rintro e w1 ⟨rfl, hb⟩
    have HB1 := Lib.hid (HB0.out.trans (hb.mono HB0.out.size))
    have CV := Lib.hid (CV.out.later hb)
    clear hb
    have k0 := CV.out.cell 0 (by omega)
    have k1 := CV.out.cell 1 (by omega)
    have k2 := CV.out.cell 2 (by omega)
    have k3 := CV.out.cell 3 (by omega)
    go_wp2_with fail
    refine ((fullC_any x w1 HM.out nu (by rw [HU.out]; exact HLu.out))).mono ?_
    rintro e w2 ⟨Au0, cu0, rfl, hru0, hb⟩
    have HB2 := Lib.hid (HB1.out.trans (hb.mono HB1.out.size))
    have CV := Lib.hid (CV.out.later hb)
    clear hb
    rw [HU.out] at hru0
    have Ru0 := Lib.hid hru0
    clear hru0
    clear k0 k1 k2 k3
    have k0 := CV.out.cell 0 (by omega)
    have k1 := CV.out.cell 1 (by omega)
    have k2 := CV.out.cell 2 (by omega)
    have k3 := CV.out.cell 3 (by omega)
    go_wp2_with fail
    refine (refmay_any x w2 true HMT.out).mono ?_
    rintro e w3 ⟨rfl, hb⟩
    have HB3 := Lib.hid (HB2.out.trans (hb.mono HB2.out.size))
    have Ru0 := Lib.hid (Ru0.out.later hb)
    have CV := Lib.hid (CV.out.later hb)
    clear hb
    clear k0 k1 k2 k3
    go_wp2
    have k0 := CV.out.cell 0 (by omega)
    have k1 := CV.out.cell 1 (by omega)
    have k2 := CV.out.cell 2 (by omega)
    have k3 := CV.out.cell 3 (by omega)
    refine wp_region_held_drew (S := fun W => W.cell? ⟨g, 0, none⟩ = some (.int .i64 (x 0)) ∧ W.cell? ⟨g, 1, none⟩ = some (.int .i64 (x 1)) ∧ W.cell? ⟨g, 2, none⟩ = some (.int .i64 (x 2)) ∧ W.cell? ⟨g, 3, none⟩ = some (.int .i64 (x 3))) (by kernel_rfl) (by go_keep) (fun hHeld => ?_)
    obtain ⟨w4, hw4⟩ : ∃ W, W = w3.drew := ⟨_, rfl⟩
    have hbd : Below w3.heap.size w3 w4 := by rw [hw4]; exact (Below.refl _ _).drew
    have HB4 := Lib.hid (HB3.out.trans (hbd.mono HB3.out.size))
    have Ru0 := Lib.hid (Ru0.out.later hbd)
    have CV := Lib.hid (CV.out.later hbd)
    clear hbd
    rw [← hw4] at hHeld ⊢
    clear hw4
    clear k0 k1 k2 k3
    refine wpAnyH_take (i := 0) (oi := ⟨some 22, _, _, _, _, _⟩) (v := ?_) rfl (by kernel_rfl) (by kernel_rfl) (by kernel_rfl) (fun _ _ _ h => h) (Or.inl ⟨by kernel_rfl, ?_⟩) (by assumption) ?_
    rotate_left
    (intro wz hSw; (try dsimp only at hSw); go_simp; try with_reducible rfl)
    try simp only [Act.put, List.setIfInBounds_toArray, List.set_cons_zero, List.set_cons_succ]
    refine wpAnyH_take (i := 1) (oi := ⟨some 23, _, _, _, _, _⟩) (v := ?_) rfl (by kernel_rfl) (by kernel_rfl) (by kernel_rfl) (fun _ _ _ h => h) (Or.inl ⟨by kernel_rfl, ?_⟩) (by assumption) ?_
    rotate_left
    (intro wz hSw; (try dsimp only at hSw); go_simp; try with_reducible rfl)
    try simp only [Act.put, List.setIfInBounds_toArray, List.set_cons_zero, List.set_cons_succ]
    refine wpAnyH_take (i := 2) (oi := ⟨some 24, _, _, _, _, _⟩) (v := ?_) rfl (by kernel_rfl) (by kernel_rfl) (by kernel_rfl) (fun _ _ _ h => h) (Or.inl ⟨by kernel_rfl, ?_⟩) (by assumption) ?_
    rotate_left
    (intro wz hSw; (try dsimp only at hSw); go_simp; try with_reducible rfl)
    try simp only [Act.put, List.setIfInBounds_toArray, List.set_cons_zero, List.set_cons_succ]
    refine wpAnyH_take (i := 3) (oi := ⟨some 25, _, _, _, _, _⟩) (v := ?_) rfl (by kernel_rfl) (by kernel_rfl) (by kernel_rfl) (fun _ _ _ h => h) (Or.inl ⟨by kernel_rfl, ?_⟩) (by assumption) ?_
    rotate_left
    (intro wz hSw; (try dsimp only at hSw); go_simp; try with_reducible rfl)
    try simp only [Act.put, List.setIfInBounds_toArray, List.set_cons_zero, List.set_cons_succ]
    refine wpAnyH_ready (rs := [4]) (by kernel_rfl) (by simp) ?_
    refine AllReadyH.cons (o := ⟨some 26, _, _, _, _, _⟩) rfl (fun K hK => ?_) AllReadyH.nil
    go_simp
    go_at_call 16
    refine (solidC_any u nu Au0 cu0 _ HLu.out (by omega) Ru0.out true HSO.out).mono ?_
    rintro e w5 ⟨rfl, hb⟩
    have HB5 := Lib.hid (HB4.out.trans (hb.mono HB4.out.size))
    have Ru0 := Lib.hid (Ru0.out.later hb)
    have CV := Lib.hid (CV.out.later hb)
    clear hb
    refine hK.out _ _ ?_ (fun hHeld2 => ?_)
    exact ⟨CV.out.cell 0 (by omega), CV.out.cell 1 (by omega), CV.out.cell 2 (by omega), CV.out.cell 3 (by omega)⟩
    clear hK K hHeld
    have hHeld := hHeld2
    clear hHeld2
    try simp only [Act.put, List.setIfInBounds_toArray, List.set_cons_zero, List.set_cons_succ]
    refine wpAnyH_take (i := 5) (oi := ⟨some 27, _, _, _, _, _⟩) (v := ?_) rfl (by kernel_rfl) (by kernel_rfl) (by kernel_rfl) (fun _ _ _ h => h) (Or.inl ⟨by kernel_rfl, ?_⟩) (by assumption) ?_
    rotate_left
    (intro wz hSw; (try dsimp only at hSw); go_simp; try with_reducible rfl)
    try simp only [Act.put, List.setIfInBounds_toArray, List.set_cons_zero, List.set_cons_succ]
    refine wpAnyH_take (i := 6) (oi := ⟨some 28, _, _, _, _, _⟩) (v := ?_) rfl (by kernel_rfl) (by kernel_rfl) (by kernel_rfl) (fun _ _ _ h => h) (Or.inl ⟨by kernel_rfl, ?_⟩) (by assumption) ?_
    rotate_left
    (intro wz hSw; (try dsimp only at hSw); go_simp; try with_reducible rfl)
    try simp only [Act.put, List.setIfInBounds_toArray, List.set_cons_zero, List.set_cons_succ]
    refine wpAnyH_take (i := 7) (oi := ⟨some 29, _, _, _, _, _⟩) (v := ?_) rfl (by kernel_rfl) (by kernel_rfl) (by kernel_rfl) (fun _ _ _ h => h) (Or.inl ⟨by kernel_rfl, ?_⟩) (by assumption) ?_
    rotate_left
    (intro wz hSw; (try dsimp only at hSw); go_simp; try with_reducible rfl)
    try simp only [Act.put, List.setIfInBounds_toArray, List.set_cons_zero, List.set_cons_succ]
    refine wpAnyH_take (i := 9) (oi := ⟨some 31, _, _, _, _, _⟩) (v := ?_) rfl (by kernel_rfl) (by kernel_rfl) (by kernel_rfl) (fun _ _ _ h => h) (Or.inl ⟨by kernel_rfl, ?_⟩) (by assumption) ?_
    rotate_left
    (intro wz hSw; (try dsimp only at hSw); go_simp; try with_reducible rfl)
    try simp only [Act.put, List.setIfInBounds_toArray, List.set_cons_zero, List.set_cons_succ]
    refine wpAnyH_ready (rs := [8]) (by kernel_rfl) (by simp) ?_
    refine AllReadyH.cons (o := ⟨some 30, _, _, _, _, _⟩) rfl (fun K hK => ?_) AllReadyH.nil
    go_simp
    go_at_call 13
    refine (vectorC_any u nu Au0 cu0 _ HLu.out (by omega) Ru0.out true (rightCB_true HRu.out) x HVY.out).mono ?_
    rintro e w6 ⟨rfl, hb⟩
    have HB6 := Lib.hid (HB5.out.trans (hb.mono HB5.out.size))
    have Ru0 := Lib.hid (Ru0.out.later hb)
    have CV := Lib.hid (CV.out.later hb)
    clear hb
    refine hK.out _ _ ?_ (fun hHeld2 => ?_)
    exact ⟨CV.out.cell 0 (by omega), CV.out.cell 1 (by omega), CV.out.cell 2 (by omega), CV.out.cell 3 (by omega)⟩
    clear hK K hHeld
    have hHeld := hHeld2
    clear hHeld2
    try simp only [Act.put, List.setIfInBounds_toArray, List.set_cons_zero, List.set_cons_succ]
    refine wpAnyH_take (i := 10) (oi := ⟨some 32, _, _, _, _, _⟩) (v := ?_) rfl (by kernel_rfl) (by kernel_rfl) (by kernel_rfl) (fun _ _ _ h => h) (Or.inl ⟨by kernel_rfl, ?_⟩) (by assumption) ?_
    rotate_left
    (intro wz hSw; (try dsimp only at hSw); go_simp; try with_reducible rfl)
    try simp only [Act.put, List.setIfInBounds_toArray, List.set_cons_zero, List.set_cons_succ]
    refine wpAnyH_take (i := 11) (oi := ⟨some 33, _, _, _, _, _⟩) (v := ?_) rfl (by kernel_rfl) (by kernel_rfl) (by kernel_rfl) (fun _ _ _ h => h) (Or.inl ⟨by kernel_rfl, ?_⟩) (by assumption) ?_
    rotate_left
    (intro wz hSw; (try dsimp only at hSw); go_simp; try with_reducible rfl)
    try simp only [Act.put, List.setIfInBounds_toArray, List.set_cons_zero, List.set_cons_succ]
    refine wpAnyH_take (i := 12) (oi := ⟨some 34, _, _, _, _, _⟩) (v := ?_) rfl (by kernel_rfl) (by kernel_rfl) (by kernel_rfl) (fun _ _ _ h => h) (Or.inl ⟨by kernel_rfl, ?_⟩) (by assumption) ?_
    rotate_left
    (intro wz hSw; (try dsimp only at hSw); go_simp; try with_reducible rfl)
    try simp only [Act.put, List.setIfInBounds_toArray, List.set_cons_zero, List.set_cons_succ]
    refine wpAnyH_take (i := 13) (oi := ⟨some 35, _, _, _, _, _⟩) (v := ?_) rfl (by kernel_rfl) (by kernel_rfl) (by kernel_rfl) (fun _ _ _ h => h) (Or.inl ⟨by kernel_rfl, ?_⟩) (by assumption) ?_
    rotate_left
    (intro wz hSw; (try dsimp only at hSw); go_simp; try with_reducible rfl)
    try simp only [Act.put, List.setIfInBounds_toArray, List.set_cons_zero, List.set_cons_succ]
    refine wpAnyH_take (i := 14) (oi := ⟨some 36, _, _, _, _, _⟩) (v := ?_) rfl (by kernel_rfl) (by kernel_rfl) (by kernel_rfl) (fun _ _ _ h => h) (Or.inl ⟨by kernel_rfl, ?_⟩) (by assumption) ?_
    rotate_left
    (intro wz hSw; (try dsimp only at hSw); go_simp; try with_reducible rfl)
    try simp only [Act.put, List.setIfInBounds_toArray, List.set_cons_zero, List.set_cons_succ]
    refine wpAnyH_ready (rs := [15]) (by kernel_rfl) (by simp) ?_
    refine AllReadyH.cons (o := ⟨some 37, _, _, _, _, _⟩) rfl (fun K hK => ?_) AllReadyH.nil
    go_simp
    go_at_call 22
    refine (reffull_any x _ nu (by rw [HU.out]; exact HLu.out)).mono ?_
    rintro e w7 ⟨Aq, cq, rfl, hrq, hb⟩
    have HB7 := Lib.hid (HB6.out.trans (hb.mono HB6.out.size))
    have Ru0 := Lib.hid (Ru0.out.later hb)
    have CV := Lib.hid (CV.out.later hb)
    clear hb
    have Rq := Lib.hid hrq
    rw [HU.out] at Rq
    clear hrq
    refine hK.out _ _ ?_ (fun hHeld2 => ?_)
    exact ⟨CV.out.cell 0 (by omega), CV.out.cell 1 (by omega), CV.out.cell 2 (by omega), CV.out.cell 3 (by omega)⟩
    clear hK K hHeld
    have hHeld := hHeld2
    clear hHeld2
    try simp only [Act.put, List.setIfInBounds_toArray, List.set_cons_zero, List.set_cons_succ]
    refine wpAnyH_ready (rs := [16]) (by kernel_rfl) (by simp) ?_
    refine AllReadyH.cons (o := ⟨some 38, _, _, _, _, _⟩) rfl (fun K hK => ?_) AllReadyH.nil
    go_simp
    go_at_call 21
    refine (refsameC_any u u nu nu Au0 Aq cu0 cq _ HLu.out HLu.out (by omega) Ru0.out Rq.out true (by simp)).mono ?_
    rintro e w8 ⟨rfl, hb⟩
    have HB8 := Lib.hid (HB7.out.trans (hb.mono HB7.out.size))
    have Ru0 := Lib.hid (Ru0.out.later hb)
    have Rq := Lib.hid (Rq.out.later hb)
    have CV := Lib.hid (CV.out.later hb)
    clear hb
    refine hK.out _ _ ?_ (fun hHeld2 => ?_)
    exact ⟨CV.out.cell 0 (by omega), CV.out.cell 1 (by omega), CV.out.cell 2 (by omega), CV.out.cell 3 (by omega)⟩
    clear hK K hHeld
    have hHeld := hHeld2
    clear hHeld2
    try simp only [Act.put, List.setIfInBounds_toArray, List.set_cons_zero, List.set_cons_succ]
    refine wpAnyH_take (i := 17) (oi := ⟨some 39, _, _, _, _, _⟩) (v := ?_) rfl (by kernel_rfl) (by kernel_rfl) (by kernel_rfl) (fun _ _ _ h => h) (Or.inl ⟨by kernel_rfl, ?_⟩) (by assumption) ?_
    rotate_left
    (intro wz hSw; (try dsimp only at hSw); go_simp; try with_reducible rfl)
    try simp only [Act.put, List.setIfInBounds_toArray, List.set_cons_zero, List.set_cons_succ]
    refine wpAnyH_take (i := 18) (oi := ⟨some 2, _, _, _, _, _⟩) (v := ?_) rfl (by kernel_rfl) (by kernel_rfl) (by kernel_rfl) (fun _ _ _ h => h) (Or.inl ⟨by kernel_rfl, ?_⟩) (by assumption) ?_
    rotate_left
    (intro wz hSw; (try dsimp only at hSw); go_simp; try with_reducible rfl)
    try simp only [Act.put, List.setIfInBounds_toArray, List.set_cons_zero, List.set_cons_succ]
    refine wpAnyH_done (by kernel_rfl) ?_ _
    go_wp2
    go_ret
    exact ⟨rfl, HB8.out⟩
  · have HM := Lib.hid hM
    have HMF : Hid (MayH x false) := ⟨fun h => Bool.noConfusion h, fun h => absurd h hM⟩
    clear hM
    go_enter Try.func10, Try.ntmps10
    go_wp2_with fail
    rw [← HG.out, ← HW0.out]
    refine (Cx.awake_any _).mono ?_
    rintro e w1 ⟨rfl, hb⟩
    have HB1 := Lib.hid (HB0.out.trans (hb.mono HB0.out.size))
    have CV := Lib.hid (CV.out.later hb)
    clear hb
    have k0 := CV.out.cell 0 (by omega)
    have k1 := CV.out.cell 1 (by omega)
    have k2 := CV.out.cell 2 (by omega)
    have k3 := CV.out.cell 3 (by omega)
    go_wp2_with fail
    refine (fullC_bad x w1 HM.out).mono ?_
    rintro e w2 ⟨rfl, hb⟩
    have HB2 := Lib.hid (HB1.out.trans (hb.mono HB1.out.size))
    have CV := Lib.hid (CV.out.later hb)
    clear hb
    clear k0 k1 k2 k3
    have k0 := CV.out.cell 0 (by omega)
    have k1 := CV.out.cell 1 (by omega)
    have k2 := CV.out.cell 2 (by omega)
    have k3 := CV.out.cell 3 (by omega)
    go_wp2_with fail
    refine (refmay_any x w2 false HMF.out).mono ?_
    rintro e w3 ⟨rfl, hb⟩
    have HB3 := Lib.hid (HB2.out.trans (hb.mono HB2.out.size))
    have CV := Lib.hid (CV.out.later hb)
    clear hb
    clear k0 k1 k2 k3
    go_wp2
    go_ret
    exact ⟨rfl, HB3.out⟩
set_option maxRecDepth 100000 in
theorem lifted (os : Os) (started : os.Started) (H : Type) (enc : TypeId × Value → H) :
    ReturnsInHanded {} Try.checked os 10 .any (Rows.contextFullSpec.pre6 enc Try.prog Try.f10 Rows.contextFullRow.domain false) (Rows.contextFullSpec.post enc Try.prog Try.f10 false true false false) := by
  refine returnsInHanded_of_change (C := Try.checked) own started (by kernel_rfl) Try.func10
    (ChangeSpec.witness6 (enc := enc) (C := Try.checked) false ⟨#[], #[.agg #[.int .i64 0, .int .i64 0, .int .i64 0, .int .i64 0]], []⟩ 8 (by kernel_rfl) (by kernel_rfl) (by kernel_rfl) (by kernel_rfl)) ?_
  intro W base args ds gs before hval0 hW _ _
  have hval : ∀ (j : Nat) t v, Try.f10.params[j]? = some t → args[j]? = some v → Value.okWide Try.prog W .any base t v := hval0
  have hW' := hW
  obtain ⟨p, q, hA0, hV, rfl, hfz, hnd⟩ := hW
  have hA : DataW.TrodAll enc Try.prog W 0 (fun _ => true) true Try.f10.params.toList args.toList ds p := hA0
  rw [Try.params10] at hA hval
  obtain ⟨v0, d0, rfl, rfl, h0⟩ := trodAll_one hA
  obtain ⟨rfl, rfl⟩ := trodVars_none hV
  obtain ⟨x0, rfl⟩ := Cx.vec_of_trod (hval 0 26 v0 rfl rfl) h0
  refine (walk_any x0 W ).mono fun e W' ⟨he, hb⟩ => ?_
  subst he
  exact ⟨_, rfl, law_post hW' (by kernel_rfl) rfl rfl rfl hb⟩
theorem proved : Rows.ContextFullSaid :=
  OpenClaim.holds_of_wide 10 Try.f10 rfl rfl rfl rfl rfl rfl rfl ⟨rfl, rfl, rfl, rfl, rfl⟩ rfl rfl rfl rfl rfl (by kernel_rfl) Try.func10 (by kernel_rfl)
    (of_decide_eq_true (by kernel_rfl)) (by unfold Func.isWrapper; first | (rw [if_pos (by decide +kernel)]; kernel_rfl) | (rw [if_neg (by decide +kernel)]; exact ⟨rfl, rfl⟩))
    (fun os started H enc _ => lifted os started H enc)
#print axioms proved
end Go.Proofs.Ytfkkjgebemnhnaa.lawContextFull
