/- TreeRight answers true for every tree. No condition. -/
import Derived.Test.YtbfcbfadfnaebaaTreeLaw
import Derived.Test.YtbfcbfadfnaebaaTreeRefRight
import Derived.Test.YtbfcbfadfnaebaaTreeLeaves
namespace Go.Proofs.Ytbfcbfadfnaebaa.lawTreeRight
open Go.ChangeShapes Go.WideShapes Go.ChangeAt Go.RowKit Sp Rw Tr
set_option maxRecDepth 100000 in
set_option maxHeartbeats 4000000 in
theorem walk_any (t : T) (Aet Akt : Option Addr) (net nkt cet ckt : Nat) (w : World) (hrt : RdT w w.heap.size t ⟨Aet, net, cet⟩ ⟨Akt, nkt, ckt⟩) (hlt : LenT reachBytes t) :
    Calls Try.prog 3 #[.agg #[.slice Aet net cet, .slice Akt nkt ckt]] w fun e w' => e = .returned (.bool true) ∧ Below w.heap.size w w' := by
  have HKc : Hid (Kept [] w w) := Kept.nil w
  have Rt := Lib.hid hrt
  have HLt := Lib.hid hlt
  clear hrt hlt
  obtain ⟨g0, hg0⟩ : ∃ z, z = w.heap.size := ⟨_, rfl⟩
  obtain ⟨B0, hB0⟩ : ∃ W, W = w.alloc (.cells #[.slice Aet net cet, .slice Akt nkt ckt] 25) := ⟨_, rfl⟩
  have hb : Below w.heap.size w B0 := by rw [hB0]; exact Dt.box_below _ _ _
  have e0 : B0.cell? ⟨g0, 0, none⟩ = some (.slice Aet net cet) := by rw [hB0, hg0]; go_simp
  have e1 : B0.cell? ⟨g0, 1, none⟩ = some (.slice Akt nkt ckt) := by rw [hB0, hg0]; go_simp
  have Rt := Lib.hid (RdT.later Rt.out hb)
  have HKc := Lib.hid (((HKc.out.later hb).cons_of e1).cons_of e0)
  have HB0 := Lib.hid hB0
  have Hg0 := Lib.hid hg0
  clear hb e0 e1 hB0 hg0
  have s0 := HKc.out.c0
  have s1 := HKc.out.c1
  go_enter Try.func3, Try.ntmps3
  go_wp2_with fail
  rw [← Hg0.out, ← HB0.out]
  refine (awake_any B0).mono ?_
  rintro e u1 ⟨rfl, hb⟩
  clear s0 s1
  have Rt := Lib.hid (RdT.later Rt.out hb)
  have HKc := Lib.hid (HKc.out.later hb)
  clear hb
  have s0 := HKc.out.c0
  have s1 := HKc.out.c1
  go_wp2_with fail
  refine (small_to t Aet Akt net nkt cet ckt 300 300 rfl u1 (by omega) HLt.out Rt.out).mono ?_
  rintro e u2 ⟨sbt, rfl, hsmt, hb⟩
  clear s0 s1
  have Rt := Lib.hid (RdT.later Rt.out hb)
  have HKc := Lib.hid (HKc.out.later hb)
  clear hb
  have s0 := HKc.out.c0
  have s1 := HKc.out.c1
  cases sbt with
  | false =>
    go_wp2_with fail
    refine (awake_any _).mono ?_
    rintro e u3 ⟨rfl, hb⟩
    clear s0 s1
    have Rt := Lib.hid (RdT.later Rt.out hb)
    have HKc := Lib.hid (HKc.out.later hb)
    clear hb
    have s0 := HKc.out.c0
    have s1 := HKc.out.c1
    go_wp2_with fail
    go_ret
    exact ⟨rfl, HKc.out.below⟩
  | true =>
    have HN := Lib.hid (hsmt rfl)
    clear hsmt
    obtain ⟨z0, hz0⟩ : ∃ z, decide (net = 0) = z := ⟨_, rfl⟩
    obtain ⟨z1, hz1⟩ : ∃ z, decide (nkt = 0) = z := ⟨_, rfl⟩
    have f0 : ((net : Int) == 0) = z0 := by
      rw [← hz0]
      by_cases h : net = 0
      · rw [decide_eq_true h, h]; rfl
      · rw [decide_eq_false h, beq_eq_false_iff_ne]; omega
    have f1 : ((nkt : Int) == 0) = z1 := by
      rw [← hz1]
      by_cases h : nkt = 0
      · rw [decide_eq_true h, h]; rfl
      · rw [decide_eq_false h, beq_eq_false_iff_ne]; omega
    have hzz : decide (net = 0 ∧ nkt = 0) = (z0 && z1) := by
      rw [← hz0, ← hz1]
      by_cases h : net = 0 <;> by_cases h2 : nkt = 0 <;> simp [h, h2]
    have HZZ := Lib.hid hzz
    obtain ⟨z, hz⟩ : ∃ z, rightB 5 t = z := ⟨_, rfl⟩
    have HZ := Lib.hid hz
    clear hz0 hz1 hzz hz
    cases z0 with
    | false =>
      go_wp2_with fail
      have Rt := Lib.hid (RdT.later Rt.out (Below.refl _ u2).drew)
      have HKc := Lib.hid HKc.out.drew
      refine wp_region_held_drew (S := fun W => W.cell? ⟨g0, 0, none⟩ = some (.slice Aet net cet) ∧ W.cell? ⟨g0, 1, none⟩ = some (.slice Akt nkt ckt)) (by kernel_rfl) (by go_keep) (fun hHeld => ?_)
      refine wpAnyH_take (i := 0) (oi := ⟨some 11, _, _, _, _, _⟩) (v := ?_) rfl (by kernel_rfl) (by kernel_rfl) (by kernel_rfl) (fun _ _ _ h => h) (Or.inl ⟨by kernel_rfl, ?_⟩) (by assumption) ?_
      rotate_left
      (intro wz hSw; (try dsimp only at hSw); go_simp; try with_reducible rfl)
      try simp only [Act.put, List.setIfInBounds_toArray, List.set_cons_zero, List.set_cons_succ]
      refine wpAnyH_take (i := 2) (oi := ⟨some 13, _, _, _, _, _⟩) (v := ?_) rfl (by kernel_rfl) (by kernel_rfl) (by kernel_rfl) (fun _ _ _ h => h) (Or.inl ⟨by kernel_rfl, ?_⟩) (by assumption) ?_
      rotate_left
      (intro wz hSw; (try dsimp only at hSw); go_simp; try with_reducible rfl)
      try simp only [Act.put, List.setIfInBounds_toArray, List.set_cons_zero, List.set_cons_succ]
      refine wpAnyH_take (i := 3) (oi := ⟨some 14, _, _, _, _, _⟩) (v := ?_) rfl (by kernel_rfl) (by kernel_rfl) (by kernel_rfl) (fun _ _ _ h => h) (Or.inl ⟨by kernel_rfl, ?_⟩) (by assumption) ?_
      rotate_left
      (intro wz hSw; (try dsimp only at hSw); go_simp; try with_reducible rfl)
      try simp only [Act.put, List.setIfInBounds_toArray, List.set_cons_zero, List.set_cons_succ]
      refine wpAnyH_take (i := 4) (oi := ⟨some 15, _, _, _, _, _⟩) (v := ?_) rfl (by kernel_rfl) (by kernel_rfl) (by kernel_rfl) (fun _ _ _ h => h) (Or.inl ⟨by kernel_rfl, ?_⟩) (by assumption) ?_
      rotate_left
      (intro wz hSw; (try dsimp only at hSw); go_simp; try with_reducible rfl)
      try simp only [Act.put, List.setIfInBounds_toArray, List.set_cons_zero, List.set_cons_succ]
      refine wpAnyH_take (i := 5) (oi := ⟨some 16, _, _, _, _, _⟩) (v := ?_) rfl (by kernel_rfl) (by kernel_rfl) (by kernel_rfl) (fun _ _ _ h => h) (Or.inl ⟨by kernel_rfl, ?_⟩) (by assumption) ?_
      rotate_left
      (intro wz hSw; (try dsimp only at hSw); go_simp; try with_reducible rfl)
      try simp only [Act.put, List.setIfInBounds_toArray, List.set_cons_zero, List.set_cons_succ]
      refine wpAnyH_ready (rs := [1]) (by kernel_rfl) (by simp) ?_
      refine AllReadyH.cons (o := ⟨some 12, _, _, _, _, _⟩) rfl (fun K hK => ?_) AllReadyH.nil
      go_simp
      (go_at_call 13; refine (empty_any Aet Akt net nkt cet ckt _).mono ?_)
      rw [HZZ.out]
      rintro e x1 ⟨rfl, hb⟩
      have Rt := Lib.hid (RdT.later Rt.out hb)
      have HKc := Lib.hid (HKc.out.later hb)
      clear hb
      refine hK.out _ _ ?_ (fun hHeld2 => ?_)
      · exact ⟨HKc.out.c0, HKc.out.c1⟩
      clear hK K hHeld
      have hHeld := hHeld2
      clear hHeld2
      try simp only [Act.put, List.setIfInBounds_toArray, List.set_cons_zero, List.set_cons_succ]
      refine wpAnyH_take (i := 6) (oi := ⟨some 17, _, _, _, _, _⟩) (v := ?_) rfl (by kernel_rfl) (by kernel_rfl) (by kernel_rfl) (fun _ _ _ h => h) (Or.inl ⟨by kernel_rfl, ?_⟩) (by assumption) ?_
      rotate_left
      (intro wz hSw; (try dsimp only at hSw); go_simp; try with_reducible rfl)
      try simp only [Act.put, List.setIfInBounds_toArray, List.set_cons_zero, List.set_cons_succ]
      refine wpAnyH_take (i := 7) (oi := ⟨some 18, _, _, _, _, _⟩) (v := undef) rfl (by kernel_rfl) (by kernel_rfl) (by kernel_rfl) (fun _ _ _ h => h) (Or.inr ⟨by kernel_rfl, rfl⟩) (by assumption) ?_
      try simp only [Act.put, List.setIfInBounds_toArray, List.set_cons_zero, List.set_cons_succ]
      refine wpAnyH_take (i := 8) (oi := ⟨some 19, _, _, _, _, _⟩) (v := undef) rfl (by kernel_rfl) (by kernel_rfl) (by kernel_rfl) (fun _ _ _ h => h) (Or.inr ⟨by kernel_rfl, rfl⟩) (by assumption) ?_
      try simp only [Act.put, List.setIfInBounds_toArray, List.set_cons_zero, List.set_cons_succ]
      refine wpAnyH_take (i := 9) (oi := ⟨some 20, _, _, _, _, _⟩) (v := undef) rfl (by kernel_rfl) (by kernel_rfl) (by kernel_rfl) (fun _ _ _ h => h) (Or.inr ⟨by kernel_rfl, rfl⟩) (by assumption) ?_
      try simp only [Act.put, List.setIfInBounds_toArray, List.set_cons_zero, List.set_cons_succ]
      refine wpAnyH_take (i := 10) (oi := ⟨some 21, _, _, _, _, _⟩) (v := undef) rfl (by kernel_rfl) (by kernel_rfl) (by kernel_rfl) (fun _ _ _ h => h) (Or.inr ⟨by kernel_rfl, rfl⟩) (by assumption) ?_
      try simp only [Act.put, List.setIfInBounds_toArray, List.set_cons_zero, List.set_cons_succ]
      refine wpAnyH_take (i := 11) (oi := ⟨some 22, _, _, _, _, _⟩) (v := ?_) rfl (by kernel_rfl) (by kernel_rfl) (by kernel_rfl) (fun _ _ _ h => h) (Or.inl ⟨by kernel_rfl, ?_⟩) (by assumption) ?_
      rotate_left
      (intro wz hSw; (try dsimp only at hSw); go_simp; try with_reducible rfl)
      try simp only [Act.put, List.setIfInBounds_toArray, List.set_cons_zero, List.set_cons_succ]
      refine wpAnyH_take (i := 12) (oi := ⟨some 23, _, _, _, _, _⟩) (v := ?_) rfl (by kernel_rfl) (by kernel_rfl) (by kernel_rfl) (fun _ _ _ h => h) (Or.inl ⟨by kernel_rfl, ?_⟩) (by assumption) ?_
      rotate_left
      (intro wz hSw; (try dsimp only at hSw); go_simp; try with_reducible rfl)
      try simp only [Act.put, List.setIfInBounds_toArray, List.set_cons_zero, List.set_cons_succ]
      refine wpAnyH_done (by kernel_rfl) ?_ _
      clear s0 s1 hHeld
      have s0 := HKc.out.c0
      have s1 := HKc.out.c1
      go_wp2_with fail
      refine (refrightT_any t Aet Akt net nkt cet ckt x1 HLt.out Rt.out).mono ?_
      rw [HZ.out]
      rintro e u21 ⟨rfl, hb⟩
      clear s0 s1
      have Rt := Lib.hid (RdT.later Rt.out hb)
      have HKc := Lib.hid (HKc.out.later hb)
      clear hb
      have s0 := HKc.out.c0
      have s1 := HKc.out.c1
      cases z with
      | false =>
        go_wp2_with fail
        refine (rightT_any t Aet Akt net nkt cet ckt u21 HLt.out Rt.out).mono ?_
        rw [HZ.out]
        rintro e u22 ⟨rfl, hb⟩
        clear s0 s1
        have Rt := Lib.hid (RdT.later Rt.out hb)
        have HKc := Lib.hid (HKc.out.later hb)
        clear hb
        have s0 := HKc.out.c0
        have s1 := HKc.out.c1
        go_wp2_with fail
        refine (sizeT_any t Aet Akt net nkt cet ckt u22 HLt.out (by have := HN.out; omega) Rt.out).mono ?_
        rw [HZ.out, if_neg (by simp)]
        rintro e u23 ⟨rfl, hb⟩
        clear s0 s1
        have Rt := Lib.hid (RdT.later Rt.out hb)
        have HKc := Lib.hid (HKc.out.later hb)
        clear hb
        have s0 := HKc.out.c0
        have s1 := HKc.out.c1
        go_wp2_with fail
        go_ret
        exact ⟨rfl, HKc.out.below⟩
      | true =>
        go_wp2_with fail
        have Rt := Lib.hid (RdT.later Rt.out (Below.refl _ u21).drew)
        have HKc := Lib.hid HKc.out.drew
        refine wp_region_held_drew (S := fun W => W.cell? ⟨g0, 0, none⟩ = some (.slice Aet net cet) ∧ W.cell? ⟨g0, 1, none⟩ = some (.slice Akt nkt ckt)) (by kernel_rfl) (by go_keep) (fun hHeld => ?_)
        refine wpAnyH_take (i := 0) (oi := ⟨some 35, _, _, _, _, _⟩) (v := ?_) rfl (by kernel_rfl) (by kernel_rfl) (by kernel_rfl) (fun _ _ _ h => h) (Or.inl ⟨by kernel_rfl, ?_⟩) (by assumption) ?_
        rotate_left
        (intro wz hSw; (try dsimp only at hSw); go_simp; try with_reducible rfl)
        try simp only [Act.put, List.setIfInBounds_toArray, List.set_cons_zero, List.set_cons_succ]
        refine wpAnyH_ready (rs := [1]) (by kernel_rfl) (by simp) ?_
        refine AllReadyH.cons (o := ⟨some 36, _, _, _, _, _⟩) rfl (fun K hK => ?_) AllReadyH.nil
        go_simp
        (go_at_call 15; refine (rightT_any t Aet Akt net nkt cet ckt _ HLt.out Rt.out).mono ?_)
        rw [HZ.out]
        rintro e y1 ⟨rfl, hb⟩
        have Rt := Lib.hid (RdT.later Rt.out hb)
        have HKc := Lib.hid (HKc.out.later hb)
        clear hb
        refine hK.out _ _ ?_ (fun hHeld2 => ?_)
        · exact ⟨HKc.out.c0, HKc.out.c1⟩
        clear hK K hHeld
        have hHeld := hHeld2
        clear hHeld2
        try simp only [Act.put, List.setIfInBounds_toArray, List.set_cons_zero, List.set_cons_succ]
        refine wpAnyH_take (i := 2) (oi := ⟨some 37, _, _, _, _, _⟩) (v := ?_) rfl (by kernel_rfl) (by kernel_rfl) (by kernel_rfl) (fun _ _ _ h => h) (Or.inl ⟨by kernel_rfl, ?_⟩) (by assumption) ?_
        rotate_left
        (intro wz hSw; (try dsimp only at hSw); go_simp; try with_reducible rfl)
        try simp only [Act.put, List.setIfInBounds_toArray, List.set_cons_zero, List.set_cons_succ]
        refine wpAnyH_take (i := 3) (oi := ⟨some 38, _, _, _, _, _⟩) (v := ?_) rfl (by kernel_rfl) (by kernel_rfl) (by kernel_rfl) (fun _ _ _ h => h) (Or.inl ⟨by kernel_rfl, ?_⟩) (by assumption) ?_
        rotate_left
        (intro wz hSw; (try dsimp only at hSw); go_simp; try with_reducible rfl)
        try simp only [Act.put, List.setIfInBounds_toArray, List.set_cons_zero, List.set_cons_succ]
        refine wpAnyH_take (i := 5) (oi := ⟨some 40, _, _, _, _, _⟩) (v := ?_) rfl (by kernel_rfl) (by kernel_rfl) (by kernel_rfl) (fun _ _ _ h => h) (Or.inl ⟨by kernel_rfl, ?_⟩) (by assumption) ?_
        rotate_left
        (intro wz hSw; (try dsimp only at hSw); go_simp; try with_reducible rfl)
        try simp only [Act.put, List.setIfInBounds_toArray, List.set_cons_zero, List.set_cons_succ]
        refine wpAnyH_ready (rs := [4]) (by kernel_rfl) (by simp) ?_
        refine AllReadyH.cons (o := ⟨some 39, _, _, _, _, _⟩) rfl (fun K hK => ?_) AllReadyH.nil
        go_simp
        (go_at_call 16; refine (sizeT_any t Aet Akt net nkt cet ckt _ HLt.out (by have := HN.out; omega) Rt.out).mono ?_)
        rw [HZ.out, if_pos rfl]
        rintro e y2 ⟨rfl, hb⟩
        have Rt := Lib.hid (RdT.later Rt.out hb)
        have HKc := Lib.hid (HKc.out.later hb)
        clear hb
        refine hK.out _ _ ?_ (fun hHeld2 => ?_)
        · exact ⟨HKc.out.c0, HKc.out.c1⟩
        clear hK K hHeld
        have hHeld := hHeld2
        clear hHeld2
        try simp only [Act.put, List.setIfInBounds_toArray, List.set_cons_zero, List.set_cons_succ]
        refine wpAnyH_ready (rs := [6]) (by kernel_rfl) (by simp) ?_
        refine AllReadyH.cons (o := ⟨some 41, _, _, _, _, _⟩) rfl (fun K hK => ?_) AllReadyH.nil
        go_simp
        (go_at_call 17; refine (leaves_any t Aet Akt net nkt cet ckt _ (by have := HN.out; omega) Rt.out).mono ?_)
        rintro e y3 ⟨Al, cl, rfl, _, hb⟩
        have Rt := Lib.hid (RdT.later Rt.out hb)
        have HKc := Lib.hid (HKc.out.later hb)
        clear hb
        refine hK.out _ _ ?_ (fun hHeld2 => ?_)
        · exact ⟨HKc.out.c0, HKc.out.c1⟩
        clear hK K hHeld
        have hHeld := hHeld2
        clear hHeld2
        try simp only [Act.put, List.setIfInBounds_toArray, List.set_cons_zero, List.set_cons_succ]
        refine wpAnyH_take (i := 7) (oi := ⟨some 42, _, _, _, _, _⟩) (v := ?_) rfl (by kernel_rfl) (by kernel_rfl) (by kernel_rfl) (fun _ _ _ h => h) (Or.inl ⟨by kernel_rfl, ?_⟩) (by assumption) ?_
        rotate_left
        (intro wz hSw; (try dsimp only at hSw); go_simp; try with_reducible rfl)
        try simp only [Act.put, List.setIfInBounds_toArray, List.set_cons_zero, List.set_cons_succ]
        refine wpAnyH_take (i := 8) (oi := ⟨some 43, _, _, _, _, _⟩) (v := ?_) rfl (by kernel_rfl) (by kernel_rfl) (by kernel_rfl) (fun _ _ _ h => h) (Or.inl ⟨by kernel_rfl, ?_⟩) (by assumption) ?_
        rotate_left
        (intro wz hSw; (try dsimp only at hSw); go_simp; try with_reducible rfl)
        try simp only [Act.put, List.setIfInBounds_toArray, List.set_cons_zero, List.set_cons_succ]
        refine wpAnyH_take (i := 9) (oi := ⟨some 44, _, _, _, _, _⟩) (v := ?_) rfl (by kernel_rfl) (by kernel_rfl) (by kernel_rfl) (fun _ _ _ h => h) (Or.inl ⟨by kernel_rfl, ?_⟩) (by assumption) ?_
        rotate_left
        (intro wz hSw; (try dsimp only at hSw); go_simp; try with_reducible rfl)
        try simp only [Act.put, List.setIfInBounds_toArray, List.set_cons_zero, List.set_cons_succ]
        refine wpAnyH_take (i := 10) (oi := ⟨some 2, _, _, _, _, _⟩) (v := ?_) rfl (by kernel_rfl) (by kernel_rfl) (by kernel_rfl) (fun _ _ _ h => h) (Or.inl ⟨by kernel_rfl, ?_⟩) (by assumption) ?_
        rotate_left
        (intro wz hSw; (try dsimp only at hSw); go_simp; try with_reducible rfl)
        try simp only [Act.put, List.setIfInBounds_toArray, List.set_cons_zero, List.set_cons_succ]
        refine wpAnyH_done (by kernel_rfl) ?_ _
        go_wp2_with fail
        go_ret
        exact ⟨rfl, HKc.out.below⟩
    | true =>
      cases z1 with
      | false =>
        go_wp2_with fail
        have Rt := Lib.hid (RdT.later Rt.out (Below.refl _ u2).drew)
        have HKc := Lib.hid HKc.out.drew
        refine wp_region_held_drew (S := fun W => W.cell? ⟨g0, 0, none⟩ = some (.slice Aet net cet) ∧ W.cell? ⟨g0, 1, none⟩ = some (.slice Akt nkt ckt)) (by kernel_rfl) (by go_keep) (fun hHeld => ?_)
        refine wpAnyH_take (i := 0) (oi := ⟨some 11, _, _, _, _, _⟩) (v := ?_) rfl (by kernel_rfl) (by kernel_rfl) (by kernel_rfl) (fun _ _ _ h => h) (Or.inl ⟨by kernel_rfl, ?_⟩) (by assumption) ?_
        rotate_left
        (intro wz hSw; (try dsimp only at hSw); go_simp; try with_reducible rfl)
        try simp only [Act.put, List.setIfInBounds_toArray, List.set_cons_zero, List.set_cons_succ]
        refine wpAnyH_take (i := 2) (oi := ⟨some 13, _, _, _, _, _⟩) (v := ?_) rfl (by kernel_rfl) (by kernel_rfl) (by kernel_rfl) (fun _ _ _ h => h) (Or.inl ⟨by kernel_rfl, ?_⟩) (by assumption) ?_
        rotate_left
        (intro wz hSw; (try dsimp only at hSw); go_simp; try with_reducible rfl)
        try simp only [Act.put, List.setIfInBounds_toArray, List.set_cons_zero, List.set_cons_succ]
        refine wpAnyH_take (i := 3) (oi := ⟨some 14, _, _, _, _, _⟩) (v := ?_) rfl (by kernel_rfl) (by kernel_rfl) (by kernel_rfl) (fun _ _ _ h => h) (Or.inl ⟨by kernel_rfl, ?_⟩) (by assumption) ?_
        rotate_left
        (intro wz hSw; (try dsimp only at hSw); go_simp; try with_reducible rfl)
        try simp only [Act.put, List.setIfInBounds_toArray, List.set_cons_zero, List.set_cons_succ]
        refine wpAnyH_take (i := 4) (oi := ⟨some 15, _, _, _, _, _⟩) (v := ?_) rfl (by kernel_rfl) (by kernel_rfl) (by kernel_rfl) (fun _ _ _ h => h) (Or.inl ⟨by kernel_rfl, ?_⟩) (by assumption) ?_
        rotate_left
        (intro wz hSw; (try dsimp only at hSw); go_simp; try with_reducible rfl)
        try simp only [Act.put, List.setIfInBounds_toArray, List.set_cons_zero, List.set_cons_succ]
        refine wpAnyH_take (i := 5) (oi := ⟨some 16, _, _, _, _, _⟩) (v := ?_) rfl (by kernel_rfl) (by kernel_rfl) (by kernel_rfl) (fun _ _ _ h => h) (Or.inl ⟨by kernel_rfl, ?_⟩) (by assumption) ?_
        rotate_left
        (intro wz hSw; (try dsimp only at hSw); go_simp; try with_reducible rfl)
        try simp only [Act.put, List.setIfInBounds_toArray, List.set_cons_zero, List.set_cons_succ]
        refine wpAnyH_ready (rs := [1]) (by kernel_rfl) (by simp) ?_
        refine AllReadyH.cons (o := ⟨some 12, _, _, _, _, _⟩) rfl (fun K hK => ?_) AllReadyH.nil
        go_simp
        (go_at_call 13; refine (empty_any Aet Akt net nkt cet ckt _).mono ?_)
        rw [HZZ.out]
        rintro e x1 ⟨rfl, hb⟩
        have Rt := Lib.hid (RdT.later Rt.out hb)
        have HKc := Lib.hid (HKc.out.later hb)
        clear hb
        refine hK.out _ _ ?_ (fun hHeld2 => ?_)
        · exact ⟨HKc.out.c0, HKc.out.c1⟩
        clear hK K hHeld
        have hHeld := hHeld2
        clear hHeld2
        try simp only [Act.put, List.setIfInBounds_toArray, List.set_cons_zero, List.set_cons_succ]
        refine wpAnyH_take (i := 6) (oi := ⟨some 17, _, _, _, _, _⟩) (v := ?_) rfl (by kernel_rfl) (by kernel_rfl) (by kernel_rfl) (fun _ _ _ h => h) (Or.inl ⟨by kernel_rfl, ?_⟩) (by assumption) ?_
        rotate_left
        (intro wz hSw; (try dsimp only at hSw); go_simp; try with_reducible rfl)
        try simp only [Act.put, List.setIfInBounds_toArray, List.set_cons_zero, List.set_cons_succ]
        refine wpAnyH_take (i := 7) (oi := ⟨some 18, _, _, _, _, _⟩) (v := ?_) rfl (by kernel_rfl) (by kernel_rfl) (by kernel_rfl) (fun _ _ _ h => h) (Or.inl ⟨by kernel_rfl, ?_⟩) (by assumption) ?_
        rotate_left
        (intro wz hSw; (try dsimp only at hSw); go_simp; try with_reducible rfl)
        try simp only [Act.put, List.setIfInBounds_toArray, List.set_cons_zero, List.set_cons_succ]
        refine wpAnyH_take (i := 8) (oi := ⟨some 19, _, _, _, _, _⟩) (v := ?_) rfl (by kernel_rfl) (by kernel_rfl) (by kernel_rfl) (fun _ _ _ h => h) (Or.inl ⟨by kernel_rfl, ?_⟩) (by assumption) ?_
        rotate_left
        (intro wz hSw; (try dsimp only at hSw); go_simp; try with_reducible rfl)
        try simp only [Act.put, List.setIfInBounds_toArray, List.set_cons_zero, List.set_cons_succ]
        refine wpAnyH_take (i := 9) (oi := ⟨some 20, _, _, _, _, _⟩) (v := ?_) rfl (by kernel_rfl) (by kernel_rfl) (by kernel_rfl) (fun _ _ _ h => h) (Or.inl ⟨by kernel_rfl, ?_⟩) (by assumption) ?_
        rotate_left
        (intro wz hSw; (try dsimp only at hSw); go_simp; try with_reducible rfl)
        try simp only [Act.put, List.setIfInBounds_toArray, List.set_cons_zero, List.set_cons_succ]
        refine wpAnyH_take (i := 10) (oi := ⟨some 21, _, _, _, _, _⟩) (v := ?_) rfl (by kernel_rfl) (by kernel_rfl) (by kernel_rfl) (fun _ _ _ h => h) (Or.inl ⟨by kernel_rfl, ?_⟩) (by assumption) ?_
        rotate_left
        (intro wz hSw; (try dsimp only at hSw); go_simp; try with_reducible rfl)
        try simp only [Act.put, List.setIfInBounds_toArray, List.set_cons_zero, List.set_cons_succ]
        refine wpAnyH_take (i := 11) (oi := ⟨some 22, _, _, _, _, _⟩) (v := ?_) rfl (by kernel_rfl) (by kernel_rfl) (by kernel_rfl) (fun _ _ _ h => h) (Or.inl ⟨by kernel_rfl, ?_⟩) (by assumption) ?_
        rotate_left
        (intro wz hSw; (try dsimp only at hSw); go_simp; try with_reducible rfl)
        try simp only [Act.put, List.setIfInBounds_toArray, List.set_cons_zero, List.set_cons_succ]
        refine wpAnyH_take (i := 12) (oi := ⟨some 23, _, _, _, _, _⟩) (v := ?_) rfl (by kernel_rfl) (by kernel_rfl) (by kernel_rfl) (fun _ _ _ h => h) (Or.inl ⟨by kernel_rfl, ?_⟩) (by assumption) ?_
        rotate_left
        (intro wz hSw; (try dsimp only at hSw); go_simp; try with_reducible rfl)
        try simp only [Act.put, List.setIfInBounds_toArray, List.set_cons_zero, List.set_cons_succ]
        refine wpAnyH_done (by kernel_rfl) ?_ _
        clear s0 s1 hHeld
        have s0 := HKc.out.c0
        have s1 := HKc.out.c1
        go_wp2_with fail
        refine (refrightT_any t Aet Akt net nkt cet ckt x1 HLt.out Rt.out).mono ?_
        rw [HZ.out]
        rintro e u21 ⟨rfl, hb⟩
        clear s0 s1
        have Rt := Lib.hid (RdT.later Rt.out hb)
        have HKc := Lib.hid (HKc.out.later hb)
        clear hb
        have s0 := HKc.out.c0
        have s1 := HKc.out.c1
        cases z with
        | false =>
          go_wp2_with fail
          refine (rightT_any t Aet Akt net nkt cet ckt u21 HLt.out Rt.out).mono ?_
          rw [HZ.out]
          rintro e u22 ⟨rfl, hb⟩
          clear s0 s1
          have Rt := Lib.hid (RdT.later Rt.out hb)
          have HKc := Lib.hid (HKc.out.later hb)
          clear hb
          have s0 := HKc.out.c0
          have s1 := HKc.out.c1
          go_wp2_with fail
          refine (sizeT_any t Aet Akt net nkt cet ckt u22 HLt.out (by have := HN.out; omega) Rt.out).mono ?_
          rw [HZ.out, if_neg (by simp)]
          rintro e u23 ⟨rfl, hb⟩
          clear s0 s1
          have Rt := Lib.hid (RdT.later Rt.out hb)
          have HKc := Lib.hid (HKc.out.later hb)
          clear hb
          have s0 := HKc.out.c0
          have s1 := HKc.out.c1
          go_wp2_with fail
          go_ret
          exact ⟨rfl, HKc.out.below⟩
        | true =>
          go_wp2_with fail
          have Rt := Lib.hid (RdT.later Rt.out (Below.refl _ u21).drew)
          have HKc := Lib.hid HKc.out.drew
          refine wp_region_held_drew (S := fun W => W.cell? ⟨g0, 0, none⟩ = some (.slice Aet net cet) ∧ W.cell? ⟨g0, 1, none⟩ = some (.slice Akt nkt ckt)) (by kernel_rfl) (by go_keep) (fun hHeld => ?_)
          refine wpAnyH_take (i := 0) (oi := ⟨some 35, _, _, _, _, _⟩) (v := ?_) rfl (by kernel_rfl) (by kernel_rfl) (by kernel_rfl) (fun _ _ _ h => h) (Or.inl ⟨by kernel_rfl, ?_⟩) (by assumption) ?_
          rotate_left
          (intro wz hSw; (try dsimp only at hSw); go_simp; try with_reducible rfl)
          try simp only [Act.put, List.setIfInBounds_toArray, List.set_cons_zero, List.set_cons_succ]
          refine wpAnyH_ready (rs := [1]) (by kernel_rfl) (by simp) ?_
          refine AllReadyH.cons (o := ⟨some 36, _, _, _, _, _⟩) rfl (fun K hK => ?_) AllReadyH.nil
          go_simp
          (go_at_call 15; refine (rightT_any t Aet Akt net nkt cet ckt _ HLt.out Rt.out).mono ?_)
          rw [HZ.out]
          rintro e y1 ⟨rfl, hb⟩
          have Rt := Lib.hid (RdT.later Rt.out hb)
          have HKc := Lib.hid (HKc.out.later hb)
          clear hb
          refine hK.out _ _ ?_ (fun hHeld2 => ?_)
          · exact ⟨HKc.out.c0, HKc.out.c1⟩
          clear hK K hHeld
          have hHeld := hHeld2
          clear hHeld2
          try simp only [Act.put, List.setIfInBounds_toArray, List.set_cons_zero, List.set_cons_succ]
          refine wpAnyH_take (i := 2) (oi := ⟨some 37, _, _, _, _, _⟩) (v := ?_) rfl (by kernel_rfl) (by kernel_rfl) (by kernel_rfl) (fun _ _ _ h => h) (Or.inl ⟨by kernel_rfl, ?_⟩) (by assumption) ?_
          rotate_left
          (intro wz hSw; (try dsimp only at hSw); go_simp; try with_reducible rfl)
          try simp only [Act.put, List.setIfInBounds_toArray, List.set_cons_zero, List.set_cons_succ]
          refine wpAnyH_take (i := 3) (oi := ⟨some 38, _, _, _, _, _⟩) (v := ?_) rfl (by kernel_rfl) (by kernel_rfl) (by kernel_rfl) (fun _ _ _ h => h) (Or.inl ⟨by kernel_rfl, ?_⟩) (by assumption) ?_
          rotate_left
          (intro wz hSw; (try dsimp only at hSw); go_simp; try with_reducible rfl)
          try simp only [Act.put, List.setIfInBounds_toArray, List.set_cons_zero, List.set_cons_succ]
          refine wpAnyH_take (i := 5) (oi := ⟨some 40, _, _, _, _, _⟩) (v := ?_) rfl (by kernel_rfl) (by kernel_rfl) (by kernel_rfl) (fun _ _ _ h => h) (Or.inl ⟨by kernel_rfl, ?_⟩) (by assumption) ?_
          rotate_left
          (intro wz hSw; (try dsimp only at hSw); go_simp; try with_reducible rfl)
          try simp only [Act.put, List.setIfInBounds_toArray, List.set_cons_zero, List.set_cons_succ]
          refine wpAnyH_ready (rs := [4]) (by kernel_rfl) (by simp) ?_
          refine AllReadyH.cons (o := ⟨some 39, _, _, _, _, _⟩) rfl (fun K hK => ?_) AllReadyH.nil
          go_simp
          (go_at_call 16; refine (sizeT_any t Aet Akt net nkt cet ckt _ HLt.out (by have := HN.out; omega) Rt.out).mono ?_)
          rw [HZ.out, if_pos rfl]
          rintro e y2 ⟨rfl, hb⟩
          have Rt := Lib.hid (RdT.later Rt.out hb)
          have HKc := Lib.hid (HKc.out.later hb)
          clear hb
          refine hK.out _ _ ?_ (fun hHeld2 => ?_)
          · exact ⟨HKc.out.c0, HKc.out.c1⟩
          clear hK K hHeld
          have hHeld := hHeld2
          clear hHeld2
          try simp only [Act.put, List.setIfInBounds_toArray, List.set_cons_zero, List.set_cons_succ]
          refine wpAnyH_ready (rs := [6]) (by kernel_rfl) (by simp) ?_
          refine AllReadyH.cons (o := ⟨some 41, _, _, _, _, _⟩) rfl (fun K hK => ?_) AllReadyH.nil
          go_simp
          (go_at_call 17; refine (leaves_any t Aet Akt net nkt cet ckt _ (by have := HN.out; omega) Rt.out).mono ?_)
          rintro e y3 ⟨Al, cl, rfl, _, hb⟩
          have Rt := Lib.hid (RdT.later Rt.out hb)
          have HKc := Lib.hid (HKc.out.later hb)
          clear hb
          refine hK.out _ _ ?_ (fun hHeld2 => ?_)
          · exact ⟨HKc.out.c0, HKc.out.c1⟩
          clear hK K hHeld
          have hHeld := hHeld2
          clear hHeld2
          try simp only [Act.put, List.setIfInBounds_toArray, List.set_cons_zero, List.set_cons_succ]
          refine wpAnyH_take (i := 7) (oi := ⟨some 42, _, _, _, _, _⟩) (v := ?_) rfl (by kernel_rfl) (by kernel_rfl) (by kernel_rfl) (fun _ _ _ h => h) (Or.inl ⟨by kernel_rfl, ?_⟩) (by assumption) ?_
          rotate_left
          (intro wz hSw; (try dsimp only at hSw); go_simp; try with_reducible rfl)
          try simp only [Act.put, List.setIfInBounds_toArray, List.set_cons_zero, List.set_cons_succ]
          refine wpAnyH_take (i := 8) (oi := ⟨some 43, _, _, _, _, _⟩) (v := ?_) rfl (by kernel_rfl) (by kernel_rfl) (by kernel_rfl) (fun _ _ _ h => h) (Or.inl ⟨by kernel_rfl, ?_⟩) (by assumption) ?_
          rotate_left
          (intro wz hSw; (try dsimp only at hSw); go_simp; try with_reducible rfl)
          try simp only [Act.put, List.setIfInBounds_toArray, List.set_cons_zero, List.set_cons_succ]
          refine wpAnyH_take (i := 9) (oi := ⟨some 44, _, _, _, _, _⟩) (v := ?_) rfl (by kernel_rfl) (by kernel_rfl) (by kernel_rfl) (fun _ _ _ h => h) (Or.inl ⟨by kernel_rfl, ?_⟩) (by assumption) ?_
          rotate_left
          (intro wz hSw; (try dsimp only at hSw); go_simp; try with_reducible rfl)
          try simp only [Act.put, List.setIfInBounds_toArray, List.set_cons_zero, List.set_cons_succ]
          refine wpAnyH_take (i := 10) (oi := ⟨some 2, _, _, _, _, _⟩) (v := ?_) rfl (by kernel_rfl) (by kernel_rfl) (by kernel_rfl) (fun _ _ _ h => h) (Or.inl ⟨by kernel_rfl, ?_⟩) (by assumption) ?_
          rotate_left
          (intro wz hSw; (try dsimp only at hSw); go_simp; try with_reducible rfl)
          try simp only [Act.put, List.setIfInBounds_toArray, List.set_cons_zero, List.set_cons_succ]
          refine wpAnyH_done (by kernel_rfl) ?_ _
          go_wp2_with fail
          go_ret
          exact ⟨rfl, HKc.out.below⟩
      | true =>
        go_wp2_with fail
        have Rt := Lib.hid (RdT.later Rt.out (Below.refl _ u2).drew)
        have HKc := Lib.hid HKc.out.drew
        refine wp_region_held_drew (S := fun W => W.cell? ⟨g0, 0, none⟩ = some (.slice Aet net cet) ∧ W.cell? ⟨g0, 1, none⟩ = some (.slice Akt nkt ckt)) (by kernel_rfl) (by go_keep) (fun hHeld => ?_)
        refine wpAnyH_take (i := 0) (oi := ⟨some 11, _, _, _, _, _⟩) (v := ?_) rfl (by kernel_rfl) (by kernel_rfl) (by kernel_rfl) (fun _ _ _ h => h) (Or.inl ⟨by kernel_rfl, ?_⟩) (by assumption) ?_
        rotate_left
        (intro wz hSw; (try dsimp only at hSw); go_simp; try with_reducible rfl)
        try simp only [Act.put, List.setIfInBounds_toArray, List.set_cons_zero, List.set_cons_succ]
        refine wpAnyH_take (i := 2) (oi := ⟨some 13, _, _, _, _, _⟩) (v := ?_) rfl (by kernel_rfl) (by kernel_rfl) (by kernel_rfl) (fun _ _ _ h => h) (Or.inl ⟨by kernel_rfl, ?_⟩) (by assumption) ?_
        rotate_left
        (intro wz hSw; (try dsimp only at hSw); go_simp; try with_reducible rfl)
        try simp only [Act.put, List.setIfInBounds_toArray, List.set_cons_zero, List.set_cons_succ]
        refine wpAnyH_take (i := 3) (oi := ⟨some 14, _, _, _, _, _⟩) (v := ?_) rfl (by kernel_rfl) (by kernel_rfl) (by kernel_rfl) (fun _ _ _ h => h) (Or.inl ⟨by kernel_rfl, ?_⟩) (by assumption) ?_
        rotate_left
        (intro wz hSw; (try dsimp only at hSw); go_simp; try with_reducible rfl)
        try simp only [Act.put, List.setIfInBounds_toArray, List.set_cons_zero, List.set_cons_succ]
        refine wpAnyH_take (i := 4) (oi := ⟨some 15, _, _, _, _, _⟩) (v := ?_) rfl (by kernel_rfl) (by kernel_rfl) (by kernel_rfl) (fun _ _ _ h => h) (Or.inl ⟨by kernel_rfl, ?_⟩) (by assumption) ?_
        rotate_left
        (intro wz hSw; (try dsimp only at hSw); go_simp; try with_reducible rfl)
        try simp only [Act.put, List.setIfInBounds_toArray, List.set_cons_zero, List.set_cons_succ]
        refine wpAnyH_take (i := 5) (oi := ⟨some 16, _, _, _, _, _⟩) (v := ?_) rfl (by kernel_rfl) (by kernel_rfl) (by kernel_rfl) (fun _ _ _ h => h) (Or.inl ⟨by kernel_rfl, ?_⟩) (by assumption) ?_
        rotate_left
        (intro wz hSw; (try dsimp only at hSw); go_simp; try with_reducible rfl)
        try simp only [Act.put, List.setIfInBounds_toArray, List.set_cons_zero, List.set_cons_succ]
        refine wpAnyH_ready (rs := [1]) (by kernel_rfl) (by simp) ?_
        refine AllReadyH.cons (o := ⟨some 12, _, _, _, _, _⟩) rfl (fun K hK => ?_) AllReadyH.nil
        go_simp
        (go_at_call 13; refine (empty_any Aet Akt net nkt cet ckt _).mono ?_)
        rw [HZZ.out]
        rintro e x1 ⟨rfl, hb⟩
        have Rt := Lib.hid (RdT.later Rt.out hb)
        have HKc := Lib.hid (HKc.out.later hb)
        clear hb
        refine hK.out _ _ ?_ (fun hHeld2 => ?_)
        · exact ⟨HKc.out.c0, HKc.out.c1⟩
        clear hK K hHeld
        have hHeld := hHeld2
        clear hHeld2
        try simp only [Act.put, List.setIfInBounds_toArray, List.set_cons_zero, List.set_cons_succ]
        refine wpAnyH_take (i := 6) (oi := ⟨some 17, _, _, _, _, _⟩) (v := ?_) rfl (by kernel_rfl) (by kernel_rfl) (by kernel_rfl) (fun _ _ _ h => h) (Or.inl ⟨by kernel_rfl, ?_⟩) (by assumption) ?_
        rotate_left
        (intro wz hSw; (try dsimp only at hSw); go_simp; try with_reducible rfl)
        try simp only [Act.put, List.setIfInBounds_toArray, List.set_cons_zero, List.set_cons_succ]
        refine wpAnyH_take (i := 7) (oi := ⟨some 18, _, _, _, _, _⟩) (v := ?_) rfl (by kernel_rfl) (by kernel_rfl) (by kernel_rfl) (fun _ _ _ h => h) (Or.inl ⟨by kernel_rfl, ?_⟩) (by assumption) ?_
        rotate_left
        (intro wz hSw; (try dsimp only at hSw); go_simp; try with_reducible rfl)
        try simp only [Act.put, List.setIfInBounds_toArray, List.set_cons_zero, List.set_cons_succ]
        refine wpAnyH_take (i := 8) (oi := ⟨some 19, _, _, _, _, _⟩) (v := ?_) rfl (by kernel_rfl) (by kernel_rfl) (by kernel_rfl) (fun _ _ _ h => h) (Or.inl ⟨by kernel_rfl, ?_⟩) (by assumption) ?_
        rotate_left
        (intro wz hSw; (try dsimp only at hSw); go_simp; try with_reducible rfl)
        try simp only [Act.put, List.setIfInBounds_toArray, List.set_cons_zero, List.set_cons_succ]
        refine wpAnyH_take (i := 9) (oi := ⟨some 20, _, _, _, _, _⟩) (v := ?_) rfl (by kernel_rfl) (by kernel_rfl) (by kernel_rfl) (fun _ _ _ h => h) (Or.inl ⟨by kernel_rfl, ?_⟩) (by assumption) ?_
        rotate_left
        (intro wz hSw; (try dsimp only at hSw); go_simp; try with_reducible rfl)
        try simp only [Act.put, List.setIfInBounds_toArray, List.set_cons_zero, List.set_cons_succ]
        refine wpAnyH_take (i := 10) (oi := ⟨some 21, _, _, _, _, _⟩) (v := ?_) rfl (by kernel_rfl) (by kernel_rfl) (by kernel_rfl) (fun _ _ _ h => h) (Or.inl ⟨by kernel_rfl, ?_⟩) (by assumption) ?_
        rotate_left
        (intro wz hSw; (try dsimp only at hSw); go_simp; try with_reducible rfl)
        try simp only [Act.put, List.setIfInBounds_toArray, List.set_cons_zero, List.set_cons_succ]
        refine wpAnyH_take (i := 11) (oi := ⟨some 22, _, _, _, _, _⟩) (v := ?_) rfl (by kernel_rfl) (by kernel_rfl) (by kernel_rfl) (fun _ _ _ h => h) (Or.inl ⟨by kernel_rfl, ?_⟩) (by assumption) ?_
        rotate_left
        (intro wz hSw; (try dsimp only at hSw); go_simp; try with_reducible rfl)
        try simp only [Act.put, List.setIfInBounds_toArray, List.set_cons_zero, List.set_cons_succ]
        refine wpAnyH_take (i := 12) (oi := ⟨some 23, _, _, _, _, _⟩) (v := ?_) rfl (by kernel_rfl) (by kernel_rfl) (by kernel_rfl) (fun _ _ _ h => h) (Or.inl ⟨by kernel_rfl, ?_⟩) (by assumption) ?_
        rotate_left
        (intro wz hSw; (try dsimp only at hSw); go_simp; try with_reducible rfl)
        try simp only [Act.put, List.setIfInBounds_toArray, List.set_cons_zero, List.set_cons_succ]
        refine wpAnyH_done (by kernel_rfl) ?_ _
        clear s0 s1 hHeld
        have s0 := HKc.out.c0
        have s1 := HKc.out.c1
        go_wp2_with fail
        refine (refrightT_any t Aet Akt net nkt cet ckt x1 HLt.out Rt.out).mono ?_
        rw [HZ.out]
        rintro e u21 ⟨rfl, hb⟩
        clear s0 s1
        have Rt := Lib.hid (RdT.later Rt.out hb)
        have HKc := Lib.hid (HKc.out.later hb)
        clear hb
        have s0 := HKc.out.c0
        have s1 := HKc.out.c1
        cases z with
        | false =>
          go_wp2_with fail
          refine (rightT_any t Aet Akt net nkt cet ckt u21 HLt.out Rt.out).mono ?_
          rw [HZ.out]
          rintro e u22 ⟨rfl, hb⟩
          clear s0 s1
          have Rt := Lib.hid (RdT.later Rt.out hb)
          have HKc := Lib.hid (HKc.out.later hb)
          clear hb
          have s0 := HKc.out.c0
          have s1 := HKc.out.c1
          go_wp2_with fail
          refine (sizeT_any t Aet Akt net nkt cet ckt u22 HLt.out (by have := HN.out; omega) Rt.out).mono ?_
          rw [HZ.out, if_neg (by simp)]
          rintro e u23 ⟨rfl, hb⟩
          clear s0 s1
          have Rt := Lib.hid (RdT.later Rt.out hb)
          have HKc := Lib.hid (HKc.out.later hb)
          clear hb
          have s0 := HKc.out.c0
          have s1 := HKc.out.c1
          go_wp2_with fail
          go_ret
          exact ⟨rfl, HKc.out.below⟩
        | true =>
          go_wp2_with fail
          have Rt := Lib.hid (RdT.later Rt.out (Below.refl _ u21).drew)
          have HKc := Lib.hid HKc.out.drew
          refine wp_region_held_drew (S := fun W => W.cell? ⟨g0, 0, none⟩ = some (.slice Aet net cet) ∧ W.cell? ⟨g0, 1, none⟩ = some (.slice Akt nkt ckt)) (by kernel_rfl) (by go_keep) (fun hHeld => ?_)
          refine wpAnyH_take (i := 0) (oi := ⟨some 35, _, _, _, _, _⟩) (v := ?_) rfl (by kernel_rfl) (by kernel_rfl) (by kernel_rfl) (fun _ _ _ h => h) (Or.inl ⟨by kernel_rfl, ?_⟩) (by assumption) ?_
          rotate_left
          (intro wz hSw; (try dsimp only at hSw); go_simp; try with_reducible rfl)
          try simp only [Act.put, List.setIfInBounds_toArray, List.set_cons_zero, List.set_cons_succ]
          refine wpAnyH_ready (rs := [1]) (by kernel_rfl) (by simp) ?_
          refine AllReadyH.cons (o := ⟨some 36, _, _, _, _, _⟩) rfl (fun K hK => ?_) AllReadyH.nil
          go_simp
          (go_at_call 15; refine (rightT_any t Aet Akt net nkt cet ckt _ HLt.out Rt.out).mono ?_)
          rw [HZ.out]
          rintro e y1 ⟨rfl, hb⟩
          have Rt := Lib.hid (RdT.later Rt.out hb)
          have HKc := Lib.hid (HKc.out.later hb)
          clear hb
          refine hK.out _ _ ?_ (fun hHeld2 => ?_)
          · exact ⟨HKc.out.c0, HKc.out.c1⟩
          clear hK K hHeld
          have hHeld := hHeld2
          clear hHeld2
          try simp only [Act.put, List.setIfInBounds_toArray, List.set_cons_zero, List.set_cons_succ]
          refine wpAnyH_take (i := 2) (oi := ⟨some 37, _, _, _, _, _⟩) (v := ?_) rfl (by kernel_rfl) (by kernel_rfl) (by kernel_rfl) (fun _ _ _ h => h) (Or.inl ⟨by kernel_rfl, ?_⟩) (by assumption) ?_
          rotate_left
          (intro wz hSw; (try dsimp only at hSw); go_simp; try with_reducible rfl)
          try simp only [Act.put, List.setIfInBounds_toArray, List.set_cons_zero, List.set_cons_succ]
          refine wpAnyH_take (i := 3) (oi := ⟨some 38, _, _, _, _, _⟩) (v := ?_) rfl (by kernel_rfl) (by kernel_rfl) (by kernel_rfl) (fun _ _ _ h => h) (Or.inl ⟨by kernel_rfl, ?_⟩) (by assumption) ?_
          rotate_left
          (intro wz hSw; (try dsimp only at hSw); go_simp; try with_reducible rfl)
          try simp only [Act.put, List.setIfInBounds_toArray, List.set_cons_zero, List.set_cons_succ]
          refine wpAnyH_take (i := 5) (oi := ⟨some 40, _, _, _, _, _⟩) (v := ?_) rfl (by kernel_rfl) (by kernel_rfl) (by kernel_rfl) (fun _ _ _ h => h) (Or.inl ⟨by kernel_rfl, ?_⟩) (by assumption) ?_
          rotate_left
          (intro wz hSw; (try dsimp only at hSw); go_simp; try with_reducible rfl)
          try simp only [Act.put, List.setIfInBounds_toArray, List.set_cons_zero, List.set_cons_succ]
          refine wpAnyH_ready (rs := [4]) (by kernel_rfl) (by simp) ?_
          refine AllReadyH.cons (o := ⟨some 39, _, _, _, _, _⟩) rfl (fun K hK => ?_) AllReadyH.nil
          go_simp
          (go_at_call 16; refine (sizeT_any t Aet Akt net nkt cet ckt _ HLt.out (by have := HN.out; omega) Rt.out).mono ?_)
          rw [HZ.out, if_pos rfl]
          rintro e y2 ⟨rfl, hb⟩
          have Rt := Lib.hid (RdT.later Rt.out hb)
          have HKc := Lib.hid (HKc.out.later hb)
          clear hb
          refine hK.out _ _ ?_ (fun hHeld2 => ?_)
          · exact ⟨HKc.out.c0, HKc.out.c1⟩
          clear hK K hHeld
          have hHeld := hHeld2
          clear hHeld2
          try simp only [Act.put, List.setIfInBounds_toArray, List.set_cons_zero, List.set_cons_succ]
          refine wpAnyH_ready (rs := [6]) (by kernel_rfl) (by simp) ?_
          refine AllReadyH.cons (o := ⟨some 41, _, _, _, _, _⟩) rfl (fun K hK => ?_) AllReadyH.nil
          go_simp
          (go_at_call 17; refine (leaves_any t Aet Akt net nkt cet ckt _ (by have := HN.out; omega) Rt.out).mono ?_)
          rintro e y3 ⟨Al, cl, rfl, _, hb⟩
          have Rt := Lib.hid (RdT.later Rt.out hb)
          have HKc := Lib.hid (HKc.out.later hb)
          clear hb
          refine hK.out _ _ ?_ (fun hHeld2 => ?_)
          · exact ⟨HKc.out.c0, HKc.out.c1⟩
          clear hK K hHeld
          have hHeld := hHeld2
          clear hHeld2
          try simp only [Act.put, List.setIfInBounds_toArray, List.set_cons_zero, List.set_cons_succ]
          refine wpAnyH_take (i := 7) (oi := ⟨some 42, _, _, _, _, _⟩) (v := ?_) rfl (by kernel_rfl) (by kernel_rfl) (by kernel_rfl) (fun _ _ _ h => h) (Or.inl ⟨by kernel_rfl, ?_⟩) (by assumption) ?_
          rotate_left
          (intro wz hSw; (try dsimp only at hSw); go_simp; try with_reducible rfl)
          try simp only [Act.put, List.setIfInBounds_toArray, List.set_cons_zero, List.set_cons_succ]
          refine wpAnyH_take (i := 8) (oi := ⟨some 43, _, _, _, _, _⟩) (v := ?_) rfl (by kernel_rfl) (by kernel_rfl) (by kernel_rfl) (fun _ _ _ h => h) (Or.inl ⟨by kernel_rfl, ?_⟩) (by assumption) ?_
          rotate_left
          (intro wz hSw; (try dsimp only at hSw); go_simp; try with_reducible rfl)
          try simp only [Act.put, List.setIfInBounds_toArray, List.set_cons_zero, List.set_cons_succ]
          refine wpAnyH_take (i := 9) (oi := ⟨some 44, _, _, _, _, _⟩) (v := ?_) rfl (by kernel_rfl) (by kernel_rfl) (by kernel_rfl) (fun _ _ _ h => h) (Or.inl ⟨by kernel_rfl, ?_⟩) (by assumption) ?_
          rotate_left
          (intro wz hSw; (try dsimp only at hSw); go_simp; try with_reducible rfl)
          try simp only [Act.put, List.setIfInBounds_toArray, List.set_cons_zero, List.set_cons_succ]
          refine wpAnyH_take (i := 10) (oi := ⟨some 2, _, _, _, _, _⟩) (v := ?_) rfl (by kernel_rfl) (by kernel_rfl) (by kernel_rfl) (fun _ _ _ h => h) (Or.inl ⟨by kernel_rfl, ?_⟩) (by assumption) ?_
          rotate_left
          (intro wz hSw; (try dsimp only at hSw); go_simp; try with_reducible rfl)
          try simp only [Act.put, List.setIfInBounds_toArray, List.set_cons_zero, List.set_cons_succ]
          refine wpAnyH_done (by kernel_rfl) ?_ _
          go_wp2_with fail
          go_ret
          exact ⟨rfl, HKc.out.below⟩
set_option maxRecDepth 100000 in
theorem lifted (os : Os) (started : os.Started) (H : Type) (enc : TypeId × Value → H) :
    ReturnsInHanded {} Try.checked os 3 .any (Rows.treeRightSpec.pre6 enc Try.prog Try.f3 Rows.treeRightRow.domain false) (Rows.treeRightSpec.post enc Try.prog Try.f3 false true false false) := by
  refine returnsInHanded_of_change_sized (C := Try.checked) own started (by kernel_rfl) Try.func3
    (ChangeSpec.witness6 (enc := enc) (C := Try.checked) false ⟨#[], #[.agg #[.slice none 0 0, .slice none 0 0]], []⟩ 8 (by kernel_rfl) (by kernel_rfl) (by kernel_rfl) (by kernel_rfl)) ?_
  intro W base args ds gs before hval0 hW _ hsz0 _
  have hval : ∀ (j : Nat) t v, Try.f3.params[j]? = some t → args[j]? = some v → Value.okWide Try.prog W .any base t v := hval0
  have hW' := hW
  obtain ⟨p, q, hA0, hV, rfl, hfz, hnd⟩ := hW
  have hA : DataW.TrodAll enc Try.prog W 0 (fun _ => true) true Try.f3.params.toList args.toList ds p := hA0
  rw [Try.params3] at hA hval
  obtain ⟨v0, d0, rfl, rfl, h0⟩ := trodAll_one hA
  obtain ⟨rfl, rfl⟩ := trodVars_none hV
  have hsz : (DataW.weightsEach Try.prog (25 :: _) (d0 :: _)).all (· ≤ reachBytes) = true := hsz0
  obtain ⟨hw0, hsz⟩ := Tr.weights_head hsz
  obtain ⟨t0, ae0, ak0, ne0, nk0, ce0, ck0, rfl, hr0, hl0⟩ := Tr.treeV_of_trod (hval 0 25 v0 rfl rfl) h0 hw0
  refine (walk_any t0 ae0 ak0 ne0 nk0 ce0 ck0 W hr0 hl0).mono fun e W' ⟨he, hb⟩ => ?_
  subst he
  exact ⟨_, rfl, law_post hW' (by kernel_rfl) rfl rfl rfl hb⟩
theorem proved : Rows.TreeRightSaid :=
  OpenClaim.holds_of_wide 3 Try.f3 rfl rfl rfl rfl rfl rfl rfl ⟨rfl, rfl, rfl, rfl, rfl⟩ rfl rfl rfl rfl rfl (by kernel_rfl) Try.func3 (by kernel_rfl)
    (of_decide_eq_true (by kernel_rfl)) (by unfold Func.isWrapper; first | (rw [if_pos (by decide +kernel)]; kernel_rfl) | (rw [if_neg (by decide +kernel)]; exact ⟨rfl, rfl⟩))
    (fun os started H enc _ => lifted os started H enc)
#print axioms proved
end Go.Proofs.Ytbfcbfadfnaebaa.lawTreeRight
