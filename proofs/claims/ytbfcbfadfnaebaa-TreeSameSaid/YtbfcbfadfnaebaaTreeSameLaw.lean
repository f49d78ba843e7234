/- TreeSame answers true for every two trees. No condition. -/
import Derived.Test.YtbfcbfadfnaebaaTreeLaw
import Derived.Test.YtbfcbfadfnaebaaTreeRefRight
namespace Go.Proofs.Ytbfcbfadfnaebaa.lawTreeSame
open Go.ChangeShapes Go.WideShapes Go.ChangeAt Go.RowKit Sp Rw Tr
set_option maxRecDepth 100000 in
set_option maxHeartbeats 4000000 in
theorem walk_any (a : T) (Aea Aka : Option Addr) (nea nka cea cka : Nat) (b : T) (Aeb Akb : Option Addr) (neb nkb ceb ckb : Nat) (w : World) (hra : RdT w w.heap.size a ⟨Aea, nea, cea⟩ ⟨Aka, nka, cka⟩) (hla : LenT reachBytes a) (hrb : RdT w w.heap.size b ⟨Aeb, neb, ceb⟩ ⟨Akb, nkb, ckb⟩) (hlb : LenT reachBytes b) :
    Calls Try.prog 8 #[.agg #[.slice Aea nea cea, .slice Aka nka cka], .agg #[.slice Aeb neb ceb, .slice Akb nkb ckb]] w fun e w' => e = .returned (.bool true) ∧ Below w.heap.size w w' := by
  have HKc : Hid (Kept [] w w) := Kept.nil w
  have Ra := Lib.hid hra
  have HLa := Lib.hid hla
  clear hra hla
  have Rb := Lib.hid hrb
  have HLb := Lib.hid hlb
  clear hrb hlb
  obtain ⟨g0, hg0⟩ : ∃ z, z = w.heap.size := ⟨_, rfl⟩
  obtain ⟨B0, hB0⟩ : ∃ W, W = w.alloc (.cells #[.slice Aea nea cea, .slice Aka nka cka] 25) := ⟨_, rfl⟩
  have hb : Below w.heap.size w B0 := by rw [hB0]; exact Dt.box_below _ _ _
  have e0 : B0.cell? ⟨g0, 0, none⟩ = some (.slice Aea nea cea) := by rw [hB0, hg0]; go_simp
  have e1 : B0.cell? ⟨g0, 1, none⟩ = some (.slice Aka nka cka) := by rw [hB0, hg0]; go_simp
  have Ra := Lib.hid (RdT.later Ra.out hb)
  have Rb := Lib.hid (RdT.later Rb.out hb)
  have HKc := Lib.hid (((HKc.out.later hb).cons_of e1).cons_of e0)
  have HB0 := Lib.hid hB0
  have Hg0 := Lib.hid hg0
  clear hb e0 e1 hB0 hg0
  obtain ⟨g1, hg1⟩ : ∃ z, z = B0.heap.size := ⟨_, rfl⟩
  obtain ⟨B1, hB1⟩ : ∃ W, W = B0.alloc (.cells #[.slice Aeb neb ceb, .slice Akb nkb ckb] 25) := ⟨_, rfl⟩
  have hb : Below B0.heap.size B0 B1 := by rw [hB1]; exact Dt.box_below _ _ _
  have e0 : B1.cell? ⟨g1, 0, none⟩ = some (.slice Aeb neb ceb) := by rw [hB1, hg1]; go_simp
  have e1 : B1.cell? ⟨g1, 1, none⟩ = some (.slice Akb nkb ckb) := by rw [hB1, hg1]; go_simp
  have Ra := Lib.hid (RdT.later Ra.out hb)
  have Rb := Lib.hid (RdT.later Rb.out hb)
  have HKc := Lib.hid (((HKc.out.later hb).cons_of e1).cons_of e0)
  have HB1 := Lib.hid hB1
  have Hg1 : Hid (g1 = g0 + 1) := by unfold Hid; rw [hg1, HB0.out, Hg0.out]; simp
  clear hb e0 e1 hB1 hg1
  have s0 := HKc.out.c0
  have s1 := HKc.out.c1
  have s2 := HKc.out.c2
  have s3 := HKc.out.c3
  go_enter Try.func8, Try.ntmps8
  go_wp2_with fail
  rw [← Hg0.out, ← HB0.out, ← Hg1.out, ← HB1.out]
  refine (awake_any B1).mono ?_
  rintro e u1 ⟨rfl, hb⟩
  clear s0 s1 s2 s3
  have Ra := Lib.hid (RdT.later Ra.out hb)
  have Rb := Lib.hid (RdT.later Rb.out hb)
  have HKc := Lib.hid (HKc.out.later hb)
  clear hb
  have s0 := HKc.out.c0
  have s1 := HKc.out.c1
  have s2 := HKc.out.c2
  have s3 := HKc.out.c3
  go_wp2_with fail
  refine (small_to a Aea Aka nea nka cea cka 300 300 rfl u1 (by omega) HLa.out Ra.out).mono ?_
  rintro e u2 ⟨sba, rfl, hsma, hb⟩
  clear s0 s1 s2 s3
  have Ra := Lib.hid (RdT.later Ra.out hb)
  have Rb := Lib.hid (RdT.later Rb.out hb)
  have HKc := Lib.hid (HKc.out.later hb)
  clear hb
  have s0 := HKc.out.c0
  have s1 := HKc.out.c1
  have s2 := HKc.out.c2
  have s3 := HKc.out.c3
  cases sba with
  | false =>
    go_wp2_with fail
    refine (awake_any _).mono ?_
    rintro e u3 ⟨rfl, hb⟩
    clear s0 s1 s2 s3
    have Ra := Lib.hid (RdT.later Ra.out hb)
    have Rb := Lib.hid (RdT.later Rb.out hb)
    have HKc := Lib.hid (HKc.out.later hb)
    clear hb
    have s0 := HKc.out.c0
    have s1 := HKc.out.c1
    have s2 := HKc.out.c2
    have s3 := HKc.out.c3
    go_wp2_with fail
    go_ret
    exact ⟨rfl, HKc.out.below⟩
  | true =>
    have HNA := Lib.hid (hsma rfl)
    clear hsma
    go_wp2_with fail
    refine (small_to b Aeb Akb neb nkb ceb ckb 300 300 rfl u2 (by omega) HLb.out Rb.out).mono ?_
    rintro e u3 ⟨sbb, rfl, hsmb, hb⟩
    clear s0 s1 s2 s3
    have Ra := Lib.hid (RdT.later Ra.out hb)
    have Rb := Lib.hid (RdT.later Rb.out hb)
    have HKc := Lib.hid (HKc.out.later hb)
    clear hb
    have s0 := HKc.out.c0
    have s1 := HKc.out.c1
    have s2 := HKc.out.c2
    have s3 := HKc.out.c3
    cases sbb with
    | false =>
      go_wp2_with fail
      refine (awake_any _).mono ?_
      rintro e u4 ⟨rfl, hb⟩
      clear s0 s1 s2 s3
      have Ra := Lib.hid (RdT.later Ra.out hb)
      have Rb := Lib.hid (RdT.later Rb.out hb)
      have HKc := Lib.hid (HKc.out.later hb)
      clear hb
      have s0 := HKc.out.c0
      have s1 := HKc.out.c1
      have s2 := HKc.out.c2
      have s3 := HKc.out.c3
      go_wp2_with fail
      go_ret
      exact ⟨rfl, HKc.out.below⟩
    | true =>
      have HNB := Lib.hid (hsmb rfl)
      clear hsmb
      go_wp2_with fail
      refine (clone_any a Aea Aka nea nka cea cka u3 HLa.out (by have := HNA.out; omega) Ra.out).mono ?_
      rintro e u4 ⟨Aec, nec, cec, Akc, nkc, ckc, rfl, hro, hb⟩
      have Rc := Lib.hid hro.rd
      clear hro
      clear s0 s1 s2 s3
      have Ra := Lib.hid (RdT.later Ra.out hb)
      have Rb := Lib.hid (RdT.later Rb.out hb)
      have HKc := Lib.hid (HKc.out.later hb)
      clear hb
      have s0 := HKc.out.c0
      have s1 := HKc.out.c1
      have s2 := HKc.out.c2
      have s3 := HKc.out.c3
      obtain ⟨x, hx⟩ : ∃ x, (if rightB 5 a = true then a else none_) = x := ⟨_, rfl⟩
      rw [hx] at Rc
      obtain ⟨gc, hgc⟩ : ∃ z, z = u4.heap.size := ⟨_, rfl⟩
      obtain ⟨wc, hwc⟩ : ∃ W, W = u4.alloc (.cells #[.slice Aec nec cec, .slice Akc nkc ckc] 25) := ⟨_, rfl⟩
      have hb : Below u4.heap.size u4 wc := by rw [hwc]; exact Dt.box_below _ _ _
      have e0 : wc.cell? ⟨gc, 0, none⟩ = some (.slice Aec nec cec) := by rw [hwc, hgc]; go_simp
      have e1 : wc.cell? ⟨gc, 1, none⟩ = some (.slice Akc nkc ckc) := by rw [hwc, hgc]; go_simp
      clear s0 s1 s2 s3
      have Ra := Lib.hid (RdT.later Ra.out hb)
      have Rb := Lib.hid (RdT.later Rb.out hb)
      have Rc := Lib.hid (RdT.later Rc.out hb)
      have HKc := Lib.hid (HKc.out.later hb)
      have HKc := Lib.hid ((HKc.out.cons_of e1).cons_of e0)
      have Hwc := Lib.hid hwc
      have Hgc := Lib.hid hgc
      have a0 : (u4.alloc (.cells #[.slice Aec nec cec, .slice Akc nkc ckc] 25)).cell? ⟨g1, 0, none⟩ = some (.slice Aeb neb ceb) := by rw [← hwc]; exact HKc.out.c2
      have a1 : (u4.alloc (.cells #[.slice Aec nec cec, .slice Akc nkc ckc] 25)).cell? ⟨g1, 1, none⟩ = some (.slice Akb nkb ckb) := by rw [← hwc]; exact HKc.out.c3
      have a2 : (u4.alloc (.cells #[.slice Aec nec cec, .slice Akc nkc ckc] 25)).cell? ⟨g0, 0, none⟩ = some (.slice Aea nea cea) := by rw [← hwc]; exact HKc.out.c4
      have a3 : (u4.alloc (.cells #[.slice Aec nec cec, .slice Akc nkc ckc] 25)).cell? ⟨g0, 1, none⟩ = some (.slice Aka nka cka) := by rw [← hwc]; exact HKc.out.c5
      clear hb e0 e1 hwc hgc
      have s0 := HKc.out.c0
      have s1 := HKc.out.c1
      have s2 := HKc.out.c2
      have s3 := HKc.out.c3
      have s4 := HKc.out.c4
      have s5 := HKc.out.c5
      obtain ⟨z, hz⟩ : ∃ z, rightB 5 a = z := ⟨_, rfl⟩
      have HRF := Lib.hid (refrightT_any a Aea Aka nea nka cea cka wc HLa.out Ra.out)
      rw [hz] at HRF
      cases z with
      | false =>
        rw [hz, if_neg (by simp)] at hx
        subst hx
        have HZ := Lib.hid hz
        clear hz
        go_wp2_with fail
        rw [← Hgc.out, ← Hwc.out]
        refine (HRF.out).mono ?_
        rintro e u5 ⟨rfl, hb⟩
        clear a0 a1 a2 a3
        clear s0 s1 s2 s3 s4 s5
        have Ra := Lib.hid (RdT.later Ra.out hb)
        have Rb := Lib.hid (RdT.later Rb.out hb)
        have Rc := Lib.hid (RdT.later Rc.out hb)
        have HKc := Lib.hid (HKc.out.later hb)
        clear hb
        have s0 := HKc.out.c0
        have s1 := HKc.out.c1
        have s2 := HKc.out.c2
        have s3 := HKc.out.c3
        have s4 := HKc.out.c4
        have s5 := HKc.out.c5
        go_wp2_with fail
        refine (sameT_any a b Aea Aka nea nka cea cka Aeb Akb neb nkb ceb ckb u5 HLa.out (by have := HNA.out; omega) Ra.out Rb.out).mono ?_
        rw [HZ.out, Bool.false_and]
        rintro e u6 ⟨rfl, hb⟩
        clear s0 s1 s2 s3 s4 s5
        have Ra := Lib.hid (RdT.later Ra.out hb)
        have Rb := Lib.hid (RdT.later Rb.out hb)
        have Rc := Lib.hid (RdT.later Rc.out hb)
        have HKc := Lib.hid (HKc.out.later hb)
        clear hb
        have s0 := HKc.out.c0
        have s1 := HKc.out.c1
        have s2 := HKc.out.c2
        have s3 := HKc.out.c3
        have s4 := HKc.out.c4
        have s5 := HKc.out.c5
        have hz0 := rd_none Rc.out
        have HZ0 := Lib.hid (decide_eq_true hz0)
        clear hz0
        go_wp2_with fail
        refine (empty_any Aec Akc nec nkc cec ckc u6).mono ?_
        rw [HZ0.out]
        rintro e u7 ⟨rfl, hb⟩
        clear s0 s1 s2 s3 s4 s5
        have Ra := Lib.hid (RdT.later Ra.out hb)
        have Rb := Lib.hid (RdT.later Rb.out hb)
        have Rc := Lib.hid (RdT.later Rc.out hb)
        have HKc := Lib.hid (HKc.out.later hb)
        clear hb
        have s0 := HKc.out.c0
        have s1 := HKc.out.c1
        have s2 := HKc.out.c2
        have s3 := HKc.out.c3
        have s4 := HKc.out.c4
        have s5 := HKc.out.c5
        go_wp2_with fail
        go_ret
        exact ⟨rfl, HKc.out.below⟩
      | true =>
        rw [hz, if_pos rfl] at hx
        subst hx
        have HZ := Lib.hid hz
        clear hz
        obtain ⟨v, hv⟩ : ∃ v, eqB a b = v := ⟨_, rfl⟩
        have HV := Lib.hid hv
        clear hv
        have fv : (v == v) = true := by cases v <;> rfl
        go_wp2_with fail
        rw [← Hgc.out, ← Hwc.out]
        refine (HRF.out).mono ?_
        rintro e u5 ⟨rfl, hb⟩
        clear a0 a1 a2 a3
        clear s0 s1 s2 s3 s4 s5
        have Ra := Lib.hid (RdT.later Ra.out hb)
        have Rb := Lib.hid (RdT.later Rb.out hb)
        have Rc := Lib.hid (RdT.later Rc.out hb)
        have HKc := Lib.hid (HKc.out.later hb)
        clear hb
        have s0 := HKc.out.c0
        have s1 := HKc.out.c1
        have s2 := HKc.out.c2
        have s3 := HKc.out.c3
        have s4 := HKc.out.c4
        have s5 := HKc.out.c5
        go_wp2_with fail
        have Ra := Lib.hid (RdT.later Ra.out (Below.refl _ u5).drew)
        have Rb := Lib.hid (RdT.later Rb.out (Below.refl _ u5).drew)
        have Rc := Lib.hid (RdT.later Rc.out (Below.refl _ u5).drew)
        have HKc := Lib.hid HKc.out.drew
        refine wp_region_held_drew (S := fun W => W.cell? ⟨gc, 0, none⟩ = some (.slice Aec nec cec) ∧ W.cell? ⟨gc, 1, none⟩ = some (.slice Akc nkc ckc) ∧ W.cell? ⟨g1, 0, none⟩ = some (.slice Aeb neb ceb) ∧ W.cell? ⟨g1, 1, none⟩ = some (.slice Akb nkb ckb) ∧ W.cell? ⟨g0, 0, none⟩ = some (.slice Aea nea cea) ∧ W.cell? ⟨g0, 1, none⟩ = some (.slice Aka nka cka)) (by kernel_rfl) (by go_keep) (fun hHeld => ?_)
        refine wpAnyH_take (i := 0) (oi := ⟨some 32, _, _, _, _, _⟩) (v := ?_) rfl (by kernel_rfl) (by kernel_rfl) (by kernel_rfl) (fun _ _ _ h => h) (Or.inl ⟨by kernel_rfl, ?_⟩) (by assumption) ?_
        rotate_left
        (intro wz hSw; (try dsimp only at hSw); go_simp; try with_reducible rfl)
        try simp only [Act.put, List.setIfInBounds_toArray, List.set_cons_zero, List.set_cons_succ]
        refine wpAnyH_take (i := 1) (oi := ⟨some 33, _, _, _, _, _⟩) (v := ?_) rfl (by kernel_rfl) (by kernel_rfl) (by kernel_rfl) (fun _ _ _ h => h) (Or.inl ⟨by kernel_rfl, ?_⟩) (by assumption) ?_
        rotate_left
        (intro wz hSw; (try dsimp only at hSw); go_simp; try with_reducible rfl)
        try simp only [Act.put, List.setIfInBounds_toArray, List.set_cons_zero, List.set_cons_succ]
        refine wpAnyH_take (i := 3) (oi := ⟨some 35, _, _, _, _, _⟩) (v := ?_) rfl (by kernel_rfl) (by kernel_rfl) (by kernel_rfl) (fun _ _ _ h => h) (Or.inl ⟨by kernel_rfl, ?_⟩) (by assumption) ?_
        rotate_left
        (intro wz hSw; (try dsimp only at hSw); go_simp; try with_reducible rfl)
        try simp only [Act.put, List.setIfInBounds_toArray, List.set_cons_zero, List.set_cons_succ]
        refine wpAnyH_take (i := 4) (oi := ⟨some 36, _, _, _, _, _⟩) (v := ?_) rfl (by kernel_rfl) (by kernel_rfl) (by kernel_rfl) (fun _ _ _ h => h) (Or.inl ⟨by kernel_rfl, ?_⟩) (by assumption) ?_
        rotate_left
        (intro wz hSw; (try dsimp only at hSw); go_simp; try with_reducible rfl)
        try simp only [Act.put, List.setIfInBounds_toArray, List.set_cons_zero, List.set_cons_succ]
        refine wpAnyH_ready (rs := [2]) (by kernel_rfl) (by simp) ?_
        refine AllReadyH.cons (o := ⟨some 34, _, _, _, _, _⟩) rfl (fun K hK => ?_) AllReadyH.nil
        go_simp
        (go_at_call 31; refine (sameT_any a b Aea Aka nea nka cea cka Aeb Akb neb nkb ceb ckb _ HLa.out (by have := HNA.out; omega) Ra.out Rb.out).mono ?_)
        rw [HZ.out, HV.out, Bool.true_and]
        rintro e x1 ⟨rfl, hb⟩
        have Ra := Lib.hid (RdT.later Ra.out hb)
        have Rb := Lib.hid (RdT.later Rb.out hb)
        have Rc := Lib.hid (RdT.later Rc.out hb)
        have HKc := Lib.hid (HKc.out.later hb)
        clear hb
        refine hK.out _ _ ?_ (fun hHeld2 => ?_)
        · exact ⟨HKc.out.c0, HKc.out.c1, HKc.out.c2, HKc.out.c3, HKc.out.c4, HKc.out.c5⟩
        clear hK K hHeld
        have hHeld := hHeld2
        clear hHeld2
        try simp only [Act.put, List.setIfInBounds_toArray, List.set_cons_zero, List.set_cons_succ]
        refine wpAnyH_ready (rs := [5]) (by kernel_rfl) (by simp) ?_
        refine AllReadyH.cons (o := ⟨some 37, _, _, _, _, _⟩) rfl (fun K hK => ?_) AllReadyH.nil
        go_simp
        (go_at_call 23; refine (refsameT_any a b Aea Aka nea nka cea cka Aeb Akb neb nkb ceb ckb _ (by have := HNA.out; omega) Ra.out Rb.out).mono ?_)
        rw [HV.out]
        rintro e x2 ⟨rfl, hb⟩
        have Ra := Lib.hid (RdT.later Ra.out hb)
        have Rb := Lib.hid (RdT.later Rb.out hb)
        have Rc := Lib.hid (RdT.later Rc.out hb)
        have HKc := Lib.hid (HKc.out.later hb)
        clear hb
        refine hK.out _ _ ?_ (fun hHeld2 => ?_)
        · exact ⟨HKc.out.c0, HKc.out.c1, HKc.out.c2, HKc.out.c3, HKc.out.c4, HKc.out.c5⟩
        clear hK K hHeld
        have hHeld := hHeld2
        clear hHeld2
        try simp only [Act.put, List.setIfInBounds_toArray, List.set_cons_zero, List.set_cons_succ]
        refine wpAnyH_take (i := 6) (oi := ⟨some 38, _, _, _, _, _⟩) (v := ?_) rfl (by kernel_rfl) (by kernel_rfl) (by kernel_rfl) (fun _ _ _ h => h) (Or.inl ⟨by kernel_rfl, ?_⟩) (by assumption) ?_
        rotate_left
        (intro wz hSw; (try dsimp only at hSw); go_simp; try with_reducible rfl)
        try simp only [Act.put, List.setIfInBounds_toArray, List.set_cons_zero, List.set_cons_succ]
        refine wpAnyH_take (i := 7) (oi := ⟨some 39, _, _, _, _, _⟩) (v := ?_) rfl (by kernel_rfl) (by kernel_rfl) (by kernel_rfl) (fun _ _ _ h => h) (Or.inl ⟨by kernel_rfl, ?_⟩) (by assumption) ?_
        rotate_left
        (intro wz hSw; (try dsimp only at hSw); go_simp; try with_reducible rfl)
        try simp only [Act.put, List.setIfInBounds_toArray, List.set_cons_zero, List.set_cons_succ]
        refine wpAnyH_take (i := 8) (oi := ⟨some 40, _, _, _, _, _⟩) (v := ?_) rfl (by kernel_rfl) (by kernel_rfl) (by kernel_rfl) (fun _ _ _ h => h) (Or.inl ⟨by kernel_rfl, ?_⟩) (by assumption) ?_
        rotate_left
        (intro wz hSw; (try dsimp only at hSw); go_simp; try with_reducible rfl)
        try simp only [Act.put, List.setIfInBounds_toArray, List.set_cons_zero, List.set_cons_succ]
        refine wpAnyH_take (i := 9) (oi := ⟨some 41, _, _, _, _, _⟩) (v := ?_) rfl (by kernel_rfl) (by kernel_rfl) (by kernel_rfl) (fun _ _ _ h => h) (Or.inl ⟨by kernel_rfl, ?_⟩) (by assumption) ?_
        rotate_left
        (intro wz hSw; (try dsimp only at hSw); go_simp; try with_reducible rfl)
        try simp only [Act.put, List.setIfInBounds_toArray, List.set_cons_zero, List.set_cons_succ]
        refine wpAnyH_ready (rs := [10]) (by kernel_rfl) (by simp) ?_
        refine AllReadyH.cons (o := ⟨some 42, _, _, _, _, _⟩) rfl (fun K hK => ?_) AllReadyH.nil
        go_simp
        (go_at_call 31; refine (sameT_any a a Aea Aka nea nka cea cka Aec Akc nec nkc cec ckc _ HLa.out (by have := HNA.out; omega) Ra.out Rc.out).mono ?_)
        rw [HZ.out, eqB_yes rfl, Bool.true_and]
        rintro e x3 ⟨rfl, hb⟩
        have Ra := Lib.hid (RdT.later Ra.out hb)
        have Rb := Lib.hid (RdT.later Rb.out hb)
        have Rc := Lib.hid (RdT.later Rc.out hb)
        have HKc := Lib.hid (HKc.out.later hb)
        clear hb
        refine hK.out _ _ ?_ (fun hHeld2 => ?_)
        · exact ⟨HKc.out.c0, HKc.out.c1, HKc.out.c2, HKc.out.c3, HKc.out.c4, HKc.out.c5⟩
        clear hK K hHeld
        have hHeld := hHeld2
        clear hHeld2
        try simp only [Act.put, List.setIfInBounds_toArray, List.set_cons_zero, List.set_cons_succ]
        refine wpAnyH_take (i := 11) (oi := ⟨some 43, _, _, _, _, _⟩) (v := ?_) rfl (by kernel_rfl) (by kernel_rfl) (by kernel_rfl) (fun _ _ _ h => h) (Or.inl ⟨by kernel_rfl, ?_⟩) (by assumption) ?_
        rotate_left
        (intro wz hSw; (try dsimp only at hSw); go_simp; try with_reducible rfl)
        try simp only [Act.put, List.setIfInBounds_toArray, List.set_cons_zero, List.set_cons_succ]
        refine wpAnyH_take (i := 12) (oi := ⟨some 44, _, _, _, _, _⟩) (v := ?_) rfl (by kernel_rfl) (by kernel_rfl) (by kernel_rfl) (fun _ _ _ h => h) (Or.inl ⟨by kernel_rfl, ?_⟩) (by assumption) ?_
        rotate_left
        (intro wz hSw; (try dsimp only at hSw); go_simp; try with_reducible rfl)
        try simp only [Act.put, List.setIfInBounds_toArray, List.set_cons_zero, List.set_cons_succ]
        refine wpAnyH_take (i := 13) (oi := ⟨some 45, _, _, _, _, _⟩) (v := ?_) rfl (by kernel_rfl) (by kernel_rfl) (by kernel_rfl) (fun _ _ _ h => h) (Or.inl ⟨by kernel_rfl, ?_⟩) (by assumption) ?_
        rotate_left
        (intro wz hSw; (try dsimp only at hSw); go_simp; try with_reducible rfl)
        try simp only [Act.put, List.setIfInBounds_toArray, List.set_cons_zero, List.set_cons_succ]
        refine wpAnyH_take (i := 14) (oi := ⟨some 46, _, _, _, _, _⟩) (v := ?_) rfl (by kernel_rfl) (by kernel_rfl) (by kernel_rfl) (fun _ _ _ h => h) (Or.inl ⟨by kernel_rfl, ?_⟩) (by assumption) ?_
        rotate_left
        (intro wz hSw; (try dsimp only at hSw); go_simp; try with_reducible rfl)
        try simp only [Act.put, List.setIfInBounds_toArray, List.set_cons_zero, List.set_cons_succ]
        refine wpAnyH_ready (rs := [15]) (by kernel_rfl) (by simp) ?_
        refine AllReadyH.cons (o := ⟨some 47, _, _, _, _, _⟩) rfl (fun K hK => ?_) AllReadyH.nil
        go_simp
        (go_at_call 23; refine (refsameT_any a a Aea Aka nea nka cea cka Aec Akc nec nkc cec ckc _ (by have := HNA.out; omega) Ra.out Rc.out).mono ?_)
        rw [eqB_yes rfl]
        rintro e x4 ⟨rfl, hb⟩
        have Ra := Lib.hid (RdT.later Ra.out hb)
        have Rb := Lib.hid (RdT.later Rb.out hb)
        have Rc := Lib.hid (RdT.later Rc.out hb)
        have HKc := Lib.hid (HKc.out.later hb)
        clear hb
        refine hK.out _ _ ?_ (fun hHeld2 => ?_)
        · exact ⟨HKc.out.c0, HKc.out.c1, HKc.out.c2, HKc.out.c3, HKc.out.c4, HKc.out.c5⟩
        clear hK K hHeld
        have hHeld := hHeld2
        clear hHeld2
        try simp only [Act.put, List.setIfInBounds_toArray, List.set_cons_zero, List.set_cons_succ]
        refine wpAnyH_take (i := 16) (oi := ⟨some 48, _, _, _, _, _⟩) (v := ?_) rfl (by kernel_rfl) (by kernel_rfl) (by kernel_rfl) (fun _ _ _ h => h) (Or.inl ⟨by kernel_rfl, ?_⟩) (by assumption) ?_
        rotate_left
        (intro wz hSw; (try dsimp only at hSw); go_simp; try with_reducible rfl)
        try simp only [Act.put, List.setIfInBounds_toArray, List.set_cons_zero, List.set_cons_succ]
        refine wpAnyH_take (i := 17) (oi := ⟨some 4, _, _, _, _, _⟩) (v := ?_) rfl (by kernel_rfl) (by kernel_rfl) (by kernel_rfl) (fun _ _ _ h => h) (Or.inl ⟨by kernel_rfl, ?_⟩) (by assumption) ?_
        rotate_left
        (intro wz hSw; (try dsimp only at hSw); go_simp; try with_reducible rfl)
        try simp only [Act.put, List.setIfInBounds_toArray, List.set_cons_zero, List.set_cons_succ]
        refine wpAnyH_done (by kernel_rfl) ?_ _
        go_wp2_with fail
        go_ret
        exact ⟨rfl, HKc.out.below⟩
set_option maxRecDepth 100000 in
theorem lifted (os : Os) (started : os.Started) (H : Type) (enc : TypeId × Value → H) :
    ReturnsInHanded {} Try.checked os 8 .any (Rows.treeSameSpec.pre6 enc Try.prog Try.f8 Rows.treeSameRow.domain false) (Rows.treeSameSpec.post enc Try.prog Try.f8 false true false false) := by
  refine returnsInHanded_of_change_sized (C := Try.checked) own started (by kernel_rfl) Try.func8
    (ChangeSpec.witness6 (enc := enc) (C := Try.checked) false ⟨#[], #[.agg #[.slice none 0 0, .slice none 0 0], .agg #[.slice none 0 0, .slice none 0 0]], []⟩ 8 (by kernel_rfl) (by kernel_rfl) (by kernel_rfl) (by kernel_rfl)) ?_
  intro W base args ds gs before hval0 hW _ hsz0 _
  have hval : ∀ (j : Nat) t v, Try.f8.params[j]? = some t → args[j]? = some v → Value.okWide Try.prog W .any base t v := hval0
  have hW' := hW
  obtain ⟨p, q, hA0, hV, rfl, hfz, hnd⟩ := hW
  have hA : DataW.TrodAll enc Try.prog W 0 (fun _ => true) true Try.f8.params.toList args.toList ds p := hA0
  rw [Try.params8] at hA hval
  obtain ⟨v0, v1, d0, d1, p0, p1, rfl, rfl, rfl, h0, h1⟩ := trodAll_two hA
  obtain ⟨rfl, rfl⟩ := trodVars_none hV
  have hsz : (DataW.weightsEach Try.prog (25 :: 25 :: _) (d0 :: d1 :: _)).all (· ≤ reachBytes) = true := hsz0
  obtain ⟨hw0, hsz⟩ := Tr.weights_head hsz
  obtain ⟨hw1, hsz⟩ := Tr.weights_head hsz
  obtain ⟨t0, ae0, ak0, ne0, nk0, ce0, ck0, rfl, hr0, hl0⟩ := Tr.treeV_of_trod (hval 0 25 v0 rfl rfl) h0 hw0
  obtain ⟨t1, ae1, ak1, ne1, nk1, ce1, ck1, rfl, hr1, hl1⟩ := Tr.treeV_of_trod (hval 1 25 v1 rfl rfl) h1 hw1
  refine (walk_any t0 ae0 ak0 ne0 nk0 ce0 ck0 t1 ae1 ak1 ne1 nk1 ce1 ck1 W hr0 hl0 hr1 hl1).mono fun e W' ⟨he, hb⟩ => ?_
  subst he
  exact ⟨_, rfl, law_post hW' (by kernel_rfl) rfl rfl rfl hb⟩
theorem proved : Rows.TreeSameSaid :=
  OpenClaim.holds_of_wide 8 Try.f8 rfl rfl rfl rfl rfl rfl rfl ⟨rfl, rfl, rfl, rfl, rfl⟩ rfl rfl rfl rfl rfl (by kernel_rfl) Try.func8 (by kernel_rfl)
    (of_decide_eq_true (by kernel_rfl)) (by unfold Func.isWrapper; first | (rw [if_pos (by decide +kernel)]; kernel_rfl) | (rw [if_neg (by decide +kernel)]; exact ⟨rfl, rfl⟩))
    (fun os started H enc _ => lifted os started H enc)
#print axioms proved
end Go.Proofs.Ytbfcbfadfnaebaa.lawTreeSame
