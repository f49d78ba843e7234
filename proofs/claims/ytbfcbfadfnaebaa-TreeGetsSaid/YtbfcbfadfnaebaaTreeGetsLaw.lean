/- TreeGets answers true for every tree, all keys. No condition. -/
import Derived.Test.YtbfcbfadfnaebaaTreeLaw
import Derived.Test.YtbfcbfadfnaebaaTreeRefRight
import Derived.Test.YtbfcbfadfnaebaaTreeRefGet
namespace Go.Proofs.Ytbfcbfadfnaebaa.lawTreeGets
open Go.ChangeShapes Go.WideShapes Go.ChangeAt Go.RowKit Sp Rw Tr
set_option maxRecDepth 100000 in
set_option maxHeartbeats 4000000 in
theorem walk_any (t : T) (Aet Akt : Option Addr) (net nkt cet ckt : Nat) (l : List ByteArray) (nl : Nat) (Al : Option Addr) (cl : Nat) (w : World) (hrt : RdT w w.heap.size t ⟨Aet, net, cet⟩ ⟨Akt, nkt, ckt⟩) (hlt : LenT reachBytes t) (hnl : l.length = nl) (hsl : Rd w w.heap.size 1 Al nl cl (Tr.strs l)) :
    Calls Try.prog 5 #[.agg #[.slice Aet net cet, .slice Akt nkt ckt], .slice Al nl cl] w fun e w' => e = .returned (.bool true) ∧ Below w.heap.size w w' := by
  have HKc : Hid (Kept [] w w) := Kept.nil w
  have Rt := Lib.hid hrt
  have HLt := Lib.hid hlt
  clear hrt hlt
  have Rl := Lib.hid hsl
  have HNl := Lib.hid hnl
  clear hsl hnl
  obtain ⟨g0, hg0⟩ : ∃ z, z = w.heap.size := ⟨_, rfl⟩
  obtain ⟨B0, hB0⟩ : ∃ W, W = w.alloc (.cells #[.slice Aet net cet, .slice Akt nkt ckt] 25) := ⟨_, rfl⟩
  have hb : Below w.heap.size w B0 := by rw [hB0]; exact Dt.box_below _ _ _
  have e0 : B0.cell? ⟨g0, 0, none⟩ = some (.slice Aet net cet) := by rw [hB0, hg0]; go_simp
  have e1 : B0.cell? ⟨g0, 1, none⟩ = some (.slice Akt nkt ckt) := by rw [hB0, hg0]; go_simp
  have Rt := Lib.hid (RdT.later Rt.out hb)
  have Rl := Lib.hid (Rl.out.later hb)
  have HKc := Lib.hid (((HKc.out.later hb).cons_of e1).cons_of e0)
  have HB0 := Lib.hid hB0
  have Hg0 := Lib.hid hg0
  clear hb e0 e1 hB0 hg0
  have s0 := HKc.out.c0
  have s1 := HKc.out.c1
  go_enter Try.func5, Try.ntmps5
  go_wp2_with fail
  rw [← Hg0.out, ← HB0.out]
  refine (awake_any B0).mono ?_
  rintro e u1 ⟨rfl, hb⟩
  clear s0 s1
  have Rt := Lib.hid (RdT.later Rt.out hb)
  have Rl := Lib.hid (Rl.out.later hb)
  have HKc := Lib.hid (HKc.out.later hb)
  clear hb
  have s0 := HKc.out.c0
  have s1 := HKc.out.c1
  go_wp2_with fail
  refine (small_to t Aet Akt net nkt cet ckt 60 60 rfl u1 (by omega) HLt.out Rt.out).mono ?_
  rintro e u2 ⟨sbt, rfl, hsmt, hb⟩
  clear s0 s1
  have Rt := Lib.hid (RdT.later Rt.out hb)
  have Rl := Lib.hid (Rl.out.later hb)
  have HKc := Lib.hid (HKc.out.later hb)
  clear hb
  have s0 := HKc.out.c0
  have s1 := HKc.out.c1
  cases sbt with
  | false =>
    go_wp2_with fail
    refine (awake_any _).mono ?_
    rintro e u3 ⟨rfl, hb⟩
    clear s0 s1
    have Rt := Lib.hid (RdT.later Rt.out hb)
    have Rl := Lib.hid (Rl.out.later hb)
    have HKc := Lib.hid (HKc.out.later hb)
    clear hb
    have s0 := HKc.out.c0
    have s1 := HKc.out.c1
    go_wp2_with fail
    go_ret
    exact ⟨rfl, HKc.out.below⟩
  | true =>
    have HN60 := Lib.hid (hsmt rfl)
    clear hsmt
    obtain ⟨fw, hfw⟩ : ∃ z, decide (nl ≤ 20) = z := ⟨_, rfl⟩
    go_wp2_with fail
    refine (few_any l nl Al cl u2 fw hfw HNl.out).mono ?_
    rintro e u3 ⟨rfl, rfl⟩
    cases fw with
    | false =>
      clear hfw
      go_wp2_with fail
      refine (awake_any _).mono ?_
      rintro e u4 ⟨rfl, hb⟩
      clear s0 s1
      have Rt := Lib.hid (RdT.later Rt.out hb)
      have Rl := Lib.hid (Rl.out.later hb)
      have HKc := Lib.hid (HKc.out.later hb)
      clear hb
      have s0 := HKc.out.c0
      have s1 := HKc.out.c1
      go_wp2_with fail
      go_ret
      exact ⟨rfl, HKc.out.below⟩
    | true =>
      have hn20 : nl ≤ 20 := of_decide_eq_true hfw
      clear hfw
      obtain ⟨z, hz⟩ : ∃ z, rightB 5 t = z := ⟨_, rfl⟩
      obtain ⟨x, hx⟩ : ∃ x, (if rightB 5 t = true then getT t l else none_) = x := ⟨_, rfl⟩
      have hga := get_any t Aet Akt net nkt cet ckt u3 l Al nl cl HNl.out (by omega) Rl.out HLt.out (by have := HN60.out; omega) Rt.out
      rw [hx] at hga
      have HGA := Lib.hid hga
      clear hga
      go_wp2_with fail
      refine (HGA.out).mono ?_
      rintro e u4 ⟨Aex, nex, cex, Akx, nkx, ckx, rfl, hro, hb⟩
      have Rx := Lib.hid hro.rd
      clear hro HGA
      clear s0 s1
      have Rt := Lib.hid (RdT.later Rt.out hb)
      have Rl := Lib.hid (Rl.out.later hb)
      have HKc := Lib.hid (HKc.out.later hb)
      clear hb
      have s0 := HKc.out.c0
      have s1 := HKc.out.c1
      obtain ⟨gx, hgx⟩ : ∃ z, z = u4.heap.size := ⟨_, rfl⟩
      obtain ⟨wx, hwx⟩ : ∃ W, W = u4.alloc (.cells #[.slice Aex nex cex, .slice Akx nkx ckx] 25) := ⟨_, rfl⟩
      have hb : Below u4.heap.size u4 wx := by rw [hwx]; exact Dt.box_below _ _ _
      have e0 : wx.cell? ⟨gx, 0, none⟩ = some (.slice Aex nex cex) := by rw [hwx, hgx]; go_simp
      have e1 : wx.cell? ⟨gx, 1, none⟩ = some (.slice Akx nkx ckx) := by rw [hwx, hgx]; go_simp
      clear s0 s1
      have Rt := Lib.hid (RdT.later Rt.out hb)
      have Rl := Lib.hid (Rl.out.later hb)
      have Rx := Lib.hid (RdT.later Rx.out hb)
      have HKc := Lib.hid (HKc.out.later hb)
      have HKc := Lib.hid ((HKc.out.cons_of e1).cons_of e0)
      have Hwx := Lib.hid hwx
      have Hgx := Lib.hid hgx
      have a0 : (u4.alloc (.cells #[.slice Aex nex cex, .slice Akx nkx ckx] 25)).cell? ⟨g0, 0, none⟩ = some (.slice Aet net cet) := by rw [← hwx]; exact HKc.out.c2
      have a1 : (u4.alloc (.cells #[.slice Aex nex cex, .slice Akx nkx ckx] 25)).cell? ⟨g0, 1, none⟩ = some (.slice Akt nkt ckt) := by rw [← hwx]; exact HKc.out.c3
      clear hb e0 e1 hwx hgx
      have s0 := HKc.out.c0
      have s1 := HKc.out.c1
      have s2 := HKc.out.c2
      have s3 := HKc.out.c3
      have HRF := Lib.hid (refrightT_any t Aet Akt net nkt cet ckt wx HLt.out Rt.out)
      rw [hz] at HRF
      cases z with
      | false =>
        rw [hz, if_neg (by simp)] at hx
        subst hx
        have HZ := Lib.hid hz
        clear hz
        go_wp2_with fail
        rw [← Hgx.out, ← Hwx.out]
        refine (HRF.out).mono ?_
        rintro e u5 ⟨rfl, hb⟩
        clear a0 a1
        clear s0 s1 s2 s3
        have Rt := Lib.hid (RdT.later Rt.out hb)
        have Rl := Lib.hid (Rl.out.later hb)
        have Rx := Lib.hid (RdT.later Rx.out hb)
        have HKc := Lib.hid (HKc.out.later hb)
        clear hb
        have s0 := HKc.out.c0
        have s1 := HKc.out.c1
        have s2 := HKc.out.c2
        have s3 := HKc.out.c3
        have HZ0 := Lib.hid (decide_eq_true (rd_none Rx.out))
        go_wp2_with fail
        refine (empty_any Aex Akx nex nkx cex ckx u5).mono ?_
        rw [HZ0.out]
        rintro e u6 ⟨rfl, hb⟩
        clear s0 s1 s2 s3
        have Rt := Lib.hid (RdT.later Rt.out hb)
        have Rl := Lib.hid (Rl.out.later hb)
        have Rx := Lib.hid (RdT.later Rx.out hb)
        have HKc := Lib.hid (HKc.out.later hb)
        clear hb
        have s0 := HKc.out.c0
        have s1 := HKc.out.c1
        have s2 := HKc.out.c2
        have s3 := HKc.out.c3
        go_wp2_with fail
        go_ret
        exact ⟨rfl, HKc.out.below⟩
      | true =>
        rw [hz, if_pos rfl] at hx
        subst hx
        have HZ := Lib.hid hz
        clear hz
        go_wp2_with fail
        rw [← Hgx.out, ← Hwx.out]
        refine (HRF.out).mono ?_
        rintro e u5 ⟨rfl, hb⟩
        clear a0 a1
        clear s0 s1 s2 s3
        have Rt := Lib.hid (RdT.later Rt.out hb)
        have Rl := Lib.hid (Rl.out.later hb)
        have Rx := Lib.hid (RdT.later Rx.out hb)
        have HKc := Lib.hid (HKc.out.later hb)
        clear hb
        have s0 := HKc.out.c0
        have s1 := HKc.out.c1
        have s2 := HKc.out.c2
        have s3 := HKc.out.c3
        go_wp2_with fail
        have Rt := Lib.hid (RdT.later Rt.out (Below.refl _ u5).drew)
        have Rx := Lib.hid (RdT.later Rx.out (Below.refl _ u5).drew)
        have Rl := Lib.hid (Rl.out.later (Below.refl _ u5).drew)
        have HKc := Lib.hid HKc.out.drew
        refine wp_region_held_drew (S := fun W => W.cell? ⟨gx, 0, none⟩ = some (.slice Aex nex cex) ∧ W.cell? ⟨gx, 1, none⟩ = some (.slice Akx nkx ckx) ∧ W.cell? ⟨g0, 0, none⟩ = some (.slice Aet net cet) ∧ W.cell? ⟨g0, 1, none⟩ = some (.slice Akt nkt ckt)) (by kernel_rfl) (by go_keep) (fun hHeld => ?_)
        refine wpAnyH_take (i := 0) (oi := ⟨some 27, _, _, _, _, _⟩) (v := ?_) rfl (by kernel_rfl) (by kernel_rfl) (by kernel_rfl) (fun _ _ _ h => h) (Or.inl ⟨by kernel_rfl, ?_⟩) (by assumption) ?_
        rotate_left
        (intro wz hSw; (try dsimp only at hSw); go_simp; try with_reducible rfl)
        try simp only [Act.put, List.setIfInBounds_toArray, List.set_cons_zero, List.set_cons_succ]
        refine wpAnyH_take (i := 1) (oi := ⟨some 28, _, _, _, _, _⟩) (v := ?_) rfl (by kernel_rfl) (by kernel_rfl) (by kernel_rfl) (fun _ _ _ h => h) (Or.inl ⟨by kernel_rfl, ?_⟩) (by assumption) ?_
        rotate_left
        (intro wz hSw; (try dsimp only at hSw); go_simp; try with_reducible rfl)
        try simp only [Act.put, List.setIfInBounds_toArray, List.set_cons_zero, List.set_cons_succ]
        refine wpAnyH_take (i := 2) (oi := ⟨some 29, _, _, _, _, _⟩) (v := ?_) rfl (by kernel_rfl) (by kernel_rfl) (by kernel_rfl) (fun _ _ _ h => h) (Or.inl ⟨by kernel_rfl, ?_⟩) (by assumption) ?_
        rotate_left
        (intro wz hSw; (try dsimp only at hSw); go_simp; try with_reducible rfl)
        try simp only [Act.put, List.setIfInBounds_toArray, List.set_cons_zero, List.set_cons_succ]
        refine wpAnyH_ready (rs := [3]) (by kernel_rfl) (by simp) ?_
        refine AllReadyH.cons (o := ⟨some 30, _, _, _, _, _⟩) rfl (fun K hK => ?_) AllReadyH.nil
        go_simp
        (go_at_call 24; refine (refget_any 4 t Aet Akt net nkt cet ckt _ l Al nl cl HNl.out (by omega) Rl.out (rightB_iff.1 HZ.out) (by have := HN60.out; omega) Rt.out).mono ?_)
        rintro e x1 ⟨Aey, ney, cey, Aky, nky, cky, rfl, hro, hb⟩
        have Ry := Lib.hid hro.rd
        have Rt := Lib.hid (RdT.later Rt.out hb)
        have Rx := Lib.hid (RdT.later Rx.out hb)
        have Rl := Lib.hid (Rl.out.later hb)
        have HKc := Lib.hid (HKc.out.later hb)
        clear hb
        clear hro
        refine hK.out _ _ ?_ (fun hHeld2 => ?_)
        · exact ⟨HKc.out.c0, HKc.out.c1, HKc.out.c2, HKc.out.c3⟩
        clear hK K hHeld
        have hHeld := hHeld2
        clear hHeld2
        try simp only [Act.put, List.setIfInBounds_toArray, List.set_cons_zero, List.set_cons_succ]
        refine wpAnyH_ready (rs := [4]) (by kernel_rfl) (by simp) ?_
        refine AllReadyH.cons (o := ⟨some 31, _, _, _, _, _⟩) rfl (fun K hK => ?_) AllReadyH.nil
        go_simp
        (go_at_call 23; refine (refsameT_any (getT t l) (getT t l) Aex Akx nex nkx cex ckx Aey Aky ney nky cey cky _ (by have h1 := nodes_get t l; have h2 := HN60.out; omega) Rx.out Ry.out).mono ?_)
        rw [eqB_yes rfl]
        rintro e x2 ⟨rfl, hb⟩
        have Rt := Lib.hid (RdT.later Rt.out hb)
        have Rx := Lib.hid (RdT.later Rx.out hb)
        have Rl := Lib.hid (Rl.out.later hb)
        have HKc := Lib.hid (HKc.out.later hb)
        clear hb
        refine hK.out _ _ ?_ (fun hHeld2 => ?_)
        · exact ⟨HKc.out.c0, HKc.out.c1, HKc.out.c2, HKc.out.c3⟩
        clear hK K hHeld
        have hHeld := hHeld2
        clear hHeld2
        try simp only [Act.put, List.setIfInBounds_toArray, List.set_cons_zero, List.set_cons_succ]
        refine wpAnyH_take (i := 5) (oi := ⟨some 4, _, _, _, _, _⟩) (v := ?_) rfl (by kernel_rfl) (by kernel_rfl) (by kernel_rfl) (fun _ _ _ h => h) (Or.inl ⟨by kernel_rfl, ?_⟩) (by assumption) ?_
        rotate_left
        (intro wz hSw; (try dsimp only at hSw); go_simp; try with_reducible rfl)
        try simp only [Act.put, List.setIfInBounds_toArray, List.set_cons_zero, List.set_cons_succ]
        refine wpAnyH_done (by kernel_rfl) ?_ _
        go_wp2_with fail
        go_ret
        exact ⟨rfl, HKc.out.below⟩
set_option maxRecDepth 100000 in
theorem lifted (os : Os) (started : os.Started) (H : Type) (enc : TypeId × Value → H) :
    ReturnsInHanded {} Try.checked os 5 .any (Rows.treeGetsSpec.pre6 enc Try.prog Try.f5 Rows.treeGetsRow.domain false) (Rows.treeGetsSpec.post enc Try.prog Try.f5 false true false false) := by
  refine returnsInHanded_of_change_sized (C := Try.checked) own started (by kernel_rfl) Try.func5
    (ChangeSpec.witness6 (enc := enc) (C := Try.checked) false ⟨#[], #[.agg #[.slice none 0 0, .slice none 0 0], .slice none 0 0], []⟩ 8 (by kernel_rfl) (by kernel_rfl) (by kernel_rfl) (by kernel_rfl)) ?_
  intro W base args ds gs before hval0 hW _ hsz0 _
  have hval : ∀ (j : Nat) t v, Try.f5.params[j]? = some t → args[j]? = some v → Value.okWide Try.prog W .any base t v := hval0
  have hW' := hW
  obtain ⟨p, q, hA0, hV, rfl, hfz, hnd⟩ := hW
  have hA : DataW.TrodAll enc Try.prog W 0 (fun _ => true) true Try.f5.params.toList args.toList ds p := hA0
  rw [Try.params5] at hA hval
  obtain ⟨v0, v1, d0, d1, p0, p1, rfl, rfl, rfl, h0, h1⟩ := trodAll_two hA
  obtain ⟨rfl, rfl⟩ := trodVars_none hV
  have hsz : (DataW.weightsEach Try.prog (25 :: 39 :: _) (d0 :: d1 :: _)).all (· ≤ reachBytes) = true := hsz0
  obtain ⟨hw0, hsz⟩ := Tr.weights_head hsz
  obtain ⟨hw1, hsz⟩ := Tr.weights_head hsz
  obtain ⟨t0, ae0, ak0, ne0, nk0, ce0, ck0, rfl, hr0, hl0⟩ := Tr.treeV_of_trod (hval 0 25 v0 rfl rfl) h0 hw0
  obtain ⟨a1, len1, cap1, rfl⟩ := okWide_slice Try.underlying39 (hval 1 39 v1 rfl rfl)
  obtain ⟨fuel1, hf1⟩ := h1
  obtain ⟨l1, hll1, hr1, _⟩ := Tr.strs_of_trod hf1
  refine (walk_any t0 ae0 ak0 ne0 nk0 ce0 ck0 l1 len1 a1 cap1 W hr0 hl0 hll1 hr1).mono fun e W' ⟨he, hb⟩ => ?_
  subst he
  exact ⟨_, rfl, law_post hW' (by kernel_rfl) rfl rfl rfl hb⟩
theorem proved : Rows.TreeGetsSaid :=
  OpenClaim.holds_of_wide 5 Try.f5 rfl rfl rfl rfl rfl rfl rfl ⟨rfl, rfl, rfl, rfl, rfl⟩ rfl rfl rfl rfl rfl (by kernel_rfl) Try.func5 (by kernel_rfl)
    (of_decide_eq_true (by kernel_rfl)) (by unfold Func.isWrapper; first | (rw [if_pos (by decide +kernel)]; kernel_rfl) | (rw [if_neg (by decide +kernel)]; exact ⟨rfl, rfl⟩))
    (fun os started H enc _ => lifted os started H enc)
#print axioms proved
end Go.Proofs.Ytbfcbfadfnaebaa.lawTreeGets
