/- FlagCheck: a law, walked, and proved. -/
import Derived.Test.YtochokcbjlknbaaG00
import Derived.Test.YtochokcbjlknbaaG122220
import Derived.Test.YtochokcbjlknbaaG12220
import Derived.Test.YtochokcbjlknbaaG1220
open Go.ChangeShapes Go.WideShapes Go.ChangeAt Go.RowKit
namespace Go.Proofs.Ytochokcbjlknbaa
namespace lawFlagCheck
open Tr Cx Cs Sp Rw Classical
theorem boxL (w : World) (Ae Ak : Option Addr) (ne nk ce ck : Nat) (a n : Int) : ∃ (W : World) (p q : Nat), Hid (W = ((w.alloc (.cells #[.slice Ae ne ce, .slice Ak nk ck] 25)).alloc (.cells #[.int .i64 a, .int .i64 n] 27))) ∧ Hid (p = w.heap.size) ∧ Hid (q = p + 1) ∧ Hid (Kept [(⟨p, 0, none⟩, .slice Ae ne ce), (⟨p, 1, none⟩, .slice Ak nk ck), (⟨q, 0, none⟩, .int .i64 a), (⟨q, 1, none⟩, .int .i64 n)] w W) := by
 refine ⟨_, _, _, rfl, rfl, rfl, ?_⟩
 have h0 := Kept.nil_of (show Below w.heap.size w (((w.alloc (.cells #[.slice Ae ne ce, .slice Ak nk ck] 25)).alloc (.cells #[.int .i64 a, .int .i64 n] 27))) from ((Below.refl _ _).alloc (Nat.le_refl _) _).alloc (by simp) _)
 refine ((((h0).cons_of ?_).cons_of ?_).cons_of ?_).cons_of ?_ <;> go_simp
set_option maxRecDepth 100000 in
set_option maxHeartbeats 4000000 in
theorem walk_any (t : T) (Ae Ak : Option Addr) (ne nk ce ck : Nat) (a n : Int)  (w : World) (hr : RdT w w.heap.size t ⟨Ae, ne, ce⟩ ⟨Ak, nk, ck⟩) (hl : LenT reachBytes t)  :
  Calls Try.prog 3 #[.agg #[.slice Ae ne ce, .slice Ak nk ck], .agg #[.int .i64 a, .int .i64 n]] w fun e w' => e = .returned (.bool true) ∧ Below w.heap.size w w' := by
 obtain ⟨W, p, q, HW, HP, HQ, HKc⟩ := boxL w Ae Ak ne nk ce ck a n
 have R := Lib.hid (RdT.later hr HKc.out.below)
 have L := Lib.hid hl
 clear hr hl
 have c0 := HKc.out.c0
 have c1 := HKc.out.c1
 have c2 := HKc.out.c2
 have c3 := HKc.out.c3
 go_enter Try.func3, Try.ntmps3
 go_wp2_with fail
 rw [← HW.out, ← HP.out]
 try rw [← HQ.out]
 refine (awake10 W).mono ?_
 rintro e v1 ⟨rfl, hb9⟩
 have HKc := Lib.hid (HKc.out.later hb9)
 have R := Lib.hid (RdT.later R.out hb9)
 clear hb9
 clear c0 c1 c2 c3
 have c0 := HKc.out.c0
 have c1 := HKc.out.c1
 have c2 := HKc.out.c2
 have c3 := HKc.out.c3
 go_wp2_with fail
 refine (small_tree t Ae Ak ne nk ce ck v1 L.out R.out).mono ?_
 rintro e v2 ⟨b9, rfl, hsm, hb9⟩
 have HKc := Lib.hid (HKc.out.later hb9)
 have R := Lib.hid (RdT.later R.out hb9)
 clear hb9
 clear c0 c1 c2 c3
 cases b9 with
 | false =>
  clear hsm
  go_wp2_with fail
  refine (awake10 _).mono ?_
  rintro e v99 ⟨rfl, hb9⟩
  have HKc := Lib.hid (HKc.out.later hb9)
  clear hb9
  go_wp2_with fail
  go_ret
  exact ⟨by first | rfl | simp, HKc.out.below⟩
 | true =>
  have N : Hid (nodes t ≤ 40) := hsm rfl
  clear hsm
  obtain ⟨y, hy9⟩ : ∃ y, checkB t a n = y := ⟨_, rfl⟩
  have HY := Lib.hid hy9
  clear hy9
  have c0 := HKc.out.c0
  have c1 := HKc.out.c1
  have c2 := HKc.out.c2
  have c3 := HKc.out.c3
  go_wp2_with fail
  clear c0 c1 c2 c3
  cases y with
  | false =>
   refine wp_region_held_drew (S := fun W => W.cell? ⟨p, 0, none⟩ = some (.slice Ae ne ce) ∧ W.cell? ⟨p, 1, none⟩ = some (.slice Ak nk ck) ∧ W.cell? ⟨q, 0, none⟩ = some (.int .i64 a) ∧ W.cell? ⟨q, 1, none⟩ = some (.int .i64 n)) (by kernel_rfl) (by have h9 := HKc.out.drew; exact ⟨h9.c0, h9.c1, h9.c2, h9.c3⟩) (fun hHeld => ?_)
   obtain ⟨v3, hv3⟩ : ∃ v, v = v2.drew := ⟨_, rfl⟩
   have hb9 : Below v2.heap.size v2 v3 := by rw [hv3]; exact (Below.refl _ _).drew
   have HKc := Lib.hid (HKc.out.later hb9)
   have R := Lib.hid (RdT.later R.out hb9)
   clear hb9
   rw [← hv3] at hHeld ⊢
   clear hv3
   refine Tk 0 13 ?_
   refine Tk 1 14 ?_
   refine Tk 4 17 ?_
   refine Tk 5 18 ?_
   refine wpAnyH_ready (rs := [2]) (by kernel_rfl) (by simp) ?_
   refine AllReadyH.cons (o := ⟨some 15, _, _, _, _, _⟩) rfl (fun K hK => ?_) AllReadyH.nil
   go_simp
   (go_at_call 9; refine (fcheck_any t Ae Ak ne nk ce ck a n v3 false HY.out L.out (by have := N.out; omega) R.out).mono ?_)
   rintro e v4 ⟨rfl, hb9⟩
   have HKc := Lib.hid (HKc.out.later hb9)
   have R := Lib.hid (RdT.later R.out hb9)
   clear hb9
   refine hK.out _ _ ?_ (fun hHeld2 => ?_)
   ·exact ⟨HKc.out.c0, HKc.out.c1, HKc.out.c2, HKc.out.c3⟩
   clear hK K hHeld
   have hHeld := hHeld2
   clear hHeld2
   try simp only [Act.put, List.setIfInBounds_toArray, List.set_cons_zero, List.set_cons_succ]
   refine Tk 3 16 ?_
   refine wpAnyH_ready (rs := [6]) (by kernel_rfl) (by simp) ?_
   refine AllReadyH.cons (o := ⟨some 19, _, _, _, _, _⟩) rfl (fun K hK => ?_) AllReadyH.nil
   go_simp
   (go_at_call 10; refine (refcheck_any t Ae Ak ne nk ce ck a n v4 false HY.out L.out (by have := N.out; omega) R.out).mono ?_)
   rintro e v5 ⟨rfl, hb9⟩
   have HKc := Lib.hid (HKc.out.later hb9)
   have R := Lib.hid (RdT.later R.out hb9)
   clear hb9
   refine hK.out _ _ ?_ (fun hHeld2 => ?_)
   ·exact ⟨HKc.out.c0, HKc.out.c1, HKc.out.c2, HKc.out.c3⟩
   clear hK K hHeld
   have hHeld := hHeld2
   clear hHeld2
   try simp only [Act.put, List.setIfInBounds_toArray, List.set_cons_zero, List.set_cons_succ]
   refine Tk 7 20 ?_
   refine Tk 8 21 ?_
   refine Tk 9 22 ?_
   refine Tk 10 23 ?_
   refine Tk 13 26 ?_
   refine Tk 14 27 ?_
   refine wpAnyH_ready (rs := [11]) (by kernel_rfl) (by simp) ?_
   refine AllReadyH.cons (o := ⟨some 24, _, _, _, _, _⟩) rfl (fun K hK => ?_) AllReadyH.nil
   go_simp
   (go_at_call 9; refine (fcheck_any t Ae Ak ne nk ce ck a n v5 false HY.out L.out (by have := N.out; omega) R.out).mono ?_)
   rintro e v6 ⟨rfl, hb9⟩
   have HKc := Lib.hid (HKc.out.later hb9)
   have R := Lib.hid (RdT.later R.out hb9)
   clear hb9
   refine hK.out _ _ ?_ (fun hHeld2 => ?_)
   ·exact ⟨HKc.out.c0, HKc.out.c1, HKc.out.c2, HKc.out.c3⟩
   clear hK K hHeld
   have hHeld := hHeld2
   clear hHeld2
   try simp only [Act.put, List.setIfInBounds_toArray, List.set_cons_zero, List.set_cons_succ]
   refine Tk 12 25 ?_
   refine wpAnyH_ready (rs := [15]) (by kernel_rfl) (by simp) ?_
   refine AllReadyH.cons (o := ⟨some 28, _, _, _, _, _⟩) rfl (fun K hK => ?_) AllReadyH.nil
   go_simp
   (go_at_call 10; refine (refcheck_any t Ae Ak ne nk ce ck a n v6 false HY.out L.out (by have := N.out; omega) R.out).mono ?_)
   rintro e v7 ⟨rfl, hb9⟩
   have HKc := Lib.hid (HKc.out.later hb9)
   have R := Lib.hid (RdT.later R.out hb9)
   clear hb9
   refine hK.out _ _ ?_ (fun hHeld2 => ?_)
   ·exact ⟨HKc.out.c0, HKc.out.c1, HKc.out.c2, HKc.out.c3⟩
   clear hK K hHeld
   have hHeld := hHeld2
   clear hHeld2
   try simp only [Act.put, List.setIfInBounds_toArray, List.set_cons_zero, List.set_cons_succ]
   refine Tk 16 29 ?_
   refine Tk 17 30 ?_
   refine Tk 18 4 ?_
   refine wpAnyH_done (by kernel_rfl) ?_ _
   clear hHeld
   go_wp2_with fail
   go_ret
   exact ⟨by first | rfl | simp, HKc.out.below⟩
  | true =>
   refine wp_region_held_drew (S := fun W => W.cell? ⟨p, 0, none⟩ = some (.slice Ae ne ce) ∧ W.cell? ⟨p, 1, none⟩ = some (.slice Ak nk ck) ∧ W.cell? ⟨q, 0, none⟩ = some (.int .i64 a) ∧ W.cell? ⟨q, 1, none⟩ = some (.int .i64 n)) (by kernel_rfl) (by have h9 := HKc.out.drew; exact ⟨h9.c0, h9.c1, h9.c2, h9.c3⟩) (fun hHeld => ?_)
   obtain ⟨v3, hv3⟩ : ∃ v, v = v2.drew := ⟨_, rfl⟩
   have hb9 : Below v2.heap.size v2 v3 := by rw [hv3]; exact (Below.refl _ _).drew
   have HKc := Lib.hid (HKc.out.later hb9)
   have R := Lib.hid (RdT.later R.out hb9)
   clear hb9
   rw [← hv3] at hHeld ⊢
   clear hv3
   refine Tk 0 13 ?_
   refine Tk 1 14 ?_
   refine Tk 4 17 ?_
   refine Tk 5 18 ?_
   refine wpAnyH_ready (rs := [2]) (by kernel_rfl) (by simp) ?_
   refine AllReadyH.cons (o := ⟨some 15, _, _, _, _, _⟩) rfl (fun K hK => ?_) AllReadyH.nil
   go_simp
   (go_at_call 9; refine (fcheck_any t Ae Ak ne nk ce ck a n v3 true HY.out L.out (by have := N.out; omega) R.out).mono ?_)
   rintro e v4 ⟨rfl, hb9⟩
   have HKc := Lib.hid (HKc.out.later hb9)
   have R := Lib.hid (RdT.later R.out hb9)
   clear hb9
   refine hK.out _ _ ?_ (fun hHeld2 => ?_)
   ·exact ⟨HKc.out.c0, HKc.out.c1, HKc.out.c2, HKc.out.c3⟩
   clear hK K hHeld
   have hHeld := hHeld2
   clear hHeld2
   refine Tk 3 16 ?_
   refine wpAnyH_ready (rs := [6]) (by kernel_rfl) (by simp) ?_
   refine AllReadyH.cons (o := ⟨some 19, _, _, _, _, _⟩) rfl (fun K hK => ?_) AllReadyH.nil
   go_simp
   (go_at_call 10; refine (refcheck_any t Ae Ak ne nk ce ck a n v4 true HY.out L.out (by have := N.out; omega) R.out).mono ?_)
   rintro e v5 ⟨rfl, hb9⟩
   have HKc := Lib.hid (HKc.out.later hb9)
   have R := Lib.hid (RdT.later R.out hb9)
   clear hb9
   refine hK.out _ _ ?_ (fun hHeld2 => ?_)
   ·exact ⟨HKc.out.c0, HKc.out.c1, HKc.out.c2, HKc.out.c3⟩
   clear hK K hHeld
   have hHeld := hHeld2
   clear hHeld2
   try simp only [Act.put, List.setIfInBounds_toArray, List.set_cons_zero, List.set_cons_succ]
   refine Tk 7 20 ?_
   refine Tk 8 21 ?_
   refine Tk 9 22 ?_
   refine Tk 10 23 ?_
   refine Tk 13 26 ?_
   refine Tk 14 27 ?_
   refine wpAnyH_ready (rs := [11]) (by kernel_rfl) (by simp) ?_
   refine AllReadyH.cons (o := ⟨some 24, _, _, _, _, _⟩) rfl (fun K hK => ?_) AllReadyH.nil
   go_simp
   (go_at_call 9; refine (fcheck_any t Ae Ak ne nk ce ck a n v5 true HY.out L.out (by have := N.out; omega) R.out).mono ?_)
   rintro e v6 ⟨rfl, hb9⟩
   have HKc := Lib.hid (HKc.out.later hb9)
   have R := Lib.hid (RdT.later R.out hb9)
   clear hb9
   refine hK.out _ _ ?_ (fun hHeld2 => ?_)
   ·exact ⟨HKc.out.c0, HKc.out.c1, HKc.out.c2, HKc.out.c3⟩
   clear hK K hHeld
   have hHeld := hHeld2
   clear hHeld2
   refine Tk 12 25 ?_
   refine wpAnyH_ready (rs := [15]) (by kernel_rfl) (by simp) ?_
   refine AllReadyH.cons (o := ⟨some 28, _, _, _, _, _⟩) rfl (fun K hK => ?_) AllReadyH.nil
   go_simp
   (go_at_call 10; refine (refcheck_any t Ae Ak ne nk ce ck a n v6 true HY.out L.out (by have := N.out; omega) R.out).mono ?_)
   rintro e v7 ⟨rfl, hb9⟩
   have HKc := Lib.hid (HKc.out.later hb9)
   have R := Lib.hid (RdT.later R.out hb9)
   clear hb9
   refine hK.out _ _ ?_ (fun hHeld2 => ?_)
   ·exact ⟨HKc.out.c0, HKc.out.c1, HKc.out.c2, HKc.out.c3⟩
   clear hK K hHeld
   have hHeld := hHeld2
   clear hHeld2
   try simp only [Act.put, List.setIfInBounds_toArray, List.set_cons_zero, List.set_cons_succ]
   refine Tk 16 29 ?_
   refine Tk 17 30 ?_
   refine Tk 18 4 ?_
   refine wpAnyH_done (by kernel_rfl) ?_ _
   clear hHeld
   go_wp2_with fail
   go_ret
   exact ⟨by first | rfl | simp, HKc.out.below⟩
set_option maxRecDepth 100000 in
theorem lifted (os : Os) (started : os.Started) (H : Type) (enc : TypeId × Value → H) :
  ReturnsInHanded {} Try.checked os 3 .any (Rows.flagCheckSpec.pre6 enc Try.prog Try.f3 Rows.flagCheckRow.domain false) (Rows.flagCheckSpec.post enc Try.prog Try.f3 false true false false) := by
 refine returnsInHanded_of_change_sized (C := Try.checked) own started (by kernel_rfl) Try.func3
  (ChangeSpec.witness6 (enc := enc) (C := Try.checked) false ⟨#[], #[.agg #[.slice none 0 0, .slice none 0 0], .agg #[.int .i64 0, .int .i64 0]], []⟩ 8 (by kernel_rfl) (by kernel_rfl) (by kernel_rfl) (by kernel_rfl)) ?_
 intro W base args ds gs before hval0 hW _ hsz0 _
 have hval : ∀ (j : Nat) t v, Try.f3.params[j]? = some t → args[j]? = some v → Value.okWide Try.prog W .any base t v := hval0
 have hW' := hW
 obtain ⟨p, q, hA0, hV, rfl, hfz, hnd⟩ := hW
 have hA : DataW.TrodAll enc Try.prog W 0 (fun _ => true) true Try.f3.params.toList args.toList ds p := hA0
 rw [Try.params3] at hA hval
 obtain ⟨v0, v1, d0, d1, p0, p1, rfl, rfl, rfl, h0, h1⟩ := trodAll_two hA
 obtain ⟨rfl, rfl⟩ := trodVars_none hV
 have hsz : (DataW.weightsEach Try.prog (25 :: 27 :: _) (d0 :: d1 :: _)).all (· ≤ reachBytes) = true := hsz0
 obtain ⟨hw0, hsz⟩ := Tr.weights_head hsz
 obtain ⟨t0, ae0, ak0, ne0, nk0, ce0, ck0, rfl, hr0, hl0⟩ := Tr.treeV_of_trod (hval 0 25 v0 rfl rfl) h0 hw0
 obtain ⟨da1, dn1, rfl, _, _⟩ := Dt.dot_of_trod (hval 1 27 v1 rfl rfl) h1
 refine (walk_any t0 ae0 ak0 ne0 nk0 ce0 ck0 da1 dn1 W hr0 hl0).mono fun e W' ⟨he, hb⟩ => ?_
 subst he
 exact ⟨_, rfl, law_post hW' (by kernel_rfl) rfl rfl rfl hb⟩
theorem proved : Rows.FlagCheckSaid :=
 OpenClaim.holds_of_wide 3 Try.f3 rfl rfl rfl rfl rfl rfl rfl ⟨rfl, rfl, rfl, rfl, rfl⟩ rfl rfl rfl rfl rfl (by kernel_rfl) Try.func3 (by kernel_rfl)
  (of_decide_eq_true (by kernel_rfl)) (by unfold Func.isWrapper; first | (rw [if_pos (by decide +kernel)]; kernel_rfl) | (rw [if_neg (by decide +kernel)]; exact ⟨rfl, rfl⟩))
  (fun os started H enc _ => lifted os started H enc)
#print axioms proved
end lawFlagCheck
end Go.Proofs.Ytochokcbjlknbaa
