/- FlagOn: a law, walked, and proved. -/
import Derived.Test.YtochokcbjlknbaaG00
import Derived.Test.YtochokcbjlknbaaG122220
import Derived.Test.YtochokcbjlknbaaG12220
open Go.ChangeShapes Go.WideShapes Go.ChangeAt Go.RowKit
namespace Go.Proofs.Ytochokcbjlknbaa
namespace lawFlagOn
open Tr Cx Cs Sp Rw Classical
theorem boxL (w : World) (Ae Ak : Option Addr) (ne nk ce ck : Nat)  : ∃ (W : World) (p : Nat), Hid (W = (w.alloc (.cells #[.slice Ae ne ce, .slice Ak nk ck] 25))) ∧ Hid (p = w.heap.size) ∧  Hid (Kept [(⟨p, 0, none⟩, .slice Ae ne ce), (⟨p, 1, none⟩, .slice Ak nk ck)] w W) := by
 refine ⟨_, _, rfl, rfl, ?_⟩
 have h0 := Kept.nil_of (show Below w.heap.size w ((w.alloc (.cells #[.slice Ae ne ce, .slice Ak nk ck] 25))) from (Below.refl _ _).alloc (Nat.le_refl _) _)
 refine ((h0).cons_of ?_).cons_of ?_ <;> go_simp
set_option maxRecDepth 100000 in
set_option maxHeartbeats 4000000 in
theorem walk_any (t : T) (Ae Ak : Option Addr) (ne nk ce ck : Nat)   (w : World) (hr : RdT w w.heap.size t ⟨Ae, ne, ce⟩ ⟨Ak, nk, ck⟩) (hl : LenT reachBytes t)  :
  Calls Try.prog 6 #[.agg #[.slice Ae ne ce, .slice Ak nk ck]] w fun e w' => e = .returned (.bool true) ∧ Below w.heap.size w w' := by
 obtain ⟨W, p, HW, HP, HKc⟩ := boxL w Ae Ak ne nk ce ck 
 have R := Lib.hid (RdT.later hr HKc.out.below)
 have L := Lib.hid hl
 clear hr hl
 have c0 := HKc.out.c0
 have c1 := HKc.out.c1
 go_enter Try.func6, Try.ntmps6
 go_wp2_with fail
 rw [← HW.out, ← HP.out]
 refine (awake10 W).mono ?_
 rintro e v1 ⟨rfl, hb9⟩
 have HKc := Lib.hid (HKc.out.later hb9)
 have R := Lib.hid (RdT.later R.out hb9)
 clear hb9
 clear c0 c1
 have c0 := HKc.out.c0
 have c1 := HKc.out.c1
 go_wp2_with fail
 refine (small_tree t Ae Ak ne nk ce ck v1 L.out R.out).mono ?_
 rintro e v2 ⟨b9, rfl, hsm, hb9⟩
 have HKc := Lib.hid (HKc.out.later hb9)
 have R := Lib.hid (RdT.later R.out hb9)
 clear hb9
 clear c0 c1
 cases b9 with
 | false =>
  clear hsm
  go_wp2_with fail
  refine (awake10 _).mono ?_
  rintro e v99 ⟨rfl, hb9⟩
  have HKc := Lib.hid (HKc.out.later hb9)
  clear hb9
  go_wp2_with fail
  go_ret
  exact ⟨by first | rfl | simp, HKc.out.below⟩
 | true =>
  have N : Hid (nodes t ≤ 40) := hsm rfl
  clear hsm
  obtain ⟨y, hy9⟩ : ∃ y, Tr.rightB 5 t = y := ⟨_, rfl⟩
  have HY := Lib.hid hy9
  clear hy9
  obtain ⟨z, hz⟩ : ∃ z, (Tr.rightB 5 t && decide (0 < ne)) = z := ⟨_, rfl⟩
  have HZ := Lib.hid hz
  clear hz
  have f1 : decide ((0 : Int) < (ne : Int)) = decide (0 < ne) := decide_eq_decide.2 (by omega)
  have c0 := HKc.out.c0
  have c1 := HKc.out.c1
  go_wp2_with fail
  clear c0 c1
  cases y with
  | false =>
   refine wp_region_held_drew (S := fun W => W.cell? ⟨p, 0, none⟩ = some (.slice Ae ne ce) ∧ W.cell? ⟨p, 1, none⟩ = some (.slice Ak nk ck)) (by kernel_rfl) (by have h9 := HKc.out.drew; exact ⟨h9.c0, h9.c1⟩) (fun hHeld => ?_)
   obtain ⟨v3, hv3⟩ : ∃ v, v = v2.drew := ⟨_, rfl⟩
   have hb9 : Below v2.heap.size v2 v3 := by rw [hv3]; exact (Below.refl _ _).drew
   have HKc := Lib.hid (HKc.out.later hb9)
   have R := Lib.hid (RdT.later R.out hb9)
   clear hb9
   rw [← hv3] at hHeld ⊢
   clear hv3
   refine Tk 0 11 ?_
   refine Tk 2 13 ?_
   refine wpAnyH_ready (rs := [1]) (by kernel_rfl) (by simp) ?_
   refine AllReadyH.cons (o := ⟨some 12, _, _, _, _, _⟩) rfl (fun K hK => ?_) AllReadyH.nil
   go_simp
   (go_at_call 17; refine (on_any t Ae Ak ne nk ce ck v3 z HZ.out L.out R.out).mono ?_)
   rintro e v4 ⟨rfl, hb9⟩
   have HKc := Lib.hid (HKc.out.later hb9)
   have R := Lib.hid (RdT.later R.out hb9)
   clear hb9
   refine hK.out _ _ ?_ (fun hHeld2 => ?_)
   ·exact ⟨HKc.out.c0, HKc.out.c1⟩
   clear hK K hHeld
   have hHeld := hHeld2
   clear hHeld2
   try simp only [Act.put, List.setIfInBounds_toArray, List.set_cons_zero, List.set_cons_succ]
   refine wpAnyH_ready (rs := [3]) (by kernel_rfl) (by simp) ?_
   refine AllReadyH.cons (o := ⟨some 14, _, _, _, _, _⟩) rfl (fun K hK => ?_) AllReadyH.nil
   go_simp
   (go_at_call 18; refine (refrightT_any t Ae Ak ne nk ce ck v4 L.out R.out).mono ?_)
   rw [HY.out]
   rintro e v5 ⟨rfl, hb9⟩
   have HKc := Lib.hid (HKc.out.later hb9)
   have R := Lib.hid (RdT.later R.out hb9)
   clear hb9
   refine hK.out _ _ ?_ (fun hHeld2 => ?_)
   ·exact ⟨HKc.out.c0, HKc.out.c1⟩
   clear hK K hHeld
   have hHeld := hHeld2
   clear hHeld2
   try simp only [Act.put, List.setIfInBounds_toArray, List.set_cons_zero, List.set_cons_succ]
   refine Tk 4 15 ?_
   refine Tn 5 16 ?_
   refine Tn 6 17 ?_
   refine Tn 7 18 ?_
   refine Tn 8 19 ?_
   refine Tk 9 20 ?_
   refine Tk 10 21 ?_
   refine Tk 11 2 ?_
   refine wpAnyH_done (by kernel_rfl) ?_ _
   clear hHeld
   obtain rfl : z = false := by rw [← HZ.out, HY.out]; rfl
   go_wp2_with fail
   go_ret
   exact ⟨by first | rfl | simp | simp [f1], HKc.out.below⟩
  | true =>
   refine wp_region_held_drew (S := fun W => W.cell? ⟨p, 0, none⟩ = some (.slice Ae ne ce) ∧ W.cell? ⟨p, 1, none⟩ = some (.slice Ak nk ck)) (by kernel_rfl) (by have h9 := HKc.out.drew; exact ⟨h9.c0, h9.c1⟩) (fun hHeld => ?_)
   obtain ⟨v3, hv3⟩ : ∃ v, v = v2.drew := ⟨_, rfl⟩
   have hb9 : Below v2.heap.size v2 v3 := by rw [hv3]; exact (Below.refl _ _).drew
   have HKc := Lib.hid (HKc.out.later hb9)
   have R := Lib.hid (RdT.later R.out hb9)
   clear hb9
   rw [← hv3] at hHeld ⊢
   clear hv3
   refine Tk 0 11 ?_
   refine Tk 2 13 ?_
   refine wpAnyH_ready (rs := [1]) (by kernel_rfl) (by simp) ?_
   refine AllReadyH.cons (o := ⟨some 12, _, _, _, _, _⟩) rfl (fun K hK => ?_) AllReadyH.nil
   go_simp
   (go_at_call 17; refine (on_any t Ae Ak ne nk ce ck v3 z HZ.out L.out R.out).mono ?_)
   rintro e v4 ⟨rfl, hb9⟩
   have HKc := Lib.hid (HKc.out.later hb9)
   have R := Lib.hid (RdT.later R.out hb9)
   clear hb9
   refine hK.out _ _ ?_ (fun hHeld2 => ?_)
   ·exact ⟨HKc.out.c0, HKc.out.c1⟩
   clear hK K hHeld
   have hHeld := hHeld2
   clear hHeld2
   try simp only [Act.put, List.setIfInBounds_toArray, List.set_cons_zero, List.set_cons_succ]
   refine wpAnyH_ready (rs := [3]) (by kernel_rfl) (by simp) ?_
   refine AllReadyH.cons (o := ⟨some 14, _, _, _, _, _⟩) rfl (fun K hK => ?_) AllReadyH.nil
   go_simp
   (go_at_call 18; refine (refrightT_any t Ae Ak ne nk ce ck v4 L.out R.out).mono ?_)
   rw [HY.out]
   rintro e v5 ⟨rfl, hb9⟩
   have HKc := Lib.hid (HKc.out.later hb9)
   have R := Lib.hid (RdT.later R.out hb9)
   clear hb9
   refine hK.out _ _ ?_ (fun hHeld2 => ?_)
   ·exact ⟨HKc.out.c0, HKc.out.c1⟩
   clear hK K hHeld
   have hHeld := hHeld2
   clear hHeld2
   try simp only [Act.put, List.setIfInBounds_toArray, List.set_cons_zero, List.set_cons_succ]
   refine Tk 4 15 ?_
   refine Tk 5 16 ?_
   refine Tk 6 17 ?_
   refine Tk 7 18 ?_
   refine Tk 8 19 ?_
   refine Tk 9 20 ?_
   refine Tk 10 21 ?_
   refine Tk 11 2 ?_
   refine wpAnyH_done (by kernel_rfl) ?_ _
   clear hHeld
   obtain rfl : z = decide (0 < ne) := by rw [← HZ.out, HY.out]; rfl
   go_wp2_with fail
   go_ret
   exact ⟨by first | rfl | simp | simp [f1], HKc.out.below⟩
set_option maxRecDepth 100000 in
theorem lifted (os : Os) (started : os.Started) (H : Type) (enc : TypeId × Value → H) :
  ReturnsInHanded {} Try.checked os 6 .any (Rows.flagOnSpec.pre6 enc Try.prog Try.f6 Rows.flagOnRow.domain false) (Rows.flagOnSpec.post enc Try.prog Try.f6 false true false false) := by
 refine returnsInHanded_of_change_sized (C := Try.checked) own started (by kernel_rfl) Try.func6
  (ChangeSpec.witness6 (enc := enc) (C := Try.checked) false ⟨#[], #[.agg #[.slice none 0 0, .slice none 0 0]], []⟩ 8 (by kernel_rfl) (by kernel_rfl) (by kernel_rfl) (by kernel_rfl)) ?_
 intro W base args ds gs before hval0 hW _ hsz0 _
 have hval : ∀ (j : Nat) t v, Try.f6.params[j]? = some t → args[j]? = some v → Value.okWide Try.prog W .any base t v := hval0
 have hW' := hW
 obtain ⟨p, q, hA0, hV, rfl, hfz, hnd⟩ := hW
 have hA : DataW.TrodAll enc Try.prog W 0 (fun _ => true) true Try.f6.params.toList args.toList ds p := hA0
 rw [Try.params6] at hA hval
 obtain ⟨v0, d0, rfl, rfl, h0⟩ := trodAll_one hA
 obtain ⟨rfl, rfl⟩ := trodVars_none hV
 have hsz : (DataW.weightsEach Try.prog (25 :: _) (d0 :: _)).all (· ≤ reachBytes) = true := hsz0
 obtain ⟨hw0, hsz⟩ := Tr.weights_head hsz
 obtain ⟨t0, ae0, ak0, ne0, nk0, ce0, ck0, rfl, hr0, hl0⟩ := Tr.treeV_of_trod (hval 0 25 v0 rfl rfl) h0 hw0
 refine (walk_any t0 ae0 ak0 ne0 nk0 ce0 ck0 W hr0 hl0).mono fun e W' ⟨he, hb⟩ => ?_
 subst he
 exact ⟨_, rfl, law_post hW' (by kernel_rfl) rfl rfl rfl hb⟩
theorem proved : Rows.FlagOnSaid :=
 OpenClaim.holds_of_wide 6 Try.f6 rfl rfl rfl rfl rfl rfl rfl ⟨rfl, rfl, rfl, rfl, rfl⟩ rfl rfl rfl rfl rfl (by kernel_rfl) Try.func6 (by kernel_rfl)
  (of_decide_eq_true (by kernel_rfl)) (by unfold Func.isWrapper; first | (rw [if_pos (by decide +kernel)]; kernel_rfl) | (rw [if_neg (by decide +kernel)]; exact ⟨rfl, rfl⟩))
  (fun os started H enc _ => lifted os started H enc)
#print axioms proved
end lawFlagOn
end Go.Proofs.Ytochokcbjlknbaa
