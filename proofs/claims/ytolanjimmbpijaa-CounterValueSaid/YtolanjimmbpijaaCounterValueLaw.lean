/- CounterValue: a law, walked, and proved. -/
import Derived.Test.YtolanjimmbpijaaG00
import Derived.Test.YtolanjimmbpijaaG140
open Go.ChangeShapes Go.WideShapes Go.ChangeAt Go.RowKit
namespace Go.Proofs.Ytolanjimmbpijaa
namespace lawCounterValue
open Tr Cx Cs Sp Rw Classical
theorem boxL (w : World) (Ae Ak : Option Addr) (ne nk ce ck : Nat)  : ∃ (W : World) (p : Nat), Hid (W = (w.alloc (.cells #[.slice Ae ne ce, .slice Ak nk ck] 25))) ∧ Hid (p = w.heap.size) ∧  Hid (Kept [(⟨p, 0, none⟩, .slice Ae ne ce), (⟨p, 1, none⟩, .slice Ak nk ck)] w W) := by
 refine ⟨_, _, rfl, rfl, ?_⟩; have h0 := Kept.nil_of (show Below w.heap.size w ((w.alloc (.cells #[.slice Ae ne ce, .slice Ak nk ck] 25))) from (Below.refl _ _).alloc (Nat.le_refl _) _)
 refine ((h0).cons_of ?_).cons_of ?_ <;> go_simp
set_option maxRecDepth 100000 in
set_option maxHeartbeats 4000000 in
theorem walk_any (t : T) (Ae Ak : Option Addr) (ne nk ce ck : Nat)  (w : World) (hr : RdT w w.heap.size t ⟨Ae, ne, ce⟩ ⟨Ak, nk, ck⟩) (hl : LenT reachBytes t)  :
  Calls Try.prog 4 #[.agg #[.slice Ae ne ce, .slice Ak nk ck]] w fun e w' => e = .returned (.bool true) ∧ Below w.heap.size w w' := by
 obtain ⟨W, p, HW, HP, HKc⟩ := boxL w Ae Ak ne nk ce ck ; have HR0 := Lib.hid hr; have R := Lib.hid (RdT.later hr HKc.out.below); have L := Lib.hid hl; clear hr hl; have c0 := HKc.out.c0; have c1 := HKc.out.c1; go_enter Try.func4, Try.ntmps4; go_wp2_with fail; rw [← HW.out, ← HP.out]; refine (awake12 W).mono ?_; rintro e v1 ⟨rfl, hb9⟩; have HKc := Lib.hid (HKc.out.later hb9); have R := Lib.hid (RdT.later R.out hb9); clear hb9; clear c0 c1; have c0 := HKc.out.c0; have c1 := HKc.out.c1; go_wp2_with fail; refine (small_tree t Ae Ak ne nk ce ck v1 L.out R.out).mono ?_; rintro e v2 ⟨b9, rfl, hsm, hb9⟩; have HKc := Lib.hid (HKc.out.later hb9); have R := Lib.hid (RdT.later R.out hb9); clear hb9; clear c0 c1
 cases b9 with
 | false =>
  clear hsm; go_wp2_with fail; refine (awake12 _).mono ?_; rintro e v99 ⟨rfl, hb9⟩; have HKc := Lib.hid (HKc.out.later hb9); clear hb9; go_wp2_with fail; go_ret; exact ⟨by first | rfl | simp, HKc.out.below⟩
 | true =>
  have N : Hid (nodes t ≤ 60) := hsm rfl; clear hsm; obtain ⟨y, hy⟩ : ∃ y, Tr.rightB 5 t = y := ⟨_, rfl⟩
  obtain ⟨x, hx⟩ : ∃ x : Int, (if Tr.rightB 5 t = true then sumE t.es else 0) = x := ⟨_, rfl⟩
  have HX := Lib.hid hx; have HY := Lib.hid hy; clear hx hy; have c0 := HKc.out.c0; have c1 := HKc.out.c1; go_wp2_with fail; refine (refrightT_any t Ae Ak ne nk ce ck v2 L.out R.out).mono ?_; rw [HY.out]; rintro e v3 ⟨rfl, hb9⟩; have HKc := Lib.hid (HKc.out.later hb9); have R := Lib.hid (RdT.later R.out hb9); clear hb9; clear c0 c1
  cases y with
  | false =>
   obtain rfl : x = 0 := by
    have h := HX.out; rw [HY.out] at h; exact h.symm
   have c0 := HKc.out.c0; have c1 := HKc.out.c1; go_wp2_with fail; refine (value_any t Ae Ak ne nk ce ck v3 0 HX.out L.out (by have := N.out; omega) R.out).mono ?_; rintro e v4 ⟨rfl, hb9⟩; have HKc := Lib.hid (HKc.out.later hb9); have R := Lib.hid (RdT.later R.out hb9); clear hb9; clear c0 c1; go_wp2_with fail; go_ret; exact ⟨by first | rfl | simp, HKc.out.below⟩
  | true =>
   have HSX : Hid (sumE t.es = x) := by
    have h := HX.out; rw [HY.out] at h; exact h
   have c0 := HKc.out.c0; have c1 := HKc.out.c1; go_wp2_with fail; refine (refsum_any t Ae Ak ne nk ce ck v3 x (Tr.rightB_iff.1 HY.out) HSX.out (by have := N.out; omega) R.out).mono ?_; rintro e v4 ⟨rfl, hb9⟩; have HKc := Lib.hid (HKc.out.later hb9); have R := Lib.hid (RdT.later R.out hb9); clear hb9; clear c0 c1; have c0 := HKc.out.c0; have c1 := HKc.out.c1; go_wp2_with fail; refine (value_any t Ae Ak ne nk ce ck v4 x HX.out L.out (by have := N.out; omega) R.out).mono ?_; rintro e v5 ⟨rfl, hb9⟩; have HKc := Lib.hid (HKc.out.later hb9); have R := Lib.hid (RdT.later R.out hb9); clear hb9; clear c0 c1; go_wp2_with fail; go_ret; exact ⟨by first | rfl | simp, HKc.out.below⟩
set_option maxRecDepth 100000 in
theorem lifted (os : Os) (started : os.Started) (H : Type) (enc : TypeId × Value → H) :
  ReturnsInHanded {} Try.checked os 4 .any (Rows.counterValueSpec.pre6 enc Try.prog Try.f4 Rows.counterValueRow.domain false) (Rows.counterValueSpec.post enc Try.prog Try.f4 false true false false) := by
 refine returnsInHanded_of_change_sized (C := Try.checked) own started (by kernel_rfl) Try.func4
  (ChangeSpec.witness6 (enc := enc) (C := Try.checked) false ⟨#[], #[.agg #[.slice none 0 0, .slice none 0 0]], []⟩ 8 (by kernel_rfl) (by kernel_rfl) (by kernel_rfl) (by kernel_rfl)) ?_
 intro W base args ds gs before hval0 hW _ hsz0 _; have hval : ∀ (j : Nat) t v, Try.f4.params[j]? = some t → args[j]? = some v → Value.okWide Try.prog W .any base t v := hval0; have hW' := hW; obtain ⟨p, q, hA0, hV, rfl, hfz, hnd⟩ := hW; have hA : DataW.TrodAll enc Try.prog W 0 (fun _ => true) true Try.f4.params.toList args.toList ds p := hA0; rw [Try.params4] at hA hval; obtain ⟨v0, d0, rfl, rfl, h0⟩ := trodAll_one hA; obtain ⟨rfl, rfl⟩ := trodVars_none hV; have hsz : (DataW.weightsEach Try.prog (25 :: _) (d0 :: _)).all (· ≤ reachBytes) = true := hsz0; obtain ⟨hw0, hsz⟩ := Tr.weights_head hsz; obtain ⟨t0, ae0, ak0, ne0, nk0, ce0, ck0, rfl, hr0, hl0⟩ := Tr.treeV_of_trod (hval 0 25 v0 rfl rfl) h0 hw0; refine (walk_any t0 ae0 ak0 ne0 nk0 ce0 ck0  W hr0 hl0 ).mono fun e W' ⟨he, hb⟩ => ?_
 subst he; exact ⟨_, rfl, law_post hW' (by kernel_rfl) rfl rfl rfl hb⟩
theorem proved : Rows.CounterValueSaid :=
 OpenClaim.holds_of_wide 4 Try.f4 rfl rfl rfl rfl rfl rfl rfl ⟨rfl, rfl, rfl, rfl, rfl⟩ rfl rfl rfl rfl rfl (by kernel_rfl) Try.func4 (by kernel_rfl)
  (of_decide_eq_true (by kernel_rfl)) (by unfold Func.isWrapper; first | (rw [if_pos (by decide +kernel)]; kernel_rfl) | (rw [if_neg (by decide +kernel)]; exact ⟨rfl, rfl⟩))
  (fun os started H enc _ => lifted os started H enc)
#print axioms proved
end lawCounterValue
end Go.Proofs.Ytolanjimmbpijaa
