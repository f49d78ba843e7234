/- Proved: the law RegisterValues answers true for every tree that can be handed in, and leaves its arguments as they were. Conditions: none. -/
import Derived.Test.YtnlojpolfkjkoaaGreatG00
import Derived.Test.YtnlojpolfkjkoaaGreatG170
import Derived.Test.YtnlojpolfkjkoaaGreatSetSort
import Derived.Test.YtnlojpolfkjkoaaGreatSetRef
open Go.ChangeShapes Go.WideShapes Go.ChangeAt Go.RowKit
namespace Go.Proofs.YtnlojpolfkjkoaaGreat
namespace lawRegisterValues
open Tr Cx Cs Sp Rw Classical
theorem boxL (w : World) (Ae Ak : Option Addr) (ne nk ce ck : Nat)  : ∃ (W : World) (p : Nat), Hid (W = (w.alloc (.cells #[.slice Ae ne ce, .slice Ak nk ck] 25))) ∧ Hid (p = w.heap.size) ∧  Hid (Kept [(⟨p, 0, none⟩, .slice Ae ne ce), (⟨p, 1, none⟩, .slice Ak nk ck)] w W) := by
 refine ⟨_, _, rfl, rfl, ?_⟩; have h0 := Kept.nil_of (show Below w.heap.size w ((w.alloc (.cells #[.slice Ae ne ce, .slice Ak nk ck] 25))) from (Below.refl _ _).alloc (Nat.le_refl _) _)
 refine ((h0).cons_of ?_).cons_of ?_ <;> go_simp
set_option maxRecDepth 100000 in
set_option maxHeartbeats 4000000 in
theorem walk_any (t : T) (Ae Ak : Option Addr) (ne nk ce ck : Nat)  (w : World) (hr : RdT w w.heap.size t ⟨Ae, ne, ce⟩ ⟨Ak, nk, ck⟩) (hl : LenT reachBytes t)  :
  Calls Tryz.prog 4 #[.agg #[.slice Ae ne ce, .slice Ak nk ck]] w fun e w' => e = .returned (.bool true) ∧ Below w.heap.size w w' := by
 obtain ⟨W, p, HW, HP, HKc⟩ := boxL w Ae Ak ne nk ce ck ; have HR0 := Lib.hid hr; have R := Lib.hid (RdT.later hr HKc.out.below); have L := Lib.hid hl; clear hr hl; have c0 := HKc.out.c0; have c1 := HKc.out.c1; go_enter Tryz.func4, Tryz.ntmps4; go_wp2_with fail; rw [← HW.out, ← HP.out]; refine (awake13 W).mono ?_; rintro e v1 ⟨rfl, hb9⟩; have HKc := Lib.hid (HKc.out.later hb9); have R := Lib.hid (RdT.later R.out hb9); clear hb9; clear c0 c1; have c0 := HKc.out.c0; have c1 := HKc.out.c1; go_wp2_with fail; refine (small_tree t Ae Ak ne nk ce ck v1 L.out R.out).mono ?_; rintro e v2 ⟨b9, rfl, hsm, hb9⟩; have HKc := Lib.hid (HKc.out.later hb9); have R := Lib.hid (RdT.later R.out hb9); clear hb9; clear c0 c1
 cases b9 with
 | false =>
  clear hsm; go_wp2_with fail; refine (awake13 _).mono ?_; rintro e v99 ⟨rfl, hb9⟩; have HKc := Lib.hid (HKc.out.later hb9); clear hb9; go_wp2_with fail; go_ret; exact ⟨by first | rfl | simp, HKc.out.below⟩
 | true =>
  have N : Hid (nodes t ≤ 60) := hsm rfl; clear hsm; obtain ⟨y, hy9⟩ : ∃ y, Tr.rightB 5 t = y := ⟨_, rfl⟩; have HY := Lib.hid hy9; clear hy9; have c0 := HKc.out.c0; have c1 := HKc.out.c1; go_wp2_with fail; refine (refrightT_any t Ae Ak ne nk ce ck v2 L.out R.out).mono ?_; rw [HY.out]; rintro e v3 ⟨rfl, hb9⟩; have HKc := Lib.hid (HKc.out.later hb9); have R := Lib.hid (RdT.later R.out hb9); clear hb9; clear c0 c1
  cases y with
  | false =>
   obtain ⟨m0, hm0⟩ : ∃ m : List ByteArray, m = [] := ⟨_, rfl⟩; have HM0 := Lib.hid hm0; have HVM : Hid ((Tr.rightB 5 t = true → SortIs (t.es.map E.s) m0) ∧ (Tr.rightB 5 t = false → m0 = [])) := ⟨fun h => (by rw [HY.out] at h; cases h), fun _ => HM0.out⟩; clear hm0; have c0 := HKc.out.c0; have c1 := HKc.out.c1; go_wp2_with fail; refine (rvalues_any t Ae Ak ne nk ce ck v3 m0 0 HVM.out (by rw [HM0.out]; rfl) L.out (by have := N.out; omega) R.out).mono ?_; rintro e v4 ⟨Vl, vc, rfl, hro, hb9⟩; have HKc := Lib.hid (HKc.out.later hb9); have R := Lib.hid (RdT.later R.out hb9); clear hb9; clear c0 c1; have RV := Lib.hid hro.out; clear hro; have c0 := HKc.out.c0; have c1 := HKc.out.c1; go_wp2_with fail; refine (refalike_any m0 [] 0 0 Vl none vc 0 v4 (by omega) RV.out (Rd.nil _) true (decide_eq_true HM0.out)).mono ?_; rintro e v5 ⟨rfl, hb9⟩; have HKc := Lib.hid (HKc.out.later hb9); have R := Lib.hid (RdT.later R.out hb9)
   have RV := Lib.hid (RV.out.later hb9); clear hb9; clear c0 c1; go_wp2_with fail; go_ret; exact ⟨by first | rfl | simp, HKc.out.below⟩
  | true =>
   obtain ⟨ms, hms, hml⟩ := sort_ex (t.es.map E.s); obtain ⟨qs, hqs⟩ : ∃ q, ms.length = q := ⟨_, rfl⟩; have HMS : Hid (SortIs (t.es.map E.s) ms) := hms
   have HQS : Hid (ms.length = qs ∧ qs ≤ 60) := ⟨hqs, by
    rw [List.length_map, hqs] at hml; have h := nodes_es t.es t.ks; rw [T.eta] at h; have := N.out
    omega⟩
   have HVM : Hid ((Tr.rightB 5 t = true → SortIs (t.es.map E.s) ms) ∧ (Tr.rightB 5 t = false → ms = [])) := ⟨fun _ => HMS.out, fun h => (by rw [HY.out] at h; cases h)⟩; clear hms hml hqs; have c0 := HKc.out.c0; have c1 := HKc.out.c1; go_wp2_with fail; refine (reftexts_any t Ae Ak ne nk ce ck v3 ms qs (by have := N.out; omega) R.out HMS.out HQS.out.1 (by have := HQS.out.2; omega)).mono ?_; rintro e v4 ⟨Wl, wc, rfl, hro, hb9⟩; have HKc := Lib.hid (HKc.out.later hb9); have R := Lib.hid (RdT.later R.out hb9); clear hb9; clear c0 c1; have RW := Lib.hid hro.out; clear hro; have c0 := HKc.out.c0; have c1 := HKc.out.c1; go_wp2_with fail; refine (rvalues_any t Ae Ak ne nk ce ck v4 ms qs HVM.out HQS.out.1 L.out (by have := N.out; omega) R.out).mono ?_; rintro e v5 ⟨Vl, vc, rfl, hro, hb9⟩; have HKc := Lib.hid (HKc.out.later hb9); have R := Lib.hid (RdT.later R.out hb9); have RW := Lib.hid (RW.out.later hb9)
   clear hb9; clear c0 c1; have RV := Lib.hid hro.out; clear hro; have c0 := HKc.out.c0; have c1 := HKc.out.c1; go_wp2_with fail; refine (refalike_any ms ms qs qs Vl Wl vc wc v5 (by have := HQS.out.2; omega) RV.out RW.out true (decide_eq_true rfl)).mono ?_; rintro e v6 ⟨rfl, hb9⟩; have HKc := Lib.hid (HKc.out.later hb9); have R := Lib.hid (RdT.later R.out hb9); have RW := Lib.hid (RW.out.later hb9); have RV := Lib.hid (RV.out.later hb9); clear hb9; clear c0 c1; go_wp2_with fail; go_ret; exact ⟨by first | rfl | simp, HKc.out.below⟩
set_option maxRecDepth 100000 in
theorem lifted (os : Os) (started : os.Started) (H : Type) (enc : TypeId × Value → H) :
  ReturnsInHanded {} Tryz.checked os 4 .any (Rows.registerValuesSpec.pre6 enc Tryz.prog Tryz.f4 Rows.registerValuesRow.domain false) (Rows.registerValuesSpec.post enc Tryz.prog Tryz.f4 false true false false) := by
 refine returnsInHanded_of_change_sized (C := Tryz.checked) own started (by kernel_rfl) Tryz.func4
  (ChangeSpec.witness6 (enc := enc) (C := Tryz.checked) false ⟨#[], #[.agg #[.slice none 0 0, .slice none 0 0]], []⟩ 8 (by kernel_rfl) (by kernel_rfl) (by kernel_rfl) (by kernel_rfl)) ?_
 intro W base args ds gs before hval0 hW _ hsz0 _; have hval : ∀ (j : Nat) t v, Tryz.f4.params[j]? = some t → args[j]? = some v → Value.okWide Tryz.prog W .any base t v := hval0; have hW' := hW; obtain ⟨p, q, hA0, hV, rfl, hfz, hnd⟩ := hW; have hA : DataW.TrodAll enc Tryz.prog W 0 (fun _ => true) true Tryz.f4.params.toList args.toList ds p := hA0; rw [Tryz.params4] at hA hval; obtain ⟨v0, d0, rfl, rfl, h0⟩ := trodAll_one hA; obtain ⟨rfl, rfl⟩ := trodVars_none hV; have hsz : (DataW.weightsEach Tryz.prog (25 :: _) (d0 :: _)).all (· ≤ reachBytes) = true := hsz0; obtain ⟨hw0, hsz⟩ := Tr.weights_head hsz; obtain ⟨t0, ae0, ak0, ne0, nk0, ce0, ck0, rfl, hr0, hl0⟩ := Tr.treeV_of_trod (hval 0 25 v0 rfl rfl) h0 hw0; refine (walk_any t0 ae0 ak0 ne0 nk0 ce0 ck0  W hr0 hl0 ).mono fun e W' ⟨he, hb⟩ => ?_
 subst he; exact ⟨_, rfl, law_post hW' (by kernel_rfl) rfl rfl rfl hb⟩
theorem proved : Rows.RegisterValuesSaid :=
 OpenClaim.holds_of_wide 4 Tryz.f4 rfl rfl rfl rfl rfl rfl rfl ⟨rfl, rfl, rfl, rfl, rfl⟩ rfl rfl rfl rfl rfl (by kernel_rfl) Tryz.func4 (by kernel_rfl)
  (of_decide_eq_true (by kernel_rfl)) (by unfold Func.isWrapper; first | (rw [if_pos (by decide +kernel)]; kernel_rfl) | (rw [if_neg (by decide +kernel)]; exact ⟨rfl, rfl⟩))
  (fun os started H enc _ => lifted os started H enc)
#print axioms proved
end lawRegisterValues
end Go.Proofs.YtnlojpolfkjkoaaGreat
