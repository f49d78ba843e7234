/- CausalRight: a law of layer 9, walked, and proved. -/
import Derived.Test.YtcbclefemcmhpaaGreatG00
import Derived.Test.YtcbclefemcmhpaaGreatG40
open Go.ChangeShapes Go.WideShapes Go.ChangeAt Go.RowKit
namespace Go.Proofs.YtcbclefemcmhpaaGreat
namespace lawCausalRight
open Tr Cx Cs Sp Rw Classical
theorem boxL (w : World) (Ae Ak Ac : Option Addr) (ae1 ak1 ae2 ak2 ac1 ac2 : Nat) : ∃ (W : World) (p : Nat), Hid (W = (w.alloc (.cells #[.slice Ae ae1 ae2, .slice Ak ak1 ak2, .slice Ac ac1 ac2] 29))) ∧ Hid (p = w.heap.size) ∧  Hid (Kept [(⟨p, 0, none⟩, .slice Ae ae1 ae2), (⟨p, 1, none⟩, .slice Ak ak1 ak2), (⟨p, 2, none⟩, .slice Ac ac1 ac2)] w W) := by
  refine ⟨_, _, rfl, rfl, ?_⟩
  have h0 := Kept.nil_of (show Below w.heap.size w ((w.alloc (.cells #[.slice Ae ae1 ae2, .slice Ak ak1 ak2, .slice Ac ac1 ac2] 29))) from (Below.refl _ _).alloc (Nat.le_refl _) _)
  refine (((h0).cons_of ?_).cons_of ?_).cons_of ?_ <;> go_simp
set_option maxRecDepth 100000 in
set_option maxHeartbeats 4000000 in
theorem walk_any (ta : T) (sa : List S3) (Ae Ak Ac : Option Addr) (ae1 ak1 ae2 ak2 ac1 ac2 : Nat)  (w : World) (hra : RdP w ⟨(ta, sa), ⟨Ae, ae1, ae2⟩, ⟨Ak, ak1, ak2⟩, ⟨Ac, ac1, ac2⟩⟩) (hla : LenT reachBytes ta)  :
    Calls Tryz.prog 3 #[.agg #[.slice Ae ae1 ae2, .slice Ak ak1 ak2, .slice Ac ac1 ac2]] w fun e w' => e = .returned (.bool true) ∧ Below w.heap.size w w' := by
  obtain ⟨W, p, HW, HP,  HKc⟩ := boxL w Ae Ak Ac ae1 ak1 ae2 ak2 ac1 ac2
  have Ra := Lib.hid (hra.later HKc.out.below)
  have La := Lib.hid hla
  clear hra hla
  have c0 := HKc.out.c0
  have c1 := HKc.out.c1
  have c2 := HKc.out.c2
  go_enter Tryz.func3, Tryz.ntmps3
  go_wp2_with fail
  rw [← HW.out, ← HP.out]
  refine (awake_any W).mono ?_
  rintro e v1 ⟨rfl, hb9⟩
  have Ra := Lib.hid (Ra.out.later hb9)
  have HKc := Lib.hid (HKc.out.later hb9)
  clear hb9
  clear c0 c1 c2
  have c0 := HKc.out.c0
  have c1 := HKc.out.c1
  have c2 := HKc.out.c2
  obtain ⟨g2, hg2⟩ : ∃ g, g = v1.heap.size := ⟨_, rfl⟩
  obtain ⟨v2, hv2⟩ : ∃ W, W = v1.alloc (.cells #[.slice Ae ae1 ae2, .slice Ak ak1 ak2, .slice Ac ac1 ac2] 29) := ⟨_, rfl⟩
  have hb9 : Below v1.heap.size v1 v2 := by rw [hv2]; exact Dt.box_below _ _ _
  have HCP : Hid (CellsP v2 g2 [⟨(ta, sa), ⟨Ae, ae1, ae2⟩, ⟨Ak, ak1, ak2⟩, ⟨Ac, ac1, ac2⟩⟩]) := by
    intro k hk
    simp at hk
    rcases (by omega : k = 0) with rfl <;> refine ⟨?_, ?_, ?_⟩ <;> (rw [hv2, hg2]; go_simp)
  have Hg2 := Lib.hid hg2
  have Hv2 := Lib.hid hv2
  clear hg2 hv2
  have Ra := Lib.hid (Ra.out.later hb9)
  have HKc := Lib.hid (HKc.out.later hb9)
  clear hb9
  have HPS : Hid (∀ p ∈ ([⟨(ta, sa), ⟨Ae, ae1, ae2⟩, ⟨Ak, ak1, ak2⟩, ⟨Ac, ac1, ac2⟩⟩] : List CP), RdP v2 p) := by
    intro p hp
    simp at hp
    rcases hp with rfl
    · exact Ra.out
  have HLT : Hid (∀ p ∈ ([⟨(ta, sa), ⟨Ae, ae1, ae2⟩, ⟨Ak, ak1, ak2⟩, ⟨Ac, ac1, ac2⟩⟩] : List CP), LenT reachBytes p.k.1) := by
    intro p hp
    simp at hp
    rcases hp with rfl
    · exact La.out
  have HSM := Lib.hid (small_any9 [⟨(ta, sa), ⟨Ae, ae1, ae2⟩, ⟨Ak, ak1, ak2⟩, ⟨Ac, ac1, ac2⟩⟩] 1 g2 1 v2 rfl (by omega) HCP.out HPS.out HLT.out)
  clear HCP HPS HLT
  go_wp2_with fail
  rw [← Hv2.out, ← Hg2.out]
  refine HSM.out.mono ?_
  rintro e v3 ⟨b, rfl, hsm, hb9⟩
  have Ra := Lib.hid (Ra.out.later hb9)
  have HKc := Lib.hid (HKc.out.later hb9)
  clear hb9
  clear c0 c1 c2 HSM
  cases b with
  | false =>
    clear hsm
    go_wp2_with fail
    refine (awake_any _).mono ?_
    rintro e v9 ⟨rfl, hb9⟩
    have HKc := Lib.hid (HKc.out.later hb9)
    clear hb9
    go_wp2_with fail
    go_ret
    exact ⟨rfl, HKc.out.below⟩
  | true =>
    have hsa := hsm rfl ⟨(ta, sa), ⟨Ae, ae1, ae2⟩, ⟨Ak, ak1, ak2⟩, ⟨Ac, ac1, ac2⟩⟩ (by simp)
    have Na : Hid (nodes ta ≤ 40) := hsa.1
    have Qa : Hid (ac1 ≤ 40) := hsa.2
    clear hsm hsa
    have c0 := HKc.out.c0
    have c1 := HKc.out.c1
    have c2 := HKc.out.c2
    obtain ⟨y, hy⟩ : ∃ y, rightKB (ta, sa) = y := ⟨_, rfl⟩
    have HY := Lib.hid hy
    clear hy
    go_wp2_with fail
    refine wp_region_held_drew (S := fun W => W.cell? ⟨p, 0, none⟩ = some (.slice Ae ae1 ae2) ∧ W.cell? ⟨p, 1, none⟩ = some (.slice Ak ak1 ak2) ∧ W.cell? ⟨p, 2, none⟩ = some (.slice Ac ac1 ac2)) (by kernel_rfl) (by have h9 := HKc.out.drew; exact ⟨h9.c0, h9.c1, h9.c2⟩) (fun hHeld => ?_)
    obtain ⟨w1, hw1⟩ : ∃ v, v = v3.drew := ⟨_, rfl⟩
    have HKc : Hid (Kept [(⟨p, 0, none⟩, .slice Ae ae1 ae2), (⟨p, 1, none⟩, .slice Ak ak1 ak2), (⟨p, 2, none⟩, .slice Ac ac1 ac2)] w w1) := by unfold Hid; rw [hw1]; exact HKc.out.drew
    have Ra : Hid (RdP w1 ⟨(ta, sa), ⟨Ae, ae1, ae2⟩, ⟨Ak, ak1, ak2⟩, ⟨Ac, ac1, ac2⟩⟩) := by unfold Hid; rw [hw1]; exact Ra.out.later ((Below.refl _ _).drew)
    rw [← hw1] at hHeld ⊢
    clear hw1
    refine Tk 0 12 ?_
    refine Tk 2 14 ?_
    refine wpAnyH_ready (rs := [1]) (by kernel_rfl) (by simp) ?_
    refine AllReadyH.cons (o := ⟨some 13, _, _, _, _, _⟩) rfl (fun K hK => ?_) AllReadyH.nil
    go_simp
    (go_at_call 15; refine (rightK_any ta sa Ae Ak Ac ae1 ak1 ae2 ak2 ac1 ac2 _ (by have := Na.out; omega) Ra.out.len (by have := Qa.out; omega) Ra.out.tree Ra.out.ctx).mono ?_)
    rw [HY.out]
    rintro e x1 ⟨rfl, hb9⟩
    have Ra := Lib.hid (Ra.out.later hb9)
    have HKc := Lib.hid (HKc.out.later hb9)
    clear hb9
    refine hK.out _ _ ?_ (fun hHeld2 => ?_)
    · exact ⟨HKc.out.c0, HKc.out.c1, HKc.out.c2⟩
    clear hK K hHeld
    have hHeld := hHeld2
    clear hHeld2
    try simp only [Act.put, List.setIfInBounds_toArray, List.set_cons_zero, List.set_cons_succ]
    refine wpAnyH_ready (rs := [3]) (by kernel_rfl) (by simp) ?_
    refine AllReadyH.cons (o := ⟨some 15, _, _, _, _, _⟩) rfl (fun K hK => ?_) AllReadyH.nil
    go_simp
    (go_at_call 16; refine (refrightK_any ta sa Ae Ak Ac ae1 ak1 ae2 ak2 ac1 ac2 _ (by have := Na.out; omega) Ra.out.len (by have := Qa.out; omega) Ra.out.tree Ra.out.ctx (by have := Na.out; omega)).mono ?_)
    rw [HY.out]
    rintro e x2 ⟨rfl, hb9⟩
    have Ra := Lib.hid (Ra.out.later hb9)
    have HKc := Lib.hid (HKc.out.later hb9)
    clear hb9
    refine hK.out _ _ ?_ (fun hHeld2 => ?_)
    · exact ⟨HKc.out.c0, HKc.out.c1, HKc.out.c2⟩
    clear hK K hHeld
    have hHeld := hHeld2
    clear hHeld2
    try simp only [Act.put, List.setIfInBounds_toArray, List.set_cons_zero, List.set_cons_succ]
    refine Tk 4 16 ?_
    refine Tk 5 2 ?_
    refine wpAnyH_done (by kernel_rfl) ?_ _
    clear hHeld
    go_wp2_with fail
    go_ret
    exact ⟨by first | rfl | simp, HKc.out.below⟩
set_option maxRecDepth 100000 in
theorem lifted (os : Os) (started : os.Started) (H : Type) (enc : TypeId × Value → H) :
    ReturnsInHanded {} Tryz.checked os 3 .any (Rows.causalRightSpec.pre6 enc Tryz.prog Tryz.f3 Rows.causalRightRow.domain false) (Rows.causalRightSpec.post enc Tryz.prog Tryz.f3 false true false false) := by
  refine returnsInHanded_of_change_sized (C := Tryz.checked) own started (by kernel_rfl) Tryz.func3
    (ChangeSpec.witness6 (enc := enc) (C := Tryz.checked) false ⟨#[], #[.agg #[.slice none 0 0, .slice none 0 0, .slice none 0 0]], []⟩ 8 (by kernel_rfl) (by kernel_rfl) (by kernel_rfl) (by kernel_rfl)) ?_
  intro W base args ds gs before hval0 hW _ hsz0 _
  have hval : ∀ (j : Nat) t v, Tryz.f3.params[j]? = some t → args[j]? = some v → Value.okWide Tryz.prog W .any base t v := hval0
  have hW' := hW
  obtain ⟨p, q, hA0, hV, rfl, hfz, hnd⟩ := hW
  have hA : DataW.TrodAll enc Tryz.prog W 0 (fun _ => true) true Tryz.f3.params.toList args.toList ds p := hA0
  rw [Tryz.params3] at hA hval
  obtain ⟨v0, d0, rfl, rfl, h0⟩ := trodAll_one hA
  obtain ⟨rfl, rfl⟩ := trodVars_none hV
  have hsz : (DataW.weightsEach Tryz.prog (29 :: _) (d0 :: _)).all (· ≤ reachBytes) = true := hsz0
  obtain ⟨hw0, hsz⟩ := Tr.weights_head hsz
  obtain ⟨t0, s0, A0, B0, C0, n0, m0, ne0, nk0, nc0, nd0, rfl, hr0, hl0⟩ := Cs.cauV_of_trod (hval 0 29 v0 rfl rfl) h0 hw0
  refine (walk_any t0 s0 A0 B0 C0 n0 m0 ne0 nk0 nc0 nd0 W hr0 hl0).mono fun e W' ⟨he, hb⟩ => ?_
  subst he
  exact ⟨_, rfl, law_post hW' (by kernel_rfl) rfl rfl rfl hb⟩
theorem proved : Rows.CausalRightSaid :=
  OpenClaim.holds_of_wide 3 Tryz.f3 rfl rfl rfl rfl rfl rfl rfl ⟨rfl, rfl, rfl, rfl, rfl⟩ rfl rfl rfl rfl rfl (by kernel_rfl) Tryz.func3 (by kernel_rfl)
    (of_decide_eq_true (by kernel_rfl)) (by unfold Func.isWrapper; first | (rw [if_pos (by decide +kernel)]; kernel_rfl) | (rw [if_neg (by decide +kernel)]; exact ⟨rfl, rfl⟩))
    (fun os started H enc _ => lifted os started H enc)
#print axioms proved
end lawCausalRight
end Go.Proofs.YtcbclefemcmhpaaGreat
