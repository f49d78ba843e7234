/- ContextRaises answers true for every two vectors. No condition. -/
import Derived.Test.YtfkkjgebemnhnaaCtxSolid
import Derived.Test.YtfkkjgebemnhnaaCtxSame
import Derived.Test.YtfkkjgebemnhnaaCtxVec2
import Derived.Test.YtfkkjgebemnhnaaCtx5
import Derived.Test.YtfkkjgebemnhnaaCtxAwake
import Derived.Test.YtfkkjgebemnhnaaCtxArgs
import Derived.ProofKit
import Derived.OpenShut
namespace Go.Proofs.Ytfkkjgebemnhnaa.lawContextRaises
open Go.ChangeShapes Go.WideShapes Go.ChangeAt Go.RowKit Sp Rw Cx
def MayH (x : Nat → Int) (b : Bool) : Prop := b = true ↔ MayV x
def SolH (l : List S3) (z : Bool) : Prop := z = true ↔ RightC l ∧ l = fullV (fun d => vecN l true d)
theorem fullV_part {x : Nat → Int} {d : Nat} (hd : d < 4) : Cx.part (fullV x) d = upTo (x d) := by
  unfold fullV
  rw [pre_four, part_glue _ (by unfold Cen; omega)]
  simp
theorem fullV_right {x : Nat → Int} (h : MayV x) : RightC (fullV x) := by
  unfold fullV
  rw [pre_four]
  exact right_glue fun d hd => upTo_right (h d.toNat (by have := hd.1; have := hd.2; omega))
theorem fullV_vec {x : Nat → Int} (h : MayV x) (d : Nat) (hd : d < 4) : vecN (fullV x) true d = x d := by
  unfold vecN
  rw [fullV_part hd]
  simp only [if_true]
  exact upTo_front (h d hd)
theorem fullV_congr {x y : Nat → Int} (h : ∀ d, d < 4 → x d = y d) : fullV x = fullV y := by
  unfold fullV
  exact (by simp only [pre]; rw [h 0 (by omega), h 1 (by omega), h 2 (by omega), h 3 (by omega)])
theorem full_solid {x : Nat → Int} (h : MayV x) : fullV x = fullV (fun d => vecN (fullV x) true d) := fullV_congr fun d hd => (fullV_vec h d hd).symm
/-- is a within b? -/
def InC (a b : List S3) (z : Bool) : Prop := z = true ↔ ∀ d n, Cen d → hasC a d n = true → hasC b d n = true
theorem has_none {d n : Int} : hasC [] d n = false := rfl
theorem leq_nil {a b l : List S3} (hp : PutC minF a b l) : l = [] ↔ ∀ d n, Cen d → hasC a d n = true → hasC b d n = true := by
  constructor
  · rintro rfl d n hd h
    have := hp.has d n hd
    rw [has_none, h] at this
    cases hh : hasC b d n with
    | true => rfl
    | false => rw [hh] at this; cases this
  · intro h
    refine extC hp.right ⟨trivial, fun _ _ => trivial⟩ fun d n hd => ?_
    rw [hp.has d n hd, has_none]
    unfold minF
    cases h1 : hasC a d n with
    | false => rfl
    | true => rw [h d n hd h1]; rfl
theorem leqC_iff (a b : List S3) (n m : Nat) (A B : Option Addr) (c d : Nat) (w : World) (hla : a.length = n) (hlb : b.length = m) (hn : n ≤ 50000) (hm : m ≤ 50000) (hra : Rd w w.heap.size 3 A n c (spsC a)) (hrb : Rd w w.heap.size 3 B m d (spsC b)) (ha : RightC a) (hb : RightC b) (z : Bool) (hz : InC a b z) :
    Calls Try.prog 33 #[.slice A n c, .slice B m d] w fun e w' => e = .returned (.bool z) ∧ Below w.heap.size w w' := by
  refine (leqC_any a b n m A B c d w hla hlb hn hm hra hrb ha hb).mono ?_
  rintro e w' ⟨l, hp, he, hb⟩
  refine ⟨?_, hb⟩
  rw [he]
  congr 2
  rw [Bool.eq_iff_iff, decide_eq_true_iff]
  exact (leq_nil hp).trans (Iff.symm hz)
theorem in_both {a b c u : List S3} (hu : PutC uniF a b u) (h1 : InC a c true) (h2 : InC b c true) : InC u c true := ⟨fun _ d n hd h => by
  rw [hu.has d n hd] at h
  cases e1 : hasC a d n with
  | true => exact h1.1 rfl d n hd e1
  | false => rw [e1] at h; exact h2.1 rfl d n hd h, fun _ => rfl⟩
theorem same_true {a b : List S3} (ha : RightC a) (h : a = b) : true = (rightCB a && decide (a = b)) := by rw [rightCB_true ha, decide_eq_true h]; rfl
theorem same_leq {a b u : List S3} (_ : RightC a) (hb : RightC b) (hu : PutC uniF a b u) (z : Bool) (hz : InC a b z) : z = decide (u = b) := by
  rw [Bool.eq_iff_iff, decide_eq_true_iff]
  refine Iff.trans hz ?_
  constructor
  · intro h
    refine extC hu.right hb fun d n hd => ?_
    rw [hu.has d n hd]
    unfold uniF
    cases h1 : hasC a d n with
    | false => rfl
    | true => rw [h d n hd h1]; rfl
  · rintro rfl d n hd h
    rw [hu.has d n hd, h]; rfl
def AtH (x y : Nat → Int) (b : Bool) : Prop := b = true ↔ ∀ d, d < 4 → x d ≤ y d
theorem cen_nat {d : Int} (h : Cen d) : ∃ k : Nat, d = k ∧ k < 4 := ⟨d.toNat, by have := h.1; omega, by have := h.1; have := h.2; omega⟩
theorem in_full {x y : Nat → Int} (hx : MayV x) (hy : MayV y) {a b : List S3} (ha : a = fullV x) (hb : b = fullV y) {z : Bool} (hz : AtH x y z) : InC a b z := by
  subst ha; subst hb
  refine Iff.trans hz ?_
  constructor
  · intro h d n hd
    obtain ⟨k, rfl, hk⟩ := cen_nat hd
    unfold hasC
    rw [fullV_part hk, fullV_part hk]
    exact (upTo_leq (hx k hk)).2 (.inl (h k hk)) n
  · intro h d hd
    have h1 : ∀ n, hasB (upTo (x d)) n = true → hasB (upTo (y d)) n = true := fun n => by
      have := h d n (by unfold Cen; omega)
      unfold hasC at this
      rwa [fullV_part hd, fullV_part hd] at this
    rcases (upTo_leq (hx d hd)).1 h1 with h2 | h2
    · exact h2
    · have := (hy d hd).1; omega
theorem union_full {x y : Nat → Int} (hx : MayV x) (hy : MayV y) {a b u : List S3} (ha : a = fullV x) (hb : b = fullV y) (hu : PutC uniF a b u) : u = fullV (fun d => max (x d) (y d)) ∧ MayV (fun d => max (x d) (y d)) := by
  subst ha; subst hb
  have hm : MayV (fun d => max (x d) (y d)) := fun d hd => ⟨by have := (hx d hd).1; show 0 ≤ max (x d) (y d); omega, by have := (hx d hd).2; have := (hy d hd).2; show max (x d) (y d) ≤ _; omega⟩
  refine ⟨?_, hm⟩
  refine ext_part hu.right.rise (fullV_right hm).rise fun d hd => ?_
  obtain ⟨k, rfl, hk⟩ := cen_nat hd
  rw [fullV_part hk]
  refine upTo_union (hx k hk) (hy k hk) (hu.right.part k hd) fun n => ?_
  have := hu.has k n hd
  unfold hasC at this
  rw [fullV_part hk, fullV_part hk] at this
  exact this
set_option maxRecDepth 100000 in
set_option maxHeartbeats 8000000 in
theorem walk_any (x y : Nat → Int) (w : World) :
    Calls Try.prog 11 #[.agg #[.int .i64 (x 0), .int .i64 (x 1), .int .i64 (x 2), .int .i64 (x 3)], .agg #[.int .i64 (y 0), .int .i64 (y 1), .int .i64 (y 2), .int .i64 (y 3)]] w fun e w' => e = .returned (.bool true) ∧ Below w.heap.size w w' := by
  obtain ⟨g, hg⟩ : ∃ g, g = w.heap.size := ⟨_, rfl⟩
  obtain ⟨W0, hW0⟩ : ∃ W, W = (w.alloc (.cells #[.int .i64 (x 0), .int .i64 (x 1), .int .i64 (x 2), .int .i64 (x 3)] 26)).alloc (.cells #[.int .i64 (y 0), .int .i64 (y 1), .int .i64 (y 2), .int .i64 (y 3)] 26) := ⟨_, rfl⟩
  have CV : Hid (Cells4 W0 g (fun j => .int .i64 (x j))) := by rw [hW0, hg]; exact (boxV w x).later (Dt.box_below _ _ _)
  have CW : Hid (Cells4 W0 (g + 1) (fun j => .int .i64 (y j))) := by
    have := boxV (w.alloc (.cells #[.int .i64 (x 0), .int .i64 (x 1), .int .i64 (x 2), .int .i64 (x 3)] 26)) y
    rw [hW0, hg]; unfold Hid; simpa using this
  have HB0 : Hid (Below w.heap.size w W0) := by rw [hW0]; exact (Dt.box_below _ _ _).alloc (by simp) _
  have HG := Lib.hid hg
  have HW0 := Lib.hid hW0
  clear hg hW0
  by_cases hM : MayV x
  · by_cases hN : MayV y
    · have HM := Lib.hid hM
      have HN := Lib.hid hN
      have h := hM
      have HMx : Hid (MayH x true) := ⟨fun _ => h, fun _ => rfl⟩
      have h := hN
      have HMy : Hid (MayH y true) := ⟨fun _ => h, fun _ => rfl⟩
      obtain ⟨na, hna⟩ : ∃ n, n = (fullV x).length := ⟨_, rfl⟩
      have h4a : na ≤ 4 := by rw [hna]; exact preV_len x 4 (Nat.le_refl _)
      obtain ⟨ua, hua⟩ : ∃ u, u = fullV x := ⟨_, rfl⟩
      have HLa : Hid (ua.length = na) := by rw [hua]; exact hna.symm
      have HRa : Hid (RightC ua) := by rw [hua]; exact fullV_right hM
      have HUa : Hid (fullV x = ua) := hua.symm
      obtain ⟨nb, hnb⟩ : ∃ n, n = (fullV y).length := ⟨_, rfl⟩
      have h4b : nb ≤ 4 := by rw [hnb]; exact preV_len y 4 (Nat.le_refl _)
      obtain ⟨ub, hub⟩ : ∃ u, u = fullV y := ⟨_, rfl⟩
      have HLb : Hid (ub.length = nb) := by rw [hub]; exact hnb.symm
      have HRb : Hid (RightC ub) := by rw [hub]; exact fullV_right hN
      have HUb : Hid (fullV y = ub) := hub.symm
      obtain ⟨z, hz⟩ : ∃ z : Nat → Int, z = fun d => max (x d) (y d) := ⟨_, rfl⟩
      have HZ : Hid (∀ d, d < 4 → max (x d) (y d) = z d) := fun d _ => by rw [hz]
      obtain ⟨b, hb⟩ : ∃ b : Bool, AtH x y b := ⟨@decide _ (Classical.propDecidable _), @decide_eq_true_iff _ (Classical.propDecidable _)⟩
      have HBB := Lib.hid hb
      have HIN : Hid (InC ua ub b) := in_full hM hN hua hub HBB.out
      have HUZ : Hid (∀ u, PutC uniF ua ub u → u = fullV z ∧ MayV z) := fun u hu => by rw [hz]; exact union_full hM hN hua hub hu
      have fb : (b == b) = true := by cases b <;> rfl
      have ev := fun W => (eqV W z z).trans (show Result.ok (z 0 == z 0 && (z 1 == z 1 && (z 2 == z 2 && z 3 == z 3))) W = Result.ok true W by simp)
      clear h hM hN hna hnb hua hub hz hb
      go_enter Try.func11, Try.ntmps11
      go_wp2_with fail
      rw [← HG.out, ← HW0.out]
      refine (Cx.awake_any _).mono ?_
      rintro e w1 ⟨rfl, hb⟩
      have HB1 := Lib.hid (HB0.out.trans (hb.mono HB0.out.size))
      have CV := Lib.hid (CV.out.later hb)
      have CW := Lib.hid (CW.out.later hb)
      clear hb
      have k0 := CV.out.cell 0 (by omega)
      have k1 := CV.out.cell 1 (by omega)
      have k2 := CV.out.cell 2 (by omega)
      have k3 := CV.out.cell 3 (by omega)
      go_wp2_with fail
      refine (refmay_any x w1 true HMx.out).mono ?_
      rintro e w2 ⟨rfl, hb⟩
      have HB2 := Lib.hid (HB1.out.trans (hb.mono HB1.out.size))
      have CV := Lib.hid (CV.out.later hb)
      have CW := Lib.hid (CW.out.later hb)
      clear hb
      clear k0 k1 k2 k3
      have j0 := CW.out.cell 0 (by omega)
      have j1 := CW.out.cell 1 (by omega)
      have j2 := CW.out.cell 2 (by omega)
      have j3 := CW.out.cell 3 (by omega)
      go_wp2_with fail
      refine (refmay_any y w2 true HMy.out).mono ?_
      rintro e w3 ⟨rfl, hb⟩
      have HB3 := Lib.hid (HB2.out.trans (hb.mono HB2.out.size))
      have CV := Lib.hid (CV.out.later hb)
      have CW := Lib.hid (CW.out.later hb)
      clear hb
      clear j0 j1 j2 j3
      have k0 := CV.out.cell 0 (by omega)
      have k1 := CV.out.cell 1 (by omega)
      have k2 := CV.out.cell 2 (by omega)
      have k3 := CV.out.cell 3 (by omega)
      go_wp2_with fail
      refine (fullC_any x w3 HM.out na (by rw [HUa.out]; exact HLa.out)).mono ?_
      rintro e w4 ⟨Aa, ca, rfl, hra, hb⟩
      have HB4 := Lib.hid (HB3.out.trans (hb.mono HB3.out.size))
      have CV := Lib.hid (CV.out.later hb)
      have CW := Lib.hid (CW.out.later hb)
      clear hb
      rw [HUa.out] at hra
      have Ra := Lib.hid hra
      clear hra
      clear k0 k1 k2 k3
      have j0 := CW.out.cell 0 (by omega)
      have j1 := CW.out.cell 1 (by omega)
      have j2 := CW.out.cell 2 (by omega)
      have j3 := CW.out.cell 3 (by omega)
      go_wp2_with fail
      refine (fullC_any y w4 HN.out nb (by rw [HUb.out]; exact HLb.out)).mono ?_
      rintro e w5 ⟨Ab, cb, rfl, hrb, hb⟩
      have HB5 := Lib.hid (HB4.out.trans (hb.mono HB4.out.size))
      have Ra := Lib.hid (Ra.out.later hb)
      have CV := Lib.hid (CV.out.later hb)
      have CW := Lib.hid (CW.out.later hb)
      clear hb
      rw [HUb.out] at hrb
      have Rb := Lib.hid hrb
      clear hrb
      clear j0 j1 j2 j3
      go_wp2_with fail
      refine (unionC_any ua ub na nb Aa Ab ca cb w5 HLa.out HLb.out (by omega) (by omega) Ra.out Rb.out HRa.out HRb.out).mono ?_
      rintro e w6 ⟨uu, nu, Au, cu, rfl, HLu, HPu, hqu, Ru, hb⟩
      have HB6 := Lib.hid (HB5.out.trans (hb.mono HB5.out.size))
      have Ra := Lib.hid (Ra.out.later hb)
      have Rb := Lib.hid (Rb.out.later hb)
      have CV := Lib.hid (CV.out.later hb)
      have CW := Lib.hid (CW.out.later hb)
      clear hb
      obtain ⟨huz, hmz⟩ := HUZ.out uu HPu.out
      have HSO : Hid (SolH uu true) := by rw [huz]; exact ⟨fun _ => ⟨fullV_right hmz, full_solid hmz⟩, fun _ => rfl⟩
      have HVY : Hid (∀ d, d < 4 → z d = vecN uu true d) := fun d hd => by rw [huz]; exact (fullV_vec hmz d hd).symm
      clear huz hmz
      go_wp2
      have k0 := CV.out.cell 0 (by omega)
      have k1 := CV.out.cell 1 (by omega)
      have k2 := CV.out.cell 2 (by omega)
      have k3 := CV.out.cell 3 (by omega)
      have j0 := CW.out.cell 0 (by omega)
      have j1 := CW.out.cell 1 (by omega)
      have j2 := CW.out.cell 2 (by omega)
      have j3 := CW.out.cell 3 (by omega)
      refine wp_region_held_drew (S := fun W => W.cell? ⟨g, 0, none⟩ = some (.int .i64 (x 0)) ∧ W.cell? ⟨g, 1, none⟩ = some (.int .i64 (x 1)) ∧ W.cell? ⟨g, 2, none⟩ = some (.int .i64 (x 2)) ∧ W.cell? ⟨g, 3, none⟩ = some (.int .i64 (x 3)) ∧ W.cell? ⟨g + 1, 0, none⟩ = some (.int .i64 (y 0)) ∧ W.cell? ⟨g + 1, 1, none⟩ = some (.int .i64 (y 1)) ∧ W.cell? ⟨g + 1, 2, none⟩ = some (.int .i64 (y 2)) ∧ W.cell? ⟨g + 1, 3, none⟩ = some (.int .i64 (y 3))) (by kernel_rfl) (by go_keep) (fun hHeld => ?_)
      obtain ⟨w7, hw7⟩ : ∃ W, W = w6.drew := ⟨_, rfl⟩
      have hbd : Below w6.heap.size w6 w7 := by rw [hw7]; exact (Below.refl _ _).drew
      have HB7 := Lib.hid (HB6.out.trans (hbd.mono HB6.out.size))
      have Ra := Lib.hid (Ra.out.later hbd)
      have Rb := Lib.hid (Rb.out.later hbd)
      have Ru := Lib.hid (Ru.out.later hbd)
      have CV := Lib.hid (CV.out.later hbd)
      have CW := Lib.hid (CW.out.later hbd)
      clear hbd
      rw [← hw7] at hHeld ⊢
      clear hw7
      clear k0 k1 k2 k3
      clear j0 j1 j2 j3
      refine wpAnyH_take (i := 0) (oi := ⟨some 36, _, _, _, _, _⟩) (v := ?_) rfl (by kernel_rfl) (by kernel_rfl) (by kernel_rfl) (fun _ _ _ h => h) (Or.inl ⟨by kernel_rfl, ?_⟩) (by assumption) ?_
      rotate_left
      (intro wz hSw; (try dsimp only at hSw); go_simp; try with_reducible rfl)
      try simp only [Act.put, List.setIfInBounds_toArray, List.set_cons_zero, List.set_cons_succ]
      refine wpAnyH_take (i := 1) (oi := ⟨some 37, _, _, _, _, _⟩) (v := ?_) rfl (by kernel_rfl) (by kernel_rfl) (by kernel_rfl) (fun _ _ _ h => h) (Or.inl ⟨by kernel_rfl, ?_⟩) (by assumption) ?_
      rotate_left
      (intro wz hSw; (try dsimp only at hSw); go_simp; try with_reducible rfl)
      try simp only [Act.put, List.setIfInBounds_toArray, List.set_cons_zero, List.set_cons_succ]
      refine wpAnyH_take (i := 2) (oi := ⟨some 38, _, _, _, _, _⟩) (v := ?_) rfl (by kernel_rfl) (by kernel_rfl) (by kernel_rfl) (fun _ _ _ h => h) (Or.inl ⟨by kernel_rfl, ?_⟩) (by assumption) ?_
      rotate_left
      (intro wz hSw; (try dsimp only at hSw); go_simp; try with_reducible rfl)
      try simp only [Act.put, List.setIfInBounds_toArray, List.set_cons_zero, List.set_cons_succ]
      refine wpAnyH_take (i := 3) (oi := ⟨some 39, _, _, _, _, _⟩) (v := ?_) rfl (by kernel_rfl) (by kernel_rfl) (by kernel_rfl) (fun _ _ _ h => h) (Or.inl ⟨by kernel_rfl, ?_⟩) (by assumption) ?_
      rotate_left
      (intro wz hSw; (try dsimp only at hSw); go_simp; try with_reducible rfl)
      try simp only [Act.put, List.setIfInBounds_toArray, List.set_cons_zero, List.set_cons_succ]
      refine wpAnyH_take (i := 4) (oi := ⟨some 40, _, _, _, _, _⟩) (v := ?_) rfl (by kernel_rfl) (by kernel_rfl) (by kernel_rfl) (fun _ _ _ h => h) (Or.inl ⟨by kernel_rfl, ?_⟩) (by assumption) ?_
      rotate_left
      (intro wz hSw; (try dsimp only at hSw); go_simp; try with_reducible rfl)
      try simp only [Act.put, List.setIfInBounds_toArray, List.set_cons_zero, List.set_cons_succ]
      refine wpAnyH_take (i := 5) (oi := ⟨some 41, _, _, _, _, _⟩) (v := ?_) rfl (by kernel_rfl) (by kernel_rfl) (by kernel_rfl) (fun _ _ _ h => h) (Or.inl ⟨by kernel_rfl, ?_⟩) (by assumption) ?_
      rotate_left
      (intro wz hSw; (try dsimp only at hSw); go_simp; try with_reducible rfl)
      try simp only [Act.put, List.setIfInBounds_toArray, List.set_cons_zero, List.set_cons_succ]
      refine wpAnyH_take (i := 6) (oi := ⟨some 42, _, _, _, _, _⟩) (v := ?_) rfl (by kernel_rfl) (by kernel_rfl) (by kernel_rfl) (fun _ _ _ h => h) (Or.inl ⟨by kernel_rfl, ?_⟩) (by assumption) ?_
      rotate_left
      (intro wz hSw; (try dsimp only at hSw); go_simp; try with_reducible rfl)
      try simp only [Act.put, List.setIfInBounds_toArray, List.set_cons_zero, List.set_cons_succ]
      refine wpAnyH_take (i := 7) (oi := ⟨some 43, _, _, _, _, _⟩) (v := ?_) rfl (by kernel_rfl) (by kernel_rfl) (by kernel_rfl) (fun _ _ _ h => h) (Or.inl ⟨by kernel_rfl, ?_⟩) (by assumption) ?_
      rotate_left
      (intro wz hSw; (try dsimp only at hSw); go_simp; try with_reducible rfl)
      try simp only [Act.put, List.setIfInBounds_toArray, List.set_cons_zero, List.set_cons_succ]
      refine wpAnyH_ready (rs := [8]) (by kernel_rfl) (by simp) ?_
      refine AllReadyH.cons (o := ⟨some 44, _, _, _, _, _⟩) rfl (fun K hK => ?_) AllReadyH.nil
      go_simp
      go_at_call 16
      refine (solidC_any uu nu Au cu _ HLu.out (by omega) Ru.out true HSO.out).mono ?_
      rintro e w8 ⟨rfl, hb⟩
      have HB8 := Lib.hid (HB7.out.trans (hb.mono HB7.out.size))
      have Ra := Lib.hid (Ra.out.later hb)
      have Rb := Lib.hid (Rb.out.later hb)
      have Ru := Lib.hid (Ru.out.later hb)
      have CV := Lib.hid (CV.out.later hb)
      have CW := Lib.hid (CW.out.later hb)
      clear hb
      refine hK.out _ _ ?_ (fun hHeld2 => ?_)
      exact ⟨CV.out.cell 0 (by omega), CV.out.cell 1 (by omega), CV.out.cell 2 (by omega), CV.out.cell 3 (by omega), CW.out.cell 0 (by omega), CW.out.cell 1 (by omega), CW.out.cell 2 (by omega), CW.out.cell 3 (by omega)⟩
      clear hK K hHeld
      have hHeld := hHeld2
      clear hHeld2
      try simp only [Act.put, List.setIfInBounds_toArray, List.set_cons_zero, List.set_cons_succ]
      refine wpAnyH_take (i := 9) (oi := ⟨some 45, _, _, _, _, _⟩) (v := ?_) rfl (by kernel_rfl) (by kernel_rfl) (by kernel_rfl) (fun _ _ _ h => h) (Or.inl ⟨by kernel_rfl, ?_⟩) (by assumption) ?_
      rotate_left
      (intro wz hSw; (try dsimp only at hSw); go_simp; try with_reducible rfl)
      try simp only [Act.put, List.setIfInBounds_toArray, List.set_cons_zero, List.set_cons_succ]
      refine wpAnyH_take (i := 10) (oi := ⟨some 46, _, _, _, _, _⟩) (v := ?_) rfl (by kernel_rfl) (by kernel_rfl) (by kernel_rfl) (fun _ _ _ h => h) (Or.inl ⟨by kernel_rfl, ?_⟩) (by assumption) ?_
      rotate_left
      (intro wz hSw; (try dsimp only at hSw); go_simp; try with_reducible rfl)
      try simp only [Act.put, List.setIfInBounds_toArray, List.set_cons_zero, List.set_cons_succ]
      refine wpAnyH_take (i := 11) (oi := ⟨some 47, _, _, _, _, _⟩) (v := ?_) rfl (by kernel_rfl) (by kernel_rfl) (by kernel_rfl) (fun _ _ _ h => h) (Or.inl ⟨by kernel_rfl, ?_⟩) (by assumption) ?_
      rotate_left
      (intro wz hSw; (try dsimp only at hSw); go_simp; try with_reducible rfl)
      try simp only [Act.put, List.setIfInBounds_toArray, List.set_cons_zero, List.set_cons_succ]
      refine wpAnyH_take (i := 13) (oi := ⟨some 49, _, _, _, _, _⟩) (v := ?_) rfl (by kernel_rfl) (by kernel_rfl) (by kernel_rfl) (fun _ _ _ h => h) (Or.inl ⟨by kernel_rfl, ?_⟩) (by assumption) ?_
      rotate_left
      (intro wz hSw; (try dsimp only at hSw); go_simp; try with_reducible rfl)
      try simp only [Act.put, List.setIfInBounds_toArray, List.set_cons_zero, List.set_cons_succ]
      refine wpAnyH_take (i := 14) (oi := ⟨some 50, _, _, _, _, _⟩) (v := ?_) rfl (by kernel_rfl) (by kernel_rfl) (by kernel_rfl) (fun _ _ _ h => h) (Or.inl ⟨by kernel_rfl, ?_⟩) (by assumption) ?_
      rotate_left
      (intro wz hSw; (try dsimp only at hSw); go_simp; try with_reducible rfl)
      try simp only [Act.put, List.setIfInBounds_toArray, List.set_cons_zero, List.set_cons_succ]
      refine wpAnyH_ready (rs := [12]) (by kernel_rfl) (by simp) ?_
      refine AllReadyH.cons (o := ⟨some 48, _, _, _, _, _⟩) rfl (fun K hK => ?_) AllReadyH.nil
      go_simp
      go_at_call 13
      refine (vectorC_any uu nu Au cu _ HLu.out (by omega) Ru.out true (rightCB_true HPu.out.right) z HVY.out).mono ?_
      rintro e w9 ⟨rfl, hb⟩
      have HB9 := Lib.hid (HB8.out.trans (hb.mono HB8.out.size))
      have Ra := Lib.hid (Ra.out.later hb)
      have Rb := Lib.hid (Rb.out.later hb)
      have Ru := Lib.hid (Ru.out.later hb)
      have CV := Lib.hid (CV.out.later hb)
      have CW := Lib.hid (CW.out.later hb)
      clear hb
      refine hK.out _ _ ?_ (fun hHeld2 => ?_)
      exact ⟨CV.out.cell 0 (by omega), CV.out.cell 1 (by omega), CV.out.cell 2 (by omega), CV.out.cell 3 (by omega), CW.out.cell 0 (by omega), CW.out.cell 1 (by omega), CW.out.cell 2 (by omega), CW.out.cell 3 (by omega)⟩
      clear hK K hHeld
      have hHeld := hHeld2
      clear hHeld2
      try simp only [Act.put, List.setIfInBounds_toArray, List.set_cons_zero, List.set_cons_succ]
      refine wpAnyH_ready (rs := [15]) (by kernel_rfl) (by simp) ?_
      refine AllReadyH.cons (o := ⟨some 51, _, _, _, _, _⟩) rfl (fun K hK => ?_) AllReadyH.nil
      go_simp
      go_at_call 39
      refine (raised_any x y z _ HZ.out).mono ?_
      rintro e w10 ⟨rfl, hb⟩
      have HB10 := Lib.hid (HB9.out.trans (hb.mono HB9.out.size))
      have Ra := Lib.hid (Ra.out.later hb)
      have Rb := Lib.hid (Rb.out.later hb)
      have Ru := Lib.hid (Ru.out.later hb)
      have CV := Lib.hid (CV.out.later hb)
      have CW := Lib.hid (CW.out.later hb)
      clear hb
      refine hK.out _ _ ?_ (fun hHeld2 => ?_)
      exact ⟨CV.out.cell 0 (by omega), CV.out.cell 1 (by omega), CV.out.cell 2 (by omega), CV.out.cell 3 (by omega), CW.out.cell 0 (by omega), CW.out.cell 1 (by omega), CW.out.cell 2 (by omega), CW.out.cell 3 (by omega)⟩
      clear hK K hHeld
      have hHeld := hHeld2
      clear hHeld2
      try simp only [Act.put, List.setIfInBounds_toArray, List.set_cons_zero, List.set_cons_succ]
      refine wpAnyH_take (i := 16) (oi := ⟨some 52, _, _, _, _, _⟩) (v := ?_) rfl (by kernel_rfl) (by kernel_rfl) (by kernel_rfl) (fun _ _ _ h => h) (Or.inl ⟨by kernel_rfl, ?_⟩) (by assumption) ?_
      rotate_left
      (intro wz hSw; (try dsimp only at hSw); go_simp; try with_reducible rfl)
      try simp only [Act.put, List.setIfInBounds_toArray, List.set_cons_zero, List.set_cons_succ]
      refine wpAnyH_take (i := 17) (oi := ⟨some 53, _, _, _, _, _⟩) (v := ?_) rfl (by kernel_rfl) (by kernel_rfl) (by kernel_rfl) (fun _ _ _ h => h) (Or.inl ⟨by kernel_rfl, ?_⟩) (by assumption) ?_
      rotate_left
      (intro wz hSw; (try dsimp only at hSw); go_simp; try with_reducible rfl)
      try simp only [Act.put, List.setIfInBounds_toArray, List.set_cons_zero, List.set_cons_succ]
      refine wpAnyH_take (i := 18) (oi := ⟨some 54, _, _, _, _, _⟩) (v := ?_) rfl (by kernel_rfl) (by kernel_rfl) (by kernel_rfl) (fun _ _ _ h => h) (Or.inl ⟨by kernel_rfl, ?_⟩) (by assumption) ?_
      rotate_left
      (intro wz hSw; (try dsimp only at hSw); go_simp; try with_reducible rfl)
      try simp only [Act.put, List.setIfInBounds_toArray, List.set_cons_zero, List.set_cons_succ]
      refine wpAnyH_take (i := 19) (oi := ⟨some 55, _, _, _, _, _⟩) (v := ?_) rfl (by kernel_rfl) (by kernel_rfl) (by kernel_rfl) (fun _ _ _ h => h) (Or.inl ⟨by kernel_rfl, ?_⟩) (by assumption) ?_
      rotate_left
      (intro wz hSw; (try dsimp only at hSw); go_simp; try with_reducible rfl)
      try simp only [Act.put, List.setIfInBounds_toArray, List.set_cons_zero, List.set_cons_succ]
      refine wpAnyH_take (i := 20) (oi := ⟨some 56, _, _, _, _, _⟩) (v := ?_) rfl (by kernel_rfl) (by kernel_rfl) (by kernel_rfl) (fun _ _ _ h => h) (Or.inl ⟨by kernel_rfl, ?_⟩) (by assumption) ?_
      rotate_left
      (intro wz hSw; (try dsimp only at hSw); go_simp; try with_reducible rfl)
      try simp only [Act.put, List.setIfInBounds_toArray, List.set_cons_zero, List.set_cons_succ]
      refine wpAnyH_take (i := 22) (oi := ⟨some 58, _, _, _, _, _⟩) (v := ?_) rfl (by kernel_rfl) (by kernel_rfl) (by kernel_rfl) (fun _ _ _ h => h) (Or.inl ⟨by kernel_rfl, ?_⟩) (by assumption) ?_
      rotate_left
      (intro wz hSw; (try dsimp only at hSw); go_simp; try with_reducible rfl)
      try simp only [Act.put, List.setIfInBounds_toArray, List.set_cons_zero, List.set_cons_succ]
      refine wpAnyH_take (i := 23) (oi := ⟨some 59, _, _, _, _, _⟩) (v := ?_) rfl (by kernel_rfl) (by kernel_rfl) (by kernel_rfl) (fun _ _ _ h => h) (Or.inl ⟨by kernel_rfl, ?_⟩) (by assumption) ?_
      rotate_left
      (intro wz hSw; (try dsimp only at hSw); go_simp; try with_reducible rfl)
      try simp only [Act.put, List.setIfInBounds_toArray, List.set_cons_zero, List.set_cons_succ]
      refine wpAnyH_ready (rs := [21]) (by kernel_rfl) (by simp) ?_
      refine AllReadyH.cons (o := ⟨some 57, _, _, _, _, _⟩) rfl (fun K hK => ?_) AllReadyH.nil
      go_simp
      go_at_call 33
      refine (leqC_iff ua ub na nb Aa Ab ca cb _ HLa.out HLb.out (by omega) (by omega) Ra.out Rb.out HRa.out HRb.out b HIN.out).mono ?_
      rintro e w11 ⟨rfl, hb⟩
      have HB11 := Lib.hid (HB10.out.trans (hb.mono HB10.out.size))
      have Ra := Lib.hid (Ra.out.later hb)
      have Rb := Lib.hid (Rb.out.later hb)
      have Ru := Lib.hid (Ru.out.later hb)
      have CV := Lib.hid (CV.out.later hb)
      have CW := Lib.hid (CW.out.later hb)
      clear hb
      refine hK.out _ _ ?_ (fun hHeld2 => ?_)
      exact ⟨CV.out.cell 0 (by omega), CV.out.cell 1 (by omega), CV.out.cell 2 (by omega), CV.out.cell 3 (by omega), CW.out.cell 0 (by omega), CW.out.cell 1 (by omega), CW.out.cell 2 (by omega), CW.out.cell 3 (by omega)⟩
      clear hK K hHeld
      have hHeld := hHeld2
      clear hHeld2
      try simp only [Act.put, List.setIfInBounds_toArray, List.set_cons_zero, List.set_cons_succ]
      refine wpAnyH_ready (rs := [24]) (by kernel_rfl) (by simp) ?_
      refine AllReadyH.cons (o := ⟨some 60, _, _, _, _, _⟩) rfl (fun K hK => ?_) AllReadyH.nil
      go_simp
      go_at_call 40
      refine (atmost_any x y _ b HBB.out).mono ?_
      rintro e w12 ⟨rfl, hb⟩
      have HB12 := Lib.hid (HB11.out.trans (hb.mono HB11.out.size))
      have Ra := Lib.hid (Ra.out.later hb)
      have Rb := Lib.hid (Rb.out.later hb)
      have Ru := Lib.hid (Ru.out.later hb)
      have CV := Lib.hid (CV.out.later hb)
      have CW := Lib.hid (CW.out.later hb)
      clear hb
      refine hK.out _ _ ?_ (fun hHeld2 => ?_)
      exact ⟨CV.out.cell 0 (by omega), CV.out.cell 1 (by omega), CV.out.cell 2 (by omega), CV.out.cell 3 (by omega), CW.out.cell 0 (by omega), CW.out.cell 1 (by omega), CW.out.cell 2 (by omega), CW.out.cell 3 (by omega)⟩
      clear hK K hHeld
      have hHeld := hHeld2
      clear hHeld2
      try simp only [Act.put, List.setIfInBounds_toArray, List.set_cons_zero, List.set_cons_succ]
      refine wpAnyH_take (i := 25) (oi := ⟨some 61, _, _, _, _, _⟩) (v := ?_) rfl (by kernel_rfl) (by kernel_rfl) (by kernel_rfl) (fun _ _ _ h => h) (Or.inl ⟨by kernel_rfl, ?_⟩) (by assumption) ?_
      rotate_left
      (intro wz hSw; (try dsimp only at hSw); go_simp; try with_reducible rfl)
      try simp only [Act.put, List.setIfInBounds_toArray, List.set_cons_zero, List.set_cons_succ]
      refine wpAnyH_take (i := 26) (oi := ⟨some 62, _, _, _, _, _⟩) (v := ?_) rfl (by kernel_rfl) (by kernel_rfl) (by kernel_rfl) (fun _ _ _ h => h) (Or.inl ⟨by kernel_rfl, ?_⟩) (by assumption) ?_
      rotate_left
      (intro wz hSw; (try dsimp only at hSw); go_simp; try with_reducible rfl)
      try simp only [Act.put, List.setIfInBounds_toArray, List.set_cons_zero, List.set_cons_succ]
      refine wpAnyH_take (i := 27) (oi := ⟨some 4, _, _, _, _, _⟩) (v := ?_) rfl (by kernel_rfl) (by kernel_rfl) (by kernel_rfl) (fun _ _ _ h => h) (Or.inl ⟨by kernel_rfl, ?_⟩) (by assumption) ?_
      rotate_left
      (intro wz hSw; (try dsimp only at hSw); go_simp; try with_reducible rfl)
      try simp only [Act.put, List.setIfInBounds_toArray, List.set_cons_zero, List.set_cons_succ]
      refine wpAnyH_done (by kernel_rfl) ?_ _
      go_wp2
      go_ret
      exact ⟨rfl, HB12.out⟩
    · have h := hM
      have HMx : Hid (MayH x true) := ⟨fun _ => h, fun _ => rfl⟩
      have h := hN
      have HMy : Hid (MayH y false) := ⟨fun h2 => Bool.noConfusion h2, fun h2 => absurd h2 h⟩
      clear h hM hN
      go_enter Try.func11, Try.ntmps11
      go_wp2_with fail
      rw [← HG.out, ← HW0.out]
      refine (Cx.awake_any _).mono ?_
      rintro e w1 ⟨rfl, hb⟩
      have HB1 := Lib.hid (HB0.out.trans (hb.mono HB0.out.size))
      have CV := Lib.hid (CV.out.later hb)
      have CW := Lib.hid (CW.out.later hb)
      clear hb
      have k0 := CV.out.cell 0 (by omega)
      have k1 := CV.out.cell 1 (by omega)
      have k2 := CV.out.cell 2 (by omega)
      have k3 := CV.out.cell 3 (by omega)
      go_wp2_with fail
      refine (refmay_any x w1 true HMx.out).mono ?_
      rintro e w2 ⟨rfl, hb⟩
      have HB2 := Lib.hid (HB1.out.trans (hb.mono HB1.out.size))
      have CV := Lib.hid (CV.out.later hb)
      have CW := Lib.hid (CW.out.later hb)
      clear hb
      clear k0 k1 k2 k3
      have j0 := CW.out.cell 0 (by omega)
      have j1 := CW.out.cell 1 (by omega)
      have j2 := CW.out.cell 2 (by omega)
      have j3 := CW.out.cell 3 (by omega)
      go_wp2_with fail
      refine (refmay_any y w2 false HMy.out).mono ?_
      rintro e w3 ⟨rfl, hb⟩
      have HB3 := Lib.hid (HB2.out.trans (hb.mono HB2.out.size))
      have CV := Lib.hid (CV.out.later hb)
      have CW := Lib.hid (CW.out.later hb)
      clear hb
      clear j0 j1 j2 j3
      go_wp2_with fail
      refine (Cx.awake_any _).mono ?_
      rintro e w4 ⟨rfl, hb⟩
      have HB4 := Lib.hid (HB3.out.trans (hb.mono HB3.out.size))
      have CV := Lib.hid (CV.out.later hb)
      have CW := Lib.hid (CW.out.later hb)
      clear hb
      go_wp2
      go_ret
      exact ⟨rfl, HB4.out⟩
  · have h := hM
    have HMx : Hid (MayH x false) := ⟨fun h2 => Bool.noConfusion h2, fun h2 => absurd h2 h⟩
    clear h hM
    go_enter Try.func11, Try.ntmps11
    go_wp2_with fail
    rw [← HG.out, ← HW0.out]
    refine (Cx.awake_any _).mono ?_
    rintro e w1 ⟨rfl, hb⟩
    have HB1 := Lib.hid (HB0.out.trans (hb.mono HB0.out.size))
    have CV := Lib.hid (CV.out.later hb)
    have CW := Lib.hid (CW.out.later hb)
    clear hb
    have k0 := CV.out.cell 0 (by omega)
    have k1 := CV.out.cell 1 (by omega)
    have k2 := CV.out.cell 2 (by omega)
    have k3 := CV.out.cell 3 (by omega)
    go_wp2_with fail
    refine (refmay_any x w1 false HMx.out).mono ?_
    rintro e w2 ⟨rfl, hb⟩
    have HB2 := Lib.hid (HB1.out.trans (hb.mono HB1.out.size))
    have CV := Lib.hid (CV.out.later hb)
    have CW := Lib.hid (CW.out.later hb)
    clear hb
    clear k0 k1 k2 k3
    go_wp2_with fail
    refine (Cx.awake_any _).mono ?_
    rintro e w3 ⟨rfl, hb⟩
    have HB3 := Lib.hid (HB2.out.trans (hb.mono HB2.out.size))
    have CV := Lib.hid (CV.out.later hb)
    have CW := Lib.hid (CW.out.later hb)
    clear hb
    go_wp2
    go_ret
    exact ⟨rfl, HB3.out⟩
set_option maxRecDepth 100000 in
theorem lifted (os : Os) (started : os.Started) (H : Type) (enc : TypeId × Value → H) :
    ReturnsInHanded {} Try.checked os 11 .any (Rows.contextRaisesSpec.pre6 enc Try.prog Try.f11 Rows.contextRaisesRow.domain false) (Rows.contextRaisesSpec.post enc Try.prog Try.f11 false true false false) := by
  refine returnsInHanded_of_change (C := Try.checked) own started (by kernel_rfl) Try.func11
    (ChangeSpec.witness6 (enc := enc) (C := Try.checked) false ⟨#[], #[.agg #[.int .i64 0, .int .i64 0, .int .i64 0, .int .i64 0], .agg #[.int .i64 0, .int .i64 0, .int .i64 0, .int .i64 0]], []⟩ 8 (by kernel_rfl) (by kernel_rfl) (by kernel_rfl) (by kernel_rfl)) ?_
  intro W base args ds gs before hval0 hW _ _
  have hval : ∀ (j : Nat) t v, Try.f11.params[j]? = some t → args[j]? = some v → Value.okWide Try.prog W .any base t v := hval0
  have hW' := hW
  obtain ⟨p, q, hA0, hV, rfl, hfz, hnd⟩ := hW
  have hA : DataW.TrodAll enc Try.prog W 0 (fun _ => true) true Try.f11.params.toList args.toList ds p := hA0
  rw [Try.params11] at hA hval
  obtain ⟨v0, v1, d0, d1, p0, p1, rfl, rfl, rfl, h0, h1⟩ := trodAll_two hA
  obtain ⟨rfl, rfl⟩ := trodVars_none hV
  obtain ⟨x0, rfl⟩ := Cx.vec_of_trod (hval 0 26 v0 rfl rfl) h0
  obtain ⟨x1, rfl⟩ := Cx.vec_of_trod (hval 1 26 v1 rfl rfl) h1
  refine (walk_any x0 x1 W  ).mono fun e W' ⟨he, hb⟩ => ?_
  subst he
  exact ⟨_, rfl, law_post hW' (by kernel_rfl) rfl rfl rfl hb⟩
theorem proved : Rows.ContextRaisesSaid :=
  OpenClaim.holds_of_wide 11 Try.f11 rfl rfl rfl rfl rfl rfl rfl ⟨rfl, rfl, rfl, rfl, rfl⟩ rfl rfl rfl rfl rfl (by kernel_rfl) Try.func11 (by kernel_rfl)
    (of_decide_eq_true (by kernel_rfl)) (by unfold Func.isWrapper; first | (rw [if_pos (by decide +kernel)]; kernel_rfl) | (rw [if_neg (by decide +kernel)]; exact ⟨rfl, rfl⟩))
    (fun os started H enc _ => lifted os started H enc)
#print axioms proved
end Go.Proofs.Ytfkkjgebemnhnaa.lawContextRaises
