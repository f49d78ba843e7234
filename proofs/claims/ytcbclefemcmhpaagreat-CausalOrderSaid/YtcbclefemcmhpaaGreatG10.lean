/- Texts of the lower layers, and of layer 9, put together. -/
import Derived.Test.YtcbclefemcmhpaaGreatG00
import Derived.Test.YtcbclefemcmhpaaGreatCauHas
import Derived.Test.YtcbclefemcmhpaaGreatTreeLeaves
import Derived.Test.YtcbclefemcmhpaaGreatG01
import Derived.Test.YtcbclefemcmhpaaGreatTreeRight
import Derived.Test.YtcbclefemcmhpaaGreatSpanJoin
import Derived.Test.YtcbclefemcmhpaaGreatSpanBy
import Derived.Test.YtcbclefemcmhpaaGreatTreeRefSame
import Derived.Test.YtcbclefemcmhpaaGreatG02
import Derived.SizedLaws
import Derived.ProofKit
import Derived.OpenShut
import Derived.ChangeMaps5
namespace Go.Proofs.YtcbclefemcmhpaaGreat
open Go.ChangeShapes Go.WideShapes Go.ChangeAt Go.RowKit
namespace Cs
open Tr Cx Sp Rw
/-- three boxes of entries -/
theorem boxE3 (w : World) (xa xn : Int) (xs : ByteArray) (xv ya yn : Int) (ys : ByteArray) (yv : Int) : ∃ (W : World) (p y r : Nat), Hid (W = ((w.alloc (.cells #[.int .i64 xa, .int .i64 xn, .string xs, .int .i64 xv] 58)).alloc (.cells #[.int .i64 ya, .int .i64 yn, .string ys, .int .i64 yv] 58)).alloc (.cells #[.int .i64 0, .int .i64 0, .string ⟨#[]⟩, .int .i64 0] 58)) ∧ Hid (p = w.heap.size) ∧ Hid (y = p + 1) ∧ Hid (r = p + 1 + 1) ∧ Hid (Kept [(⟨p, 0, none⟩, .int .i64 xa), (⟨p, 1, none⟩, .int .i64 xn), (⟨p, 2, none⟩, .string xs), (⟨p, 3, none⟩, .int .i64 xv), (⟨y, 0, none⟩, .int .i64 ya), (⟨y, 1, none⟩, .int .i64 yn), (⟨y, 2, none⟩, .string ys), (⟨y, 3, none⟩, .int .i64 yv), (⟨r, 0, none⟩, .int .i64 0), (⟨r, 1, none⟩, .int .i64 0), (⟨r, 2, none⟩, .string ⟨#[]⟩), (⟨r, 3, none⟩, .int .i64 0)] w W) ∧ Hid (Free r W) := by
  refine ⟨_, _, _, _, rfl, rfl, rfl, rfl, ?_, ⟨by simp, fun j => by go_simp⟩⟩
  have h0 := Kept.nil_of (box3_below w #[.int .i64 xa, .int .i64 xn, .string xs, .int .i64 xv] #[.int .i64 ya, .int .i64 yn, .string ys, .int .i64 yv] #[.int .i64 0, .int .i64 0, .string ⟨#[]⟩, .int .i64 0] 58 58 58)
  refine (((((((((((h0.cons_of ?_).cons_of ?_).cons_of ?_).cons_of ?_).cons_of ?_).cons_of ?_).cons_of ?_).cons_of ?_).cons_of ?_).cons_of ?_).cons_of ?_).cons_of ?_ <;> go_simp
/-- what is told of what stays -/
def StayE (o : Option E) (w : World) (e : Ending) (w' : World) : Prop := ∃ z : E, e = .returned (.tuple #[entV z, .bool o.isSome]) ∧ (∀ y, o = some y → z = y) ∧ Below w.heap.size w w'
set_option maxRecDepth 100000 in
set_option maxHeartbeats 4000000 in
theorem stayE_left (cb : List S3) (Cb : Option Addr) (nb cb9 : Nat) (ba bb : Nat) (xa xn : Int) (xs : ByteArray) (xv : Int) (w : World) (hl : cb.length = nb) (hn : nb ≤ 100000) (hc : w.cell? ⟨bb, 2, none⟩ = some (.slice Cb nb cb9)) (hr : Rd w w.heap.size 3 Cb nb cb9 (spsC cb)) (hC : RightC cb) :
    Calls Tryz.prog 120 #[.agg #[.int .i64 xa, .int .i64 xn, .string xs, .int .i64 xv], .agg #[.int .i64 0, .int .i64 0, .string ⟨#[]⟩, .int .i64 0], .pointer (some ⟨bb, 0, none⟩), .pointer (some ⟨ba, 0, none⟩)] w (StayE (if hasC cb xa xn = true then none else some (⟨xa, xn, xs, xv⟩ : E)) w) := by
  obtain ⟨h9, hh9⟩ : ∃ z, hasC cb xa xn = z := ⟨_, rfl⟩
  rw [hh9]
  obtain ⟨o9, ho9⟩ : ∃ o, (if h9 = true then none else some (⟨xa, xn, xs, xv⟩ : E)) = o := ⟨_, rfl⟩
  rw [ho9]
  have HO := Lib.hid ho9
  have HO2 : Hid (o9.isSome = !h9) := by unfold Hid; rw [← ho9]; cases h9 <;> rfl
  clear ho9
  have HHAS : Hid (∀ W, Below w.heap.size w W → Calls Tryz.prog 121 #[.slice Cb nb cb9, .agg #[.int .i64 xa, .int .i64 xn]] W fun e w' => e = .returned (.bool h9) ∧ Below W.heap.size W w') := fun W hb => by
    rw [← hh9]
    exact has_any cb nb Cb cb9 xa xn W hl (by omega) ((hr.below hb).more hb.size) hC
  clear hl hr hC hh9

  obtain ⟨W, p, y, r, HW, HP, HY, HR9, HK, HF⟩ := boxE3 w xa xn xs xv 0 0 ⟨#[]⟩ 0
  have hpw : w.heap.size ≤ r := by have := HP.out; have := HR9.out; omega
  have e1 : ¬ p = r := by have := HR9.out; omega
  have e2 : ¬ r = p := by omega
  have e3 : ¬ y = r := by have := HR9.out; have := HY.out; omega
  have e4 : ¬ r = y := by omega
  have e5 : ¬ p = y := by have := HY.out; omega
  have e6 : ¬ y = p := by omega
  have hlt : bb < w.heap.size := World.block_lt_of_cell? w _ hc
  have hbp : ¬ bb = r := by have := HP.out; omega
  have hbp2 : ¬ r = bb := by omega
  have hc := (HK.out.below.cell (p := ⟨bb, 2, none⟩) hlt).trans hc
  have k0 := HK.out.c0
  have k1 := HK.out.c1
  have k2 := HK.out.c2
  have k3 := HK.out.c3
  have k4 := HK.out.c4
  have k5 := HK.out.c5
  have k6 := HK.out.c6
  have k7 := HK.out.c7
  have HKc : Hid (Kept [(⟨p, 0, none⟩, .int .i64 xa), (⟨p, 1, none⟩, .int .i64 xn), (⟨p, 2, none⟩, .string xs), (⟨p, 3, none⟩, .int .i64 xv), (⟨bb, 2, none⟩, .slice Cb nb cb9), (⟨r, 0, none⟩, .int .i64 0), (⟨r, 1, none⟩, .int .i64 0), (⟨r, 2, none⟩, .string ⟨#[]⟩), (⟨r, 3, none⟩, .int .i64 0)] w W.drew) := by
    have h0 := ((Kept.nil_of HK.out.below).cons_of HK.out.tail.tail.tail.tail.tail.tail.tail.tail.c3).cons_of HK.out.tail.tail.tail.tail.tail.tail.tail.tail.c2
    have h1 := (h0.cons_of HK.out.tail.tail.tail.tail.tail.tail.tail.tail.c1).cons_of HK.out.tail.tail.tail.tail.tail.tail.tail.tail.c0
    exact (((((h1.cons_of hc).cons_of k3).cons_of k2).cons_of k1).cons_of k0).drew
  have HF := Lib.hid (HF.out.drew)
  clear HK
  go_enter Tryz.func120, Tryz.ntmps120
  go_wp2_with fail
  rw [← HP.out, ← HW.out, ← HR9.out]
  try rw [← HY.out]
  go_wp2_with fail
  refine wp_region_held_drew (S := fun W => W.cell? ⟨p, 0, none⟩ = some (.int .i64 xa) ∧ W.cell? ⟨p, 1, none⟩ = some (.int .i64 xn) ∧ W.cell? ⟨p, 2, none⟩ = some (.string xs) ∧ W.cell? ⟨p, 3, none⟩ = some (.int .i64 xv) ∧ W.cell? ⟨bb, 2, none⟩ = some (.slice Cb nb cb9)) (by kernel_rfl) (by go_keep) (fun hHeld => ?_)
  refine Tk 0 12 ?_
  refine Tk 1 13 ?_
  refine Tk 2 14 ?_
  refine Tk 3 15 ?_
  refine Tk 4 16 ?_
  refine wpAnyH_ready (rs := [5]) (by kernel_rfl) (by simp) ?_
  refine AllReadyH.cons (o := ⟨some 17, _, _, _, _, _⟩) rfl (fun K hK => ?_) AllReadyH.nil
  go_simp
  (go_at_call 121; refine (HHAS.out W.drew HKc.out.below).mono ?_)
  rintro e v1 ⟨rfl, hb9⟩
  have HKc := Lib.hid (HKc.out.later hb9)
  have HF := Lib.hid (HF.out.later hb9)
  clear hb9
  have z0 := HKc.out.tail.tail.tail.tail.tail.c0
  have z1 := HKc.out.tail.tail.tail.tail.tail.c1
  have z2 := HKc.out.tail.tail.tail.tail.tail.c2
  have z3 := HKc.out.tail.tail.tail.tail.tail.c3
  have m0 := HF.out.2 0
  have m1 := HF.out.2 1
  have m2 := HF.out.2 2
  have m3 := HF.out.2 3
  obtain ⟨W9, hW9⟩ : ∃ W, W = (((v1.setCell ⟨r, 0, none⟩ (.int .i64 xa)).setCell ⟨r, 1, none⟩ (.int .i64 xn)).setCell ⟨r, 2, none⟩ (.string xs)).setCell ⟨r, 3, none⟩ (.int .i64 xv) := ⟨_, rfl⟩
  have HB9 : Hid (Below w.heap.size w W9) := by
    unfold Hid
    rw [hW9]
    exact (((HKc.out.below.setCell (p := ⟨r, 0, none⟩) hpw _).setCell (p := ⟨r, 1, none⟩) hpw _).setCell (p := ⟨r, 2, none⟩) hpw _).setCell (p := ⟨r, 3, none⟩) hpw _
  have l0 : W9.cell? ⟨r, 0, none⟩ = some (.int .i64 xa) := by rw [hW9]; go_simp
  have l1 : W9.cell? ⟨r, 1, none⟩ = some (.int .i64 xn) := by rw [hW9]; go_simp
  have l2 : W9.cell? ⟨r, 2, none⟩ = some (.string xs) := by rw [hW9]; go_simp
  have l3 : W9.cell? ⟨r, 3, none⟩ = some (.int .i64 xv) := by rw [hW9]; go_simp
  have HW9 := Lib.hid hW9
  clear hW9
  refine hK.out _ _ ?_ (fun hHeld2 => ?_)
  · exact ⟨HKc.out.c0, HKc.out.c1, HKc.out.c2, HKc.out.c3, HKc.out.c4⟩
  clear hK K hHeld
  have hHeld := hHeld2
  clear hHeld2
  try simp only [Act.put, List.setIfInBounds_toArray, List.set_cons_zero, List.set_cons_succ]
  refine Tk 6 18 ?_
  refine wpAnyH_ready (rs := [7]) (by kernel_rfl) (by simp) ?_
  refine AllReadyH.cons (o := ⟨none, _, _, _, _, _⟩) rfl (fun K hK => ?_) AllReadyH.nil
  go_simp
  refine hK.out _ _ ?_ (fun hHeld2 => ?_)
  · (try dsimp only); go_keep
  clear hK K hHeld
  have hHeld := hHeld2
  clear hHeld2
  try simp only [Act.put, List.setIfInBounds_toArray, List.set_cons_zero, List.set_cons_succ]
  refine Tk 8 7 ?_
  refine wpAnyH_done (by kernel_rfl) ?_ _
  clear hHeld
  go_wp2_with fail
  rw [← HW9.out]
  refine bodyPost_ret (v := .tuple #[.agg #[.int .i64 xa, .int .i64 xn, .string xs, .int .i64 xv], .bool (!h9)]) (by simp [results, Tryz.results120, go_sem, l0, l1, l2, l3]) rfl ⟨⟨xa, xn, xs, xv⟩, by rw [HO2.out], fun y h => by have h2 := HO.out; rw [h] at h2; cases h9 <;> simp_all, HB9.out⟩
set_option maxRecDepth 100000 in
set_option maxHeartbeats 4000000 in
theorem stayE_right (ca : List S3) (Ca : Option Addr) (na ca9 : Nat) (ba bb : Nat) (ya yn : Int) (ys : ByteArray) (yv : Int) (w : World) (hl : ca.length = na) (hn : na ≤ 100000) (hc : w.cell? ⟨ba, 2, none⟩ = some (.slice Ca na ca9)) (hr : Rd w w.heap.size 3 Ca na ca9 (spsC ca)) (hC : RightC ca) (h1 : 1 ≤ yn) :
    Calls Tryz.prog 120 #[.agg #[.int .i64 0, .int .i64 0, .string ⟨#[]⟩, .int .i64 0], .agg #[.int .i64 ya, .int .i64 yn, .string ys, .int .i64 yv], .pointer (some ⟨bb, 0, none⟩), .pointer (some ⟨ba, 0, none⟩)] w (StayE (if hasC ca ya yn = true then none else some (⟨ya, yn, ys, yv⟩ : E)) w) := by
  obtain ⟨h9, hh9⟩ : ∃ z, hasC ca ya yn = z := ⟨_, rfl⟩
  rw [hh9]
  obtain ⟨o9, ho9⟩ : ∃ o, (if h9 = true then none else some (⟨ya, yn, ys, yv⟩ : E)) = o := ⟨_, rfl⟩
  rw [ho9]
  have HO := Lib.hid ho9
  have HO2 : Hid (o9.isSome = !h9) := by unfold Hid; rw [← ho9]; cases h9 <;> rfl
  clear ho9
  have HHAS : Hid (∀ W, Below w.heap.size w W → Calls Tryz.prog 121 #[.slice Ca na ca9, .agg #[.int .i64 ya, .int .i64 yn]] W fun e w' => e = .returned (.bool h9) ∧ Below W.heap.size W w') := fun W hb => by
    rw [← hh9]
    exact has_any ca na Ca ca9 ya yn W hl (by omega) ((hr.below hb).more hb.size) hC
  clear hl hr hC hh9
  have fy : (yn == 0) = false := by rw [beq_eq_false_iff_ne]; omega
  obtain ⟨W, p, y, r, HW, HP, HY, HR9, HK, HF⟩ := boxE3 w 0 0 ⟨#[]⟩ 0 ya yn ys yv
  have hpw : w.heap.size ≤ r := by have := HP.out; have := HR9.out; omega
  have e1 : ¬ p = r := by have := HR9.out; omega
  have e2 : ¬ r = p := by omega
  have e3 : ¬ y = r := by have := HR9.out; have := HY.out; omega
  have e4 : ¬ r = y := by omega
  have e5 : ¬ p = y := by have := HY.out; omega
  have e6 : ¬ y = p := by omega
  have hlt : ba < w.heap.size := World.block_lt_of_cell? w _ hc
  have hbp : ¬ ba = r := by have := HP.out; omega
  have hbp2 : ¬ r = ba := by omega
  have hc := (HK.out.below.cell (p := ⟨ba, 2, none⟩) hlt).trans hc
  have k0 := HK.out.c0
  have k1 := HK.out.c1
  have k2 := HK.out.c2
  have k3 := HK.out.c3
  have k4 := HK.out.c4
  have k5 := HK.out.c5
  have k6 := HK.out.c6
  have k7 := HK.out.c7
  have HKc : Hid (Kept [(⟨y, 0, none⟩, .int .i64 ya), (⟨y, 1, none⟩, .int .i64 yn), (⟨y, 2, none⟩, .string ys), (⟨y, 3, none⟩, .int .i64 yv), (⟨ba, 2, none⟩, .slice Ca na ca9), (⟨r, 0, none⟩, .int .i64 0), (⟨r, 1, none⟩, .int .i64 0), (⟨r, 2, none⟩, .string ⟨#[]⟩), (⟨r, 3, none⟩, .int .i64 0)] w W.drew) := by
    have h0 := ((Kept.nil_of HK.out.below).cons_of HK.out.tail.tail.tail.tail.tail.tail.tail.tail.c3).cons_of HK.out.tail.tail.tail.tail.tail.tail.tail.tail.c2
    have h1 := (h0.cons_of HK.out.tail.tail.tail.tail.tail.tail.tail.tail.c1).cons_of HK.out.tail.tail.tail.tail.tail.tail.tail.tail.c0
    exact (((((h1.cons_of hc).cons_of k7).cons_of k6).cons_of k5).cons_of k4).drew
  have HF := Lib.hid (HF.out.drew)
  clear HK
  go_enter Tryz.func120, Tryz.ntmps120
  go_wp2_with fail
  rw [← HP.out, ← HW.out, ← HR9.out]
  try rw [← HY.out]
  go_wp2_with fail
  refine wp_region_held_drew (S := fun W => W.cell? ⟨y, 0, none⟩ = some (.int .i64 ya) ∧ W.cell? ⟨y, 1, none⟩ = some (.int .i64 yn) ∧ W.cell? ⟨y, 2, none⟩ = some (.string ys) ∧ W.cell? ⟨y, 3, none⟩ = some (.int .i64 yv) ∧ W.cell? ⟨ba, 2, none⟩ = some (.slice Ca na ca9)) (by kernel_rfl) (by go_keep) (fun hHeld => ?_)
  refine Tk 0 23 ?_
  refine Tk 1 24 ?_
  refine Tk 2 25 ?_
  refine Tk 3 26 ?_
  refine Tk 4 27 ?_
  refine wpAnyH_ready (rs := [5]) (by kernel_rfl) (by simp) ?_
  refine AllReadyH.cons (o := ⟨some 28, _, _, _, _, _⟩) rfl (fun K hK => ?_) AllReadyH.nil
  go_simp
  (go_at_call 121; refine (HHAS.out W.drew HKc.out.below).mono ?_)
  rintro e v1 ⟨rfl, hb9⟩
  have HKc := Lib.hid (HKc.out.later hb9)
  have HF := Lib.hid (HF.out.later hb9)
  clear hb9
  have z0 := HKc.out.tail.tail.tail.tail.tail.c0
  have z1 := HKc.out.tail.tail.tail.tail.tail.c1
  have z2 := HKc.out.tail.tail.tail.tail.tail.c2
  have z3 := HKc.out.tail.tail.tail.tail.tail.c3
  have m0 := HF.out.2 0
  have m1 := HF.out.2 1
  have m2 := HF.out.2 2
  have m3 := HF.out.2 3
  obtain ⟨W9, hW9⟩ : ∃ W, W = (((v1.setCell ⟨r, 0, none⟩ (.int .i64 ya)).setCell ⟨r, 1, none⟩ (.int .i64 yn)).setCell ⟨r, 2, none⟩ (.string ys)).setCell ⟨r, 3, none⟩ (.int .i64 yv) := ⟨_, rfl⟩
  have HB9 : Hid (Below w.heap.size w W9) := by
    unfold Hid
    rw [hW9]
    exact (((HKc.out.below.setCell (p := ⟨r, 0, none⟩) hpw _).setCell (p := ⟨r, 1, none⟩) hpw _).setCell (p := ⟨r, 2, none⟩) hpw _).setCell (p := ⟨r, 3, none⟩) hpw _
  have l0 : W9.cell? ⟨r, 0, none⟩ = some (.int .i64 ya) := by rw [hW9]; go_simp
  have l1 : W9.cell? ⟨r, 1, none⟩ = some (.int .i64 yn) := by rw [hW9]; go_simp
  have l2 : W9.cell? ⟨r, 2, none⟩ = some (.string ys) := by rw [hW9]; go_simp
  have l3 : W9.cell? ⟨r, 3, none⟩ = some (.int .i64 yv) := by rw [hW9]; go_simp
  have HW9 := Lib.hid hW9
  clear hW9
  refine hK.out _ _ ?_ (fun hHeld2 => ?_)
  · exact ⟨HKc.out.c0, HKc.out.c1, HKc.out.c2, HKc.out.c3, HKc.out.c4⟩
  clear hK K hHeld
  have hHeld := hHeld2
  clear hHeld2
  try simp only [Act.put, List.setIfInBounds_toArray, List.set_cons_zero, List.set_cons_succ]
  refine Tk 6 29 ?_
  refine wpAnyH_ready (rs := [7]) (by kernel_rfl) (by simp) ?_
  refine AllReadyH.cons (o := ⟨none, _, _, _, _, _⟩) rfl (fun K hK => ?_) AllReadyH.nil
  go_simp
  refine hK.out _ _ ?_ (fun hHeld2 => ?_)
  · (try dsimp only); go_keep
  clear hK K hHeld
  have hHeld := hHeld2
  clear hHeld2
  try simp only [Act.put, List.setIfInBounds_toArray, List.set_cons_zero, List.set_cons_succ]
  refine Tk 8 7 ?_
  refine wpAnyH_done (by kernel_rfl) ?_ _
  clear hHeld
  go_wp2_with fail
  rw [← HW9.out]
  refine bodyPost_ret (v := .tuple #[.agg #[.int .i64 ya, .int .i64 yn, .string ys, .int .i64 yv], .bool (!h9)]) (by simp [results, Tryz.results120, go_sem, l0, l1, l2, l3]) rfl ⟨⟨ya, yn, ys, yv⟩, by rw [HO2.out], fun y h => by have h2 := HO.out; rw [h] at h2; cases h9 <;> simp_all, HB9.out⟩
set_option maxRecDepth 100000 in
set_option maxHeartbeats 4000000 in
theorem stayE_both (ba bb : Nat) (xa xn : Int) (xs : ByteArray) (xv : Int) (ya yn : Int) (ys : ByteArray) (yv : Int) (w : World) (h1 : 1 ≤ xn) (h2 : 1 ≤ yn) :
    Calls Tryz.prog 120 #[.agg #[.int .i64 xa, .int .i64 xn, .string xs, .int .i64 xv], .agg #[.int .i64 ya, .int .i64 yn, .string ys, .int .i64 yv], .pointer (some ⟨bb, 0, none⟩), .pointer (some ⟨ba, 0, none⟩)] w (StayE (some (grE ⟨xa, xn, xs, xv⟩ ⟨ya, yn, ys, yv⟩)) w) := by
  obtain ⟨z, hz⟩ : ∃ z, grE ⟨xa, xn, xs, xv⟩ ⟨ya, yn, ys, yv⟩ = z := ⟨_, rfl⟩
  have HG : Hid (∀ W, Calls Tryz.prog 122 #[.agg #[.int .i64 xa, .int .i64 xn, .string xs, .int .i64 xv], .agg #[.int .i64 ya, .int .i64 yn, .string ys, .int .i64 yv]] W fun e w' => e = .returned (entV z) ∧ Below W.heap.size W w') := fun W => by
    rw [← hz]
    exact greater_any ⟨xa, xn, xs, xv⟩ ⟨ya, yn, ys, yv⟩ W
  rw [hz]
  clear hz
  obtain ⟨za, zn, zs, zv⟩ := z
  have fx : (xn == 0) = false := by rw [beq_eq_false_iff_ne]; omega
  have fy : (yn == 0) = false := by rw [beq_eq_false_iff_ne]; omega
  obtain ⟨W, p, y, r, HW, HP, HY, HR9, HK, HF⟩ := boxE3 w xa xn xs xv ya yn ys yv
  have hpw : w.heap.size ≤ r := by have := HP.out; have := HR9.out; omega
  have e1 : ¬ p = r := by have := HR9.out; omega
  have e2 : ¬ r = p := by omega
  have e3 : ¬ y = r := by have := HR9.out; have := HY.out; omega
  have e4 : ¬ r = y := by omega
  have e5 : ¬ p = y := by have := HY.out; omega
  have e6 : ¬ y = p := by omega
  have k0 := HK.out.c0
  have k1 := HK.out.c1
  have k2 := HK.out.c2
  have k3 := HK.out.c3
  have k4 := HK.out.c4
  have k5 := HK.out.c5
  have k6 := HK.out.c6
  have k7 := HK.out.c7
  go_enter Tryz.func120, Tryz.ntmps120
  go_wp2_with fail
  rw [← HP.out, ← HW.out, ← HR9.out]
  try rw [← HY.out]
  go_wp2_with fail
  refine (HG.out W).mono ?_
  rintro e v1 ⟨rfl, hb9⟩
  have HKc := Lib.hid (HK.out.tail.tail.tail.tail.tail.tail.tail.tail.later hb9)
  have HF := Lib.hid (HF.out.later hb9)
  clear hb9 k0 k1 k2 k3 k4 k5 k6 k7
  have z0 := HKc.out.c0
  have z1 := HKc.out.c1
  have z2 := HKc.out.c2
  have z3 := HKc.out.c3
  have m0 := HF.out.2 0
  have m1 := HF.out.2 1
  have m2 := HF.out.2 2
  have m3 := HF.out.2 3
  obtain ⟨W9, hW9⟩ : ∃ W, W = (((v1.setCell ⟨r, 0, none⟩ (.int .i64 za)).setCell ⟨r, 1, none⟩ (.int .i64 zn)).setCell ⟨r, 2, none⟩ (.string zs)).setCell ⟨r, 3, none⟩ (.int .i64 zv) := ⟨_, rfl⟩
  have HB9 : Hid (Below w.heap.size w W9) := by
    unfold Hid
    rw [hW9]
    exact (((HKc.out.below.setCell (p := ⟨r, 0, none⟩) hpw _).setCell (p := ⟨r, 1, none⟩) hpw _).setCell (p := ⟨r, 2, none⟩) hpw _).setCell (p := ⟨r, 3, none⟩) hpw _
  have l0 : W9.cell? ⟨r, 0, none⟩ = some (.int .i64 za) := by rw [hW9]; go_simp
  have l1 : W9.cell? ⟨r, 1, none⟩ = some (.int .i64 zn) := by rw [hW9]; go_simp
  have l2 : W9.cell? ⟨r, 2, none⟩ = some (.string zs) := by rw [hW9]; go_simp
  have l3 : W9.cell? ⟨r, 3, none⟩ = some (.int .i64 zv) := by rw [hW9]; go_simp
  have HW9 := Lib.hid hW9
  clear hW9
  go_wp2_with fail
  rw [← HW9.out]
  refine bodyPost_ret (v := .tuple #[.agg #[.int .i64 za, .int .i64 zn, .string zs, .int .i64 zv], .bool true]) (by simp [results, Tryz.results120, go_sem, l0, l1, l2, l3]) rfl ⟨⟨za, zn, zs, zv⟩, rfl, fun y h => by injection h, HB9.out⟩
end Cs
end Go.Proofs.YtcbclefemcmhpaaGreat
namespace Go.Proofs.YtcbclefemcmhpaaGreat
open Go.ChangeShapes Go.WideShapes Go.ChangeAt Go.RowKit
namespace Tr
open Sp Rw
theorem RX.cut1 {w : World} {ok : Nat → Prop} {n c : Nat} {A : Option Addr} {xs : List Value} (h : RX w ok 1 A (n + 1) c xs) : RX w ok 1 (if c = 1 then A else A.map (fun a : Addr => a.add 1)) n (c - 1) (xs.drop 1) := by
  have hc := h.cap
  have hl := h.len
  refine ⟨by rw [List.length_drop, hl]; omega, by omega, fun u hu => h.one u (List.mem_of_mem_drop hu), fun hn => ?_⟩
  obtain ⟨b, o, rfl, h1, h2, h3⟩ := h.at_ (by omega)
  refine ⟨b, o + 1, ?_, h1, h2, fun j u hu => ?_⟩
  · rw [if_neg (by omega)]
    simp [Addr.add]
  · rw [List.getElem?_drop] at hu
    have := h3 (1 + j) u hu
    rwa [← Nat.add_assoc] at this
theorem cutS1 (A : Option Addr) (n c : Nat) (W : World) : (Instr.slice 42 (.slice A (n + 1) c) (some (.int .i64 1)) none none).run Tryz.prog W = .ok (.slice (if c = 1 then A else A.map (fun a : Addr => a.add 1)) n (c - 1)) W := by
  obtain ⟨i0, hi0, _, hz1, _⟩ := info_of infoS
  exact run_cut_from (P := Tryz.prog) 42 9 1 Tryz.underlying42 hi0 hz1 A (n + 1) c 1 (by omega) W
theorem under_succ {ls : List Lf} {k : Nat} (h : k < ls.length) (key : ByteArray) : under (ls.take (k + 1)) key = under (ls.take k) key ++ under [ls[k]] key := by rw [List.take_succ_eq_append_getElem h, under_append]
theorem under_len (ls : List Lf) (key : ByteArray) : (under ls key).length ≤ ls.length := List.length_filterMap_le _ _
set_option maxRecDepth 100000 in
set_option maxHeartbeats 4000000 in
theorem under_any (ls : List Lf) (n : Nat) (A : Option Addr) (c : Nat) (key : ByteArray) (w : World) (hn : n ≤ 100000) (h : LfRd w w.heap.size A n c ls) :
    Calls Tryz.prog 74 #[.slice A n c, .string key] w fun e w' => ∃ A' c', e = .returned (.slice A' (under ls key).length c') ∧ LfRd w' w'.heap.size A' (under ls key).length c' (under ls key) ∧ Below w.heap.size w w' := by
  have HL := Lib.hid h
  have HN := Lib.hid hn
  have HLN := Lib.hid h.1
  have hn5 : n ≤ 100000 := HN.out
  clear h hn
  go_enter Tryz.func74, Tryz.ntmps74
  go_wp2_with fail
  go_loopw [5, 9] (fun s i wr => ∃ (k : Nat) (Ax : Option Addr) (m cx : Nat) (lr : List (SV × E)), k ≤ n ∧ i = .int .i64 k ∧ s = .slice Ax m cx ∧ Hid (LfRow wr w.heap.size 70 Ax m cx (under (ls.take k) key) lr) ∧ Hid (Below w.heap.size w wr)) (fun _ i _ => n - (intOf i).toNat)
  case atStart => exact ⟨0, none, 0, 0, [], by omega, rfl, rfl, by unfold Hid; simpa [under] using LfRow.nil w w.heap.size 70, Below.refl _ _⟩
  case round =>
    obtain ⟨k, Ax, m, cx, lr, hk, rfl, rfl, HLR, HBW⟩ := hrel
    by_cases hlt : k < n
    · have hkl : k < ls.length := by rw [HLN.out]; exact hlt
      have hm5 : m ≤ 100000 := by
        have h1 := HLR.out.len
        have h2 := under_len (ls.take k) key
        rw [List.length_take] at h2
        have := HN.out
        omega
      obtain ⟨b, o, rfl, hb, hc⟩ := LfRd.at_ HL.out (by omega)
      obtain ⟨⟨Ap, np, cp⟩, c0, c1, c2, c3, c4, hpl, hpx⟩ := hc k hkl
      dsimp only at c0 hpl hpx
      have c0 := (HBW.out.cell (p := ⟨b, o + k * 5, none⟩) hb).trans c0
      have c1 := (HBW.out.cell (p := ⟨b, o + k * 5 + 1, none⟩) hb).trans c1
      have c2 := (HBW.out.cell (p := ⟨b, o + k * 5 + 2, none⟩) hb).trans c2
      have c3 := (HBW.out.cell (p := ⟨b, o + k * 5 + 3, none⟩) hb).trans c3
      have c4 := (HBW.out.cell (p := ⟨b, o + k * 5 + 4, none⟩) hb).trans c4
      have hsuc := under_succ hkl key
      obtain ⟨x, hx⟩ : ∃ x, x = ls[k] := ⟨_, rfl⟩
      rw [← hx] at c1 c2 c3 c4 hpl hpx hsuc
      obtain ⟨p, ea, en, es, ev⟩ := x
      dsimp only at c1 c2 c3 c4 hpl hpx
      clear hc hx
      cases p with
      | nil =>
        obtain rfl : np = 0 := by simpa using hpl.symm
        have HLR2 : Hid (LfRow wr w.heap.size 70 Ax m cx (under (ls.take (k + 1)) key) lr) := by unfold Hid; rw [hsuc]; simpa [under] using HLR.out
        clear hsuc hpx hpl
        go_wp2_with fail
        go_roundw
        case rel => exact ⟨k + 1, Ax, m, cx, lr, by omega, by go_num, rfl, HLR2.out, HBW.out⟩
        case measure => simp [intOf]; omega
      | cons k0 p =>
        obtain ⟨nq, hnp⟩ : ∃ z, np = z + 1 := ⟨p.length, by rw [← hpl]; rfl⟩
        subst hnp
        have fz : decide ((0 : Int) < ((nq + 1 : Nat) : Int)) = true := decide_eq_true (by omega)
        obtain ⟨b1, o1, rfl, hb1, _, hcc⟩ := hpx.at_ (by omega)
        have p0 := (HBW.out.cell (p := ⟨b1, o1, none⟩) hb1).trans (by simpa [strs] using hcc 0 (.string k0) (by simp [strs]))
        clear hcc
        by_cases hkk : k0 = key
        · subst hkk
          have HSUC : Hid (under (ls.take (k + 1)) k0 = under (ls.take k) k0 ++ [(p, ⟨ea, en, es, ev⟩)]) := by unfold Hid; rw [hsuc]; simp [under]
          have hpx1 : RX wr (fun b => (Value.slice Ax m cx).ownBlock ≠ some b) 1 (if cp = 1 then some ⟨b1, o1, none⟩ else Option.map (fun a : Addr => a.add 1) (some (⟨b1, o1, none⟩ : Addr))) nq (cp - 1) (strs p) := by
            have h1 := RX.cut1 hpx
            have h2 : (strs (k0 :: p)).drop 1 = strs p := by simp [strs]
            rw [h2] at h1
            exact (h1.keep HBW.out.size (fun b hb _ => HBW.out.block b hb)).mono (fun b hb _ => fun e => by have h3 := (HLR.out.own.row.lt b e).1; omega)
          obtain ⟨Ac, hAc⟩ : ∃ z, z = (if cp = 1 then some ⟨b1, o1, none⟩ else Option.map (fun a : Addr => a.add 1) (some (⟨b1, o1, none⟩ : Addr)) : Option Addr) := ⟨_, rfl⟩
          have hcut : ∀ W, (Instr.slice 42 (.slice (some ⟨b1, o1, none⟩) (nq + 1) cp) (some (.int .i64 1)) none none).run Tryz.prog W = .ok (.slice Ac nq (cp - 1)) W := fun W => by rw [hAc]; exact cutS1 _ _ _ W
          rw [← hAc] at hpx1
          have hpl2 : p.length = nq := by simpa using hpl
          have hdr : Below wr.heap.size wr wr.drew := (Below.refl _ wr).drew
          obtain ⟨A6, c6, w6, r1, HLR6, hb6, _⟩ := LfRow.push (e := ⟨ea, en, es, ev⟩) (s := ⟨Ac, nq, cp - 1⟩) (HLR.out.later hdr) (Nat.le_trans HBW.out.size hdr.size) hpl2 (hpx1.later hdr) (by omega)
          have HLR7 : Hid (LfRow w6 w.heap.size 70 A6 (m + 1) c6 (under (ls.take (k + 1)) k0) (lr ++ [(⟨Ac, nq, cp - 1⟩, ⟨ea, en, es, ev⟩)])) := by unfold Hid; rw [HSUC.out]; exact HLR6
          have HB7 : Hid (Below w.heap.size w w6) := HBW.out.drew.trans hb6
          have t0 := (hb6.cell (p := ⟨b, o + k * 5, none⟩) hb).trans c0
          have t1 := (hb6.cell (p := ⟨b, o + k * 5 + 1, none⟩) hb).trans c1
          have t2 := (hb6.cell (p := ⟨b, o + k * 5 + 2, none⟩) hb).trans c2
          have t3 := (hb6.cell (p := ⟨b, o + k * 5 + 3, none⟩) hb).trans c3
          have t4 := (hb6.cell (p := ⟨b, o + k * 5 + 4, none⟩) hb).trans c4
          have HT := Lib.hid (And.intro t0 (And.intro t1 (And.intro t2 (And.intro t3 t4))))
          dsimp only at r1
          have hdz : wr.drew.heap.size = wr.heap.size := rfl
          rw [hdz] at r1
          have Hrun := Lib.hid r1
          clear hAc hpx hpx1 hpl hpl2 hdr r1 HLR6 hb6 hsuc hb1 t0 t1 t2 t3 t4 hdz
          go_wp2_with fail
          refine wp_region_held_drew (S := fun W => W.cell? ⟨b, o + k * 5, none⟩ = some (.slice (some ⟨b1, o1, none⟩) (nq + 1) cp) ∧ W.cell? ⟨b, o + k * 5 + 1, none⟩ = some (.int .i64 ea) ∧ W.cell? ⟨b, o + k * 5 + 2, none⟩ = some (.int .i64 en) ∧ W.cell? ⟨b, o + k * 5 + 3, none⟩ = some (.string es) ∧ W.cell? ⟨b, o + k * 5 + 4, none⟩ = some (.int .i64 ev)) (by kernel_rfl) (by go_keep) (fun hHeld => ?_)
          refine Tk 0 30 ?_
          refine Tk 1 31 ?_
          refine Tk 2 32 ?_
          refine Tk 3 33 ?_
          refine Tk 4 34 ?_
          refine Tk 5 35 ?_
          refine Tk 6 36 ?_
          refine Tk 7 37 ?_
          refine Tk 8 38 ?_
          refine Tk 9 39 ?_
          refine Tk 10 40 ?_
          refine Tk 11 41 ?_
          refine Tk 12 42 ?_
          refine wpAnyH_ready (rs := [13]) (by kernel_rfl) (by simp) ?_
          refine AllReadyH.cons (o := ⟨some 43, _, _, _, _, _⟩) rfl (fun K hK => ?_) AllReadyH.nil
          go_simp
          refine hK.out _ _ ?_ (fun hHeld2 => ?_)
          · (try dsimp only); go_keep
          clear hK K hHeld
          have hHeld := hHeld2
          clear hHeld2
          try simp only [Act.put, List.setIfInBounds_toArray, List.set_cons_zero, List.set_cons_succ]
          refine wpAnyH_ready (rs := [14]) (by kernel_rfl) (by simp) ?_
          refine AllReadyH.cons (o := ⟨some 44, _, _, _, _, _⟩) rfl (fun K hK => ?_) AllReadyH.nil
          refine upon_append _ _ _ rfl rfl rfl Hrun.out ?_
          refine hK.out _ _ ?_ (fun hHeld2 => ?_)
          · exact HT.out
          clear hK K hHeld
          have hHeld := hHeld2
          clear hHeld2
          try simp only [Act.put, List.setIfInBounds_toArray, List.set_cons_zero, List.set_cons_succ]
          refine Tk 15 5 ?_
          refine wpAnyH_done (by kernel_rfl) ?_ _
          clear hHeld
          go_wp2_with fail
          go_roundw
          case rel => exact ⟨k + 1, A6, m + 1, c6, _, by omega, by go_num, rfl, HLR7.out, HB7.out⟩
          case measure => simp [intOf]; omega
        · have f4 : (k0.toList == key.toList) = false := bytes_ne hkk
          have HLR2 : Hid (LfRow wr w.heap.size 70 Ax m cx (under (ls.take (k + 1)) key) lr) := by unfold Hid; rw [hsuc]; simpa [under, hkk] using HLR.out
          clear hsuc hpx hpl hkk
          go_wp2_with fail
          go_roundw
          case rel => exact ⟨k + 1, Ax, m, cx, lr, by omega, by go_num, rfl, HLR2.out, HBW.out⟩
          case measure => simp [intOf]; omega
    · obtain rfl : k = n := by omega
      have hrd := HLR.out.rd
      rw [List.take_of_length_le (by rw [HLN.out]; omega)] at hrd
      obtain rfl : (under ls key).length = m := hrd.1
      have HRD := Lib.hid hrd
      clear hrd
      go_wp2_with fail
      go_ret
      exact ⟨Ax, cx, rfl, HRD.out, HBW.out⟩
end Tr
end Go.Proofs.YtcbclefemcmhpaaGreat
namespace Go.Proofs.YtcbclefemcmhpaaGreat
open Go.ChangeShapes Go.WideShapes Go.ChangeAt Go.RowKit
namespace Tr
open Sp Rw
/-- no entry -/
def zeroE : E := ⟨0, 0, ⟨#[]⟩, 0⟩
def bestE (r : Option E) : E := match r with | none => zeroE | some e => e
def bestK (r : Option ByteArray) : ByteArray := match r with | none => ⟨#[]⟩ | some k => k
section
variable {α : Type} {lt : α → α → Prop} {ab : α → Prop} {m : List α} {x b : α} {r : Option α}
theorem least_skip (h : ¬ ab x) (hr : LeastOf lt m ab r) : LeastOf lt (m ++ [x]) ab r := by
  cases r with
  | none =>
    intro y hy
    rcases List.mem_append.1 hy with hy | hy
    · exact hr y hy
    · rw [List.mem_singleton.1 hy]; exact h
  | some b =>
    refine ⟨List.mem_append_left _ hr.1, hr.2.1, fun y hy ha => ?_⟩
    rcases List.mem_append.1 hy with hy | hy
    · exact hr.2.2 y hy ha
    · rw [List.mem_singleton.1 hy] at ha; exact absurd ha h
theorem least_new (irr : ∀ a, ¬ lt a a) (h : ab x) (hr : LeastOf lt m ab none) : LeastOf lt (m ++ [x]) ab (some x) := by
  refine ⟨List.mem_append_right _ List.mem_cons_self, h, fun y hy ha => ?_⟩
  rcases List.mem_append.1 hy with hy | hy
  · exact absurd ha (hr y hy)
  · rw [List.mem_singleton.1 hy]; exact irr x
theorem least_less (irr : ∀ a, ¬ lt a a) (tr : ∀ a b c, lt a b → lt b c → lt a c) (h : ab x) (hl : lt x b) (hr : LeastOf lt m ab (some b)) : LeastOf lt (m ++ [x]) ab (some x) := by
  refine ⟨List.mem_append_right _ List.mem_cons_self, h, fun y hy ha => ?_⟩
  rcases List.mem_append.1 hy with hy | hy
  · exact fun hyx => hr.2.2 y hy ha (tr _ _ _ hyx hl)
  · rw [List.mem_singleton.1 hy]; exact irr x
theorem least_not (hl : ¬ lt x b) (hr : LeastOf lt m ab (some b)) : LeastOf lt (m ++ [x]) ab (some b) := by
  refine ⟨List.mem_append_left _ hr.1, hr.2.1, fun y hy ha => ?_⟩
  rcases List.mem_append.1 hy with hy | hy
  · exact hr.2.2 y hy ha
  · rw [List.mem_singleton.1 hy]; exact hl
end
theorem rootE_succ {ls : List Lf} {k : Nat} (h : k < ls.length) : rootE (ls.take (k + 1)) = rootE (ls.take k) ++ rootE [ls[k]] := by
  rw [List.take_succ_eq_append_getElem h]
  unfold rootE
  rw [List.filterMap_append]
theorem heads_succ {ls : List Lf} {k : Nat} (h : k < ls.length) : heads (ls.take (k + 1)) = heads (ls.take k) ++ heads [ls[k]] := by
  rw [List.take_succ_eq_append_getElem h]
  unfold heads
  rw [List.filterMap_append]
theorem kidAt_nth : ∀ {ks : List (ByteArray × T)}, ks.Pairwise (fun x y => ltS x.1 y.1) → ∀ (j : Nat) (h : j < ks.length), kidAt ks (ks[j]).1 = (ks[j]).2
  | k :: ks, hp, 0, _ => by
    show kidAt (k :: ks) k.1 = k.2
    unfold kidAt
    rw [if_pos rfl]
  | k :: ks, hp, j + 1, h => by
    rw [List.pairwise_cons] at hp
    have hj : j < ks.length := by simpa using h
    have hlt := hp.1 (ks[j]) (List.getElem_mem hj)
    show kidAt (k :: ks) (ks[j]).1 = (ks[j]).2
    unfold kidAt
    rw [if_neg (fun e => tot_str.irr (ks[j]).1 (by rw [e] at hlt; exact hlt))]
    exact kidAt_nth hp.2 j hj
/-- the least entry above the first i, among a right tree's leaves -/
theorem best_ent {d : Nat} {es : List E} {ks : List (ByteArray × T)} (h : RightT (d + 1) (.mk es ks)) {i : Nat} (hi : i ≤ es.length) {r : Option E} (hr : LeastOf ltE (rootE (leaves (.mk es ks))) (Abv ltE es i) r) : r = es[i]? :=
  least_at ltE_irr (fun _ _ _ => ltE_tr) (fun x => by rw [rootE_leaves]) h.2.1 hi hr
theorem best_key {d : Nat} {es : List E} {ks : List (ByteArray × T)} (h : RightT (d + 1) (.mk es ks)) {j : Nat} (hj : j ≤ ks.length) {r : Option ByteArray} (hr : LeastOf ltS (heads (leaves (.mk es ks))) (Abv ltS (ks.map fun x => x.1) j) r) : r = (ks.map fun x => x.1)[j]? :=
  least_at tot_str.irr (fun _ _ _ => tot_str.tr _ _ _) (heads_leaves h) (List.pairwise_map.2 h.2.2.1) (by rw [List.length_map]; exact hj) hr
/-- keys' heads may be -/
theorem heads_ok {d : Nat} {es : List E} {ks : List (ByteArray × T)} (h : RightT (d + 1) (.mk es ks)) {k : ByteArray} (hk : k ∈ heads (leaves (.mk es ks))) : 1 ≤ k.size := by
  obtain ⟨x, hx, rfl⟩ := List.mem_map.1 ((heads_leaves h k).1 hk)
  exact (h.2.2.2 x hx).1.1
theorem _root_.Go.Proofs.YtcbclefemcmhpaaGreat.Free.low {g B : Nat} {w w' : World} (h : Free g w) (hb : Below B w w') (hg : g < B) (hs : w.heap.size ≤ w'.heap.size) : Free g w' := ⟨Nat.lt_of_lt_of_le h.1 hs, fun j => (hb.frozen (p := ⟨g, j, none⟩) hg).trans (h.2 j)⟩
/-- an entry more -/
theorem push_ent (W : World) (base q : Nat) (hq : W.heap.size = q) {A : Option Addr} {n c : Nat} {l : List E} (h : Own W base 58 4 A n c (entsC l)) (hl : l.length = n) (hb : base ≤ W.heap.size) (e : E) (hn : n ≤ 800000) :
    ∃ A' c' w', (Builtin.append_ #[22, 22] 22 #[.slice A n c, .slice (some ⟨q, 0, none⟩) 1 1]).run Tryz.prog (W.alloc (.cells #[.int .i64 e.a, .int .i64 e.n, .string e.s, .int .i64 e.v] 58)) = .ok (.slice A' (n + 1) c') w' ∧ Own w' base 58 4 A' (n + 1) c' (entsC (l ++ [e])) ∧ Below base W w' := by
  subst hl
  obtain ⟨A', c', w', r1, r2, r3⟩ := Rw.push (f := entC) entC_len entC_one (t := 22) Tryz.underlying22 infoE rfl (by omega) (by omega) W base q hq hb (.slice A l.length c) l h.row e _ rfl (by omega)
  have e1 : (l ++ [e]).length = l.length + 1 := by simp
  rw [e1] at r1 r2
  exact ⟨A', c', w', r1, r2, r3⟩
/-- the key that was told last -/
def lastK (ks : List (ByteArray × T)) (j : Nat) : ByteArray := match j with | 0 => ⟨#[]⟩ | j + 1 => ((ks.map fun x => x.1)[j]?).getD ⟨#[]⟩
theorem str_cons {k : ByteArray} (h : 1 ≤ k.size) : ∃ a l, k.toList = a :: l := by
  rcases hk : k.toList with _ | ⟨a, l⟩
  · have h1 : k.toList.length = k.size := by rw [ByteArray.toList_eq]; simp
    rw [hk] at h1
    simp at h1
    omega
  · exact ⟨a, l, rfl⟩
theorem str_not_empty {k : ByteArray} (h : 1 ≤ k.size) : (k.toList == (⟨#[]⟩ : ByteArray).toList) = false := by
  obtain ⟨a, l, e⟩ := str_cons h
  rw [e, ByteArray.toList_eq]
  rfl
theorem str_not_empty2 {k : ByteArray} (h : 1 ≤ k.size) : (k.toList == []) = false := by
  obtain ⟨a, l, e⟩ := str_cons h
  rw [e]
  rfl
theorem str_isEmpty {k : ByteArray} (h : 1 ≤ k.size) : k.toList.isEmpty = false := by
  obtain ⟨a, l, e⟩ := str_cons h
  rw [e]
  rfl
theorem nil_isEmpty : (⟨#[]⟩ : ByteArray).toList.isEmpty = true := by
  rw [ByteArray.toList_eq]
  rfl
theorem above_key {ks : List (ByteArray × T)} {j : Nat} {k : ByteArray} (h : 1 ≤ k.size) (hj : j ≤ ks.length) : Abv ltS (ks.map fun x => x.1) j k ↔ Op.bytesLess (lastK ks j).toList k.toList = true := by
  cases j with
  | zero =>
    obtain ⟨a, l, e⟩ := str_cons h
    refine ⟨fun _ => ?_, fun _ h0 _ => absurd h0 (by omega)⟩
    show Op.bytesLess (⟨#[]⟩ : ByteArray).toList k.toList = true
    rw [e, ByteArray.toList_eq]
    rfl
  | succ j =>
    have hl : j < (ks.map fun x => x.1).length := by rw [List.length_map]; omega
    have e : lastK ks (j + 1) = (ks.map fun x => x.1)[j] := by show ((ks.map fun x => x.1)[j]?).getD ⟨#[]⟩ = _; rw [List.getElem?_eq_getElem hl]; rfl
    rw [e]
    exact ⟨fun h1 => h1 (by omega) hl, fun h1 _ _ => h1⟩
def cntOf : Option Value → Nat | some (.slice _ n _) => n | _ => 0
end Tr
end Go.Proofs.YtcbclefemcmhpaaGreat
namespace Go.Proofs.YtcbclefemcmhpaaGreat
open Go.ChangeShapes Go.WideShapes Go.ChangeAt Go.RowKit
namespace Tr
open Sp Rw
theorem getT_none : ∀ p : List ByteArray, getT none_ p = none_
  | [] => rfl
  | k :: p => by
    unfold getT
    exact getT_none p
theorem getT_append (t : T) : ∀ a b : List ByteArray, getT t (a ++ b) = getT (getT t a) b
  | [], _ => rfl
  | k :: a, b => by
    show getT (kidAt t.ks k) (a ++ b) = getT (getT (kidAt t.ks k) a) b
    exact getT_append _ a b
theorem getT_succ (t : T) {p : List ByteArray} {k : Nat} (h : k < p.length) : getT t (p.take (k + 1)) = kidAt (getT t (p.take k)).ks p[k] := by
  rw [List.take_succ_eq_append_getElem h, getT_append]
  rfl
theorem kidAt_at {ks : List (ByteArray × T)} (hs : ks.Pairwise (fun x y => ltS x.1 y.1)) {i : Nat} (h : i < ks.length) : kidAt ks (ks[i]).1 = (ks[i]).2 := by
  rcases kidAt_mem (ks := ks) (key := (ks[i]).1) with ⟨k, hk, he, e2⟩ | ⟨hn, _⟩
  · rw [e2]
    obtain ⟨j, hj, rfl⟩ := List.getElem_of_mem hk
    have : j = i := by
      rcases Nat.lt_trichotomy i j with h1 | h1 | h1
      · have := List.pairwise_iff_getElem.1 hs i j h hj h1
        rw [he] at this
        exact absurd this (tot_str.irr _)
      · exact h1.symm
      · have := List.pairwise_iff_getElem.1 hs j i hj h h1
        rw [he] at this
        exact absurd this (tot_str.irr _)
    subst this; rfl
  · exact absurd rfl (hn _ (List.getElem_mem h))
theorem kidAt_no {ks : List (ByteArray × T)} {x : ByteArray} (h : ¬ x ∈ keysOf ks) : kidAt ks x = none_ := kidAt_not fun k hk e => h (List.mem_map.2 ⟨k, hk, e⟩)
theorem getT_cut {t : T} {p : List ByteArray} {k : Nat} (h : getT t (p.take k) = none_) : getT t p = none_ := by
  conv => lhs; rw [← List.take_append_drop k p]
  rw [getT_append, h, getT_none]
theorem nodes_kidAt (ks : List (ByteArray × T)) (es : List E) (key : ByteArray) : nodes (kidAt ks key) ≤ nodes (.mk es ks) := by
  rcases kidAt_mem (ks := ks) (key := key) with ⟨k, hk, _, e⟩ | ⟨_, e⟩
  · rw [e]; exact nodes_kid hk
  · rw [e]; unfold none_; rw [nodes_mk]; simp
theorem rise_keys {d : Nat} {es : List E} {ks : List (ByteArray × T)} (h : RightT (d + 1) (.mk es ks)) : (keysOf ks).Pairwise fun a b => ¬ ltS b a := by
  unfold keysOf
  rw [List.pairwise_map]
  exact h.2.2.1.imp fun h => tot_str.asym h
/-- a tree of new memory is answered -/
def TreeIs (u : T) (w : World) (e : Ending) (w' : World) : Prop := ∃ Ae ne ce Ak nk ck, e = .returned (.agg #[.slice Ae ne ce, .slice Ak nk ck]) ∧ RdO w' (fun b => w.heap.size ≤ b) u ⟨Ae, ne, ce⟩ ⟨Ak, nk, ck⟩ ∧ Below w.heap.size w w'
theorem TreeIs.rd {u : T} {Ae Ak : Option Addr} {ne nk ce ck lo : Nat} {w : World} (h : RdO w (fun b => lo ≤ b) u ⟨Ae, ne, ce⟩ ⟨Ak, nk, ck⟩) : RdT w w.heap.size u ⟨Ae, ne, ce⟩ ⟨Ak, nk, ck⟩ := h.rd
set_option maxRecDepth 100000 in
set_option maxHeartbeats 4000000 in
theorem clone_any (t : T) (Ae Ak : Option Addr) (ne nk ce ck : Nat) (w : World) (hl : LenT reachBytes t) (hn : nodes t ≤ 100000) (hr : RdT w w.heap.size t ⟨Ae, ne, ce⟩ ⟨Ak, nk, ck⟩) :
    Calls Tryz.prog 58 #[.agg #[.slice Ae ne ce, .slice Ak nk ck]] w (TreeIs (if rightB 5 t then t else none_) w) := by
  obtain ⟨u, hu⟩ : ∃ u, (if rightB 5 t then t else none_) = u := ⟨_, rfl⟩
  rw [hu]
  have HRT : ∀ W, Below w.heap.size w W → Calls Tryz.prog 60 #[.agg #[.slice Ae ne ce, .slice Ak nk ck]] W fun e w' => e = .returned (.bool (rightB 5 t)) ∧ Below W.heap.size W w' := fun W hW => rightT_any t Ae Ak ne nk ce ck W hl (RdT.more hW.size _ (RdT.below hr hW))
  obtain ⟨g, hg⟩ : ∃ g, g = w.heap.size := ⟨_, rfl⟩
  have HK := Lib.hid (tree_box w Ae Ak ne nk ce ck)
  rw [← hg] at HK
  obtain ⟨W0, hW0⟩ : ∃ W, W = w.alloc (.cells #[.slice Ae ne ce, .slice Ak nk ck] 25) := ⟨_, rfl⟩
  rw [← hW0] at HK
  have HG := Lib.hid hg
  have HW0 := Lib.hid hW0
  have k0 := HK.out.c0
  have k1 := HK.out.c1
  clear hg hW0
  obtain ⟨q, hq⟩ : ∃ q, q = W0.heap.size := ⟨_, rfl⟩
  obtain ⟨W1, hW1⟩ : ∃ W, W = W0.alloc (.cells #[.slice none 0 0, .slice none 0 0] 25) := ⟨_, rfl⟩
  have hb1 : Below W0.heap.size W0 W1 := by rw [hW1]; exact Dt.box_below _ _ _
  have q0 : W1.cell? ⟨q, 0, none⟩ = some (.slice none 0 0) := by rw [hW1, hq]; go_simp
  have q1 : W1.cell? ⟨q, 1, none⟩ = some (.slice none 0 0) := by rw [hW1, hq]; go_simp
  have HFQ : Hid (Free q W1) := ⟨by rw [hW1, hq]; simp, fun j => by rw [hW1, hq]; go_simp⟩
  have HFG : Hid (Free g W1) := (show Free g W0 from ⟨World.block_lt_of_cell? W0 _ HK.out.c0, fun j => by rw [HW0.out, HG.out]; go_simp⟩).later hb1
  have HKB := Lib.hid (((HK.out.later hb1).cons_of q1).cons_of q0)
  have HQ : Hid (q = g + 1) := by unfold Hid; rw [hq, HW0.out, HG.out]; simp
  have hgW : g < W0.heap.size := World.block_lt_of_cell? W0 _ HK.out.c0
  have hgq : g ≠ q := by omega
  have hgq2 : ¬ q = g := by omega
  have hwg : w.heap.size ≤ g := by have := HG.out; omega
  have hwq : w.heap.size ≤ q := by omega
  have HW1 := Lib.hid hW1
  have HBq : Hid (Below w.heap.size w W1) := HKB.out.below
  clear hq hW1 hb1 q0 q1 k0 k1
  have k2 := HKB.out.c2
  have k3 := HKB.out.c3
  cases hz : rightB 5 t with
  | false =>
    rw [hz, if_neg (by simp)] at hu
    subst hu
    rw [hz] at HRT
    have HRT := Lib.hid HRT
    clear hz hr hl
    go_enter Tryz.func58, Tryz.ntmps58
    go_wp2_with fail
    rw [← HG.out, ← HW0.out, ← HQ.out, ← HW1.out]
    refine (HRT.out _ HBq.out).mono ?_
    rintro e w2 ⟨rfl, hb2⟩
    have HKc := Lib.hid (HKB.out.later hb2)
    have HFQ := Lib.hid (HFQ.out.later hb2)
    have HFG := Lib.hid (HFG.out.later hb2)
    clear hb2 k2 k3
    have k0 := HKc.out.c0
    have k1 := HKc.out.c1
    have k2 := HKc.out.c2
    have k3 := HKc.out.c3
    have m0 := HFQ.out.2 0
    have m1 := HFQ.out.2 1
    obtain ⟨w9, hw9⟩ : ∃ W, W = (w2.setCell ⟨q, 0, none⟩ (.slice none 0 0)).setCell ⟨q, 1, none⟩ (.slice none 0 0) := ⟨_, rfl⟩
    have HB9 : Hid (Below w.heap.size w w9) := by unfold Hid; rw [hw9]; exact (HKc.out.below.setCell (p := ⟨q, 0, none⟩) hwq _).setCell (p := ⟨q, 1, none⟩) hwq _
    have j0 : w9.cell? ⟨q, 0, none⟩ = some (.slice none 0 0) := by rw [hw9]; go_simp
    have j1 : w9.cell? ⟨q, 1, none⟩ = some (.slice none 0 0) := by rw [hw9]; go_simp
    have HW9 := Lib.hid hw9
    clear hw9
    go_wp2_with fail
    rw [← HW9.out]
    refine bodyPost_ret (v := .agg #[.slice none 0 0, .slice none 0 0]) (by simp [results, Tryz.results58, go_sem, j0, j1]) rfl ⟨none, 0, 0, none, 0, 0, rfl, RdO.none _ _ _ _ _ _, HB9.out⟩
  | true =>
    rw [hz, if_pos rfl] at hu
    subst hu
    rw [hz] at HRT
    have HRT := Lib.hid HRT
    have HRI := Lib.hid (rightB_iff.1 hz)
    have HR := Lib.hid hr
    have HN := Lib.hid hn
    clear hz hr hl hn
    go_enter Tryz.func58, Tryz.ntmps58
    go_wp2_with fail
    rw [← HG.out, ← HW0.out, ← HQ.out, ← HW1.out]
    refine (HRT.out _ HBq.out).mono ?_
    rintro e w2 ⟨rfl, hb2⟩
    have HKc := Lib.hid (HKB.out.later hb2)
    have HFQ := Lib.hid (HFQ.out.later hb2)
    have HFG := Lib.hid (HFG.out.later hb2)
    clear hb2 k2 k3
    have k0 := HKc.out.c0
    have k1 := HKc.out.c1
    have k2 := HKc.out.c2
    have k3 := HKc.out.c3
    have m0 := HFQ.out.2 0
    have m1 := HFQ.out.2 1
    go_wp2_with fail
    refine (copied_any t Ae Ak ne nk ce ck w2 HN.out (RdT.more HKc.out.below.size _ (RdT.below HR.out HKc.out.below))).mono ?_
    rintro e w3 ⟨Ae9, ce9, Ak9, ck9, rfl, hro, hb3⟩
    have HKc := Lib.hid (HKc.out.later hb3)
    have HFQ := Lib.hid (HFQ.out.later hb3)
    have hqw2 : q < w2.heap.size := World.block_lt_of_cell? w2 _ k0
    have hbs := HKc.out.below.size
    have hbs2 : w.heap.size ≤ w2.heap.size := by omega
    have HRO := Lib.hid (RdO.mono (ok' := fun b => w.heap.size ≤ b ∧ b ≠ q) (fun b hb _ => ⟨by omega, fun e => by omega⟩) _ hro)
    clear k0 k1 k2 k3 m0 m1 hro hb3 hbs hbs2
    have k0 := HKc.out.c0
    have k1 := HKc.out.c1
    have m0 := HFQ.out.2 0
    have m1 := HFQ.out.2 1
    obtain ⟨w9, hw9⟩ : ∃ W, W = (w3.setCell ⟨q, 0, none⟩ (.slice Ae9 ne ce9)).setCell ⟨q, 1, none⟩ (.slice Ak9 nk ck9) := ⟨_, rfl⟩
    have HT9 : Hid (RdO w9 (fun b => w.heap.size ≤ b) (t) ⟨Ae9, ne, ce9⟩ ⟨Ak9, nk, ck9⟩) := by
      unfold Hid
      rw [hw9]
      refine RdO.mono (fun b hb _ => hb.1) _ (RdO.keep (ok := fun b => w.heap.size ≤ b ∧ b ≠ q) (by simp [World.setCell]) (fun b hb hlt => ?_) _ HRO.out)
      exact (Below.heap_setCell _ ⟨q, 1, none⟩ _ b (fun e => hb.2 e)).trans (Below.heap_setCell _ ⟨q, 0, none⟩ _ b (fun e => hb.2 e))
    have HB9 : Hid (Below w.heap.size w w9) := by unfold Hid; rw [hw9]; exact (HKc.out.below.setCell (p := ⟨q, 0, none⟩) hwq _).setCell (p := ⟨q, 1, none⟩) hwq _
    have j0 : w9.cell? ⟨q, 0, none⟩ = some (.slice Ae9 ne ce9) := by rw [hw9]; go_simp
    have j1 : w9.cell? ⟨q, 1, none⟩ = some (.slice Ak9 nk ck9) := by rw [hw9]; go_simp
    have HW9 := Lib.hid hw9
    clear hw9
    go_wp2_with fail
    rw [← HW9.out]
    refine bodyPost_ret (v := .agg #[.slice Ae9 ne ce9, .slice Ak9 nk ck9]) (by simp [results, Tryz.results58, go_sem, j0, j1]) rfl ⟨Ae9, ne, ce9, Ak9, nk, ck9, rfl, HT9.out, HB9.out⟩
set_option maxRecDepth 100000 in
set_option maxHeartbeats 4000000 in
theorem only_any (t : T) (Ae Ak : Option Addr) (ne nk ce ck : Nat) (w : World) (l : List ByteArray) (A : Option Addr) (n c : Nat) (hl9 : l.length = n) (hn9 : n ≤ 100000) (hrl : Rd w w.heap.size 1 A n c (strs l)) (hl : LenT reachBytes t) (hn : nodes t ≤ 100000) (hr : RdT w w.heap.size t ⟨Ae, ne, ce⟩ ⟨Ak, nk, ck⟩) :
    Calls Tryz.prog 50 #[.agg #[.slice Ae ne ce, .slice Ak nk ck], .slice A n c] w (TreeIs (if rightB 5 t then .mk [] (keepK (fun k => inB l k == true) t.ks) else none_) w) := by
  obtain ⟨u, hu⟩ : ∃ u, (if rightB 5 t then .mk [] (keepK (fun k => inB l k == true) t.ks) else none_) = u := ⟨_, rfl⟩
  rw [hu]
  have HL9 := Lib.hid hl9
  have HRL := Lib.hid hrl
  clear hl9 hrl
  have HRT : ∀ W, Below w.heap.size w W → Calls Tryz.prog 60 #[.agg #[.slice Ae ne ce, .slice Ak nk ck]] W fun e w' => e = .returned (.bool (rightB 5 t)) ∧ Below W.heap.size W w' := fun W hW => rightT_any t Ae Ak ne nk ce ck W hl (RdT.more hW.size _ (RdT.below hr hW))
  obtain ⟨g, hg⟩ : ∃ g, g = w.heap.size := ⟨_, rfl⟩
  have HK := Lib.hid (tree_box w Ae Ak ne nk ce ck)
  rw [← hg] at HK
  obtain ⟨W0, hW0⟩ : ∃ W, W = w.alloc (.cells #[.slice Ae ne ce, .slice Ak nk ck] 25) := ⟨_, rfl⟩
  rw [← hW0] at HK
  have HG := Lib.hid hg
  have HW0 := Lib.hid hW0
  have k0 := HK.out.c0
  have k1 := HK.out.c1
  clear hg hW0
  obtain ⟨q, hq⟩ : ∃ q, q = W0.heap.size := ⟨_, rfl⟩
  obtain ⟨W1, hW1⟩ : ∃ W, W = W0.alloc (.cells #[.slice none 0 0, .slice none 0 0] 25) := ⟨_, rfl⟩
  have hb1 : Below W0.heap.size W0 W1 := by rw [hW1]; exact Dt.box_below _ _ _
  have q0 : W1.cell? ⟨q, 0, none⟩ = some (.slice none 0 0) := by rw [hW1, hq]; go_simp
  have q1 : W1.cell? ⟨q, 1, none⟩ = some (.slice none 0 0) := by rw [hW1, hq]; go_simp
  have HFQ : Hid (Free q W1) := ⟨by rw [hW1, hq]; simp, fun j => by rw [hW1, hq]; go_simp⟩
  have HFG : Hid (Free g W1) := (show Free g W0 from ⟨World.block_lt_of_cell? W0 _ HK.out.c0, fun j => by rw [HW0.out, HG.out]; go_simp⟩).later hb1
  have HKB := Lib.hid (((HK.out.later hb1).cons_of q1).cons_of q0)
  have HQ : Hid (q = g + 1) := by unfold Hid; rw [hq, HW0.out, HG.out]; simp
  have hgW : g < W0.heap.size := World.block_lt_of_cell? W0 _ HK.out.c0
  have hgq : g ≠ q := by omega
  have hgq2 : ¬ q = g := by omega
  have hwg : w.heap.size ≤ g := by have := HG.out; omega
  have hwq : w.heap.size ≤ q := by omega
  have HW1 := Lib.hid hW1
  have HBq : Hid (Below w.heap.size w W1) := HKB.out.below
  clear hq hW1 hb1 q0 q1 k0 k1
  have k2 := HKB.out.c2
  have k3 := HKB.out.c3
  cases hz : rightB 5 t with
  | false =>
    rw [hz, if_neg (by simp)] at hu
    subst hu
    rw [hz] at HRT
    have HRT := Lib.hid HRT
    clear hz hr hl
    go_enter Tryz.func50, Tryz.ntmps50
    go_wp2_with fail
    rw [← HG.out, ← HW0.out, ← HQ.out, ← HW1.out]
    refine (HRT.out _ HBq.out).mono ?_
    rintro e w2 ⟨rfl, hb2⟩
    have HKc := Lib.hid (HKB.out.later hb2)
    have HFQ := Lib.hid (HFQ.out.later hb2)
    have HFG := Lib.hid (HFG.out.later hb2)
    clear hb2 k2 k3
    have k0 := HKc.out.c0
    have k1 := HKc.out.c1
    have k2 := HKc.out.c2
    have k3 := HKc.out.c3
    have m0 := HFQ.out.2 0
    have m1 := HFQ.out.2 1
    obtain ⟨w9, hw9⟩ : ∃ W, W = (w2.setCell ⟨q, 0, none⟩ (.slice none 0 0)).setCell ⟨q, 1, none⟩ (.slice none 0 0) := ⟨_, rfl⟩
    have HB9 : Hid (Below w.heap.size w w9) := by unfold Hid; rw [hw9]; exact (HKc.out.below.setCell (p := ⟨q, 0, none⟩) hwq _).setCell (p := ⟨q, 1, none⟩) hwq _
    have j0 : w9.cell? ⟨q, 0, none⟩ = some (.slice none 0 0) := by rw [hw9]; go_simp
    have j1 : w9.cell? ⟨q, 1, none⟩ = some (.slice none 0 0) := by rw [hw9]; go_simp
    have HW9 := Lib.hid hw9
    clear hw9
    go_wp2_with fail
    rw [← HW9.out]
    refine bodyPost_ret (v := .agg #[.slice none 0 0, .slice none 0 0]) (by simp [results, Tryz.results50, go_sem, j0, j1]) rfl ⟨none, 0, 0, none, 0, 0, rfl, RdO.none _ _ _ _ _ _, HB9.out⟩
  | true =>
    rw [hz, if_pos rfl] at hu
    subst hu
    rw [hz] at HRT
    have HRT := Lib.hid HRT
    have HRI := Lib.hid (rightB_iff.1 hz)
    have HR := Lib.hid hr
    have HN := Lib.hid hn
    clear hz hr hl hn
    go_enter Tryz.func50, Tryz.ntmps50
    go_wp2_with fail
    rw [← HG.out, ← HW0.out, ← HQ.out, ← HW1.out]
    refine (HRT.out _ HBq.out).mono ?_
    rintro e w2 ⟨rfl, hb2⟩
    have HKc := Lib.hid (HKB.out.later hb2)
    have HFQ := Lib.hid (HFQ.out.later hb2)
    have HFG := Lib.hid (HFG.out.later hb2)
    clear hb2 k2 k3
    have k0 := HKc.out.c0
    have k1 := HKc.out.c1
    have k2 := HKc.out.c2
    have k3 := HKc.out.c3
    have m0 := HFQ.out.2 0
    have m1 := HFQ.out.2 1
    obtain ⟨es, ks, rfl⟩ : ∃ es ks, t = .mk es ks := ⟨t.es, t.ks, (T.eta t).symm⟩
    go_wp2_with fail
    refine (kids_any _ _ l A n c true Ae Ak ne nk ce ck w2 HL9.out hn9 ((HRL.out.below HKc.out.below).more HKc.out.below.size) HN.out (RdT.more HKc.out.below.size _ (RdT.below HR.out HKc.out.below))).mono ?_
    rintro e w3 ⟨base, Ak9, nk9, ck9, kr, rfl, hbs1, hbs3, hkr, hb3⟩
    have HKc := Lib.hid (HKc.out.later hb3)
    have HFQ := Lib.hid (HFQ.out.later hb3)
    have hqw2 : q < w2.heap.size := World.block_lt_of_cell? w2 _ k0
    have hws := World.block_lt_of_cell? w2 _ k2
    have hww : w.heap.size ≤ w2.heap.size := by omega
    have HRO := Lib.hid (hkr.tree (ok := fun b => w.heap.size ≤ b ∧ b ≠ q) (fun b hb hlt => ⟨by omega, fun e => by omega⟩) (es := []) (se := ⟨none, 0, 0⟩) rfl (RO.nil _ _ _ _ _))
    clear k0 k1 k2 k3 m0 m1 hkr hb3
    have k0 := HKc.out.c0
    have k1 := HKc.out.c1
    have m0 := HFQ.out.2 0
    have m1 := HFQ.out.2 1
    obtain ⟨w9, hw9⟩ : ∃ W, W = (w3.setCell ⟨q, 0, none⟩ (.slice none 0 0)).setCell ⟨q, 1, none⟩ (.slice Ak9 nk9 ck9) := ⟨_, rfl⟩
    have HT9 : Hid (RdO w9 (fun b => w.heap.size ≤ b) (.mk [] (keepK (fun k => inB l k == true) ks)) ⟨none, 0, 0⟩ ⟨Ak9, nk9, ck9⟩) := by
      unfold Hid
      rw [hw9]
      refine RdO.mono (fun b hb _ => hb.1) _ (RdO.keep (ok := fun b => w.heap.size ≤ b ∧ b ≠ q) (by simp [World.setCell]) (fun b hb hlt => ?_) _ HRO.out)
      exact (Below.heap_setCell _ ⟨q, 1, none⟩ _ b (fun e => hb.2 e)).trans (Below.heap_setCell _ ⟨q, 0, none⟩ _ b (fun e => hb.2 e))
    have HB9 : Hid (Below w.heap.size w w9) := by unfold Hid; rw [hw9]; exact (HKc.out.below.setCell (p := ⟨q, 0, none⟩) hwq _).setCell (p := ⟨q, 1, none⟩) hwq _
    have j0 : w9.cell? ⟨q, 0, none⟩ = some (.slice none 0 0) := by rw [hw9]; go_simp
    have j1 : w9.cell? ⟨q, 1, none⟩ = some (.slice Ak9 nk9 ck9) := by rw [hw9]; go_simp
    have HW9 := Lib.hid hw9
    clear hw9
    go_wp2_with fail
    rw [← HW9.out]
    refine bodyPost_ret (v := .agg #[.slice none 0 0, .slice Ak9 nk9 ck9]) (by simp [results, Tryz.results50, go_sem, j0, j1]) rfl ⟨none, 0, 0, Ak9, nk9, ck9, rfl, HT9.out, HB9.out⟩
set_option maxRecDepth 100000 in
set_option maxHeartbeats 4000000 in
theorem get_any (t : T) (Ae Ak : Option Addr) (ne nk ce ck : Nat) (w : World) (l : List ByteArray) (A : Option Addr) (n c : Nat) (hl9 : l.length = n) (hn9 : n ≤ 100000) (hrl : Rd w w.heap.size 1 A n c (strs l)) (hl : LenT reachBytes t) (hn : nodes t ≤ 100000) (hr : RdT w w.heap.size t ⟨Ae, ne, ce⟩ ⟨Ak, nk, ck⟩) :
    Calls Tryz.prog 53 #[.agg #[.slice Ae ne ce, .slice Ak nk ck], .slice A n c] w (TreeIs (if rightB 5 t then getT t l else none_) w) := by
  obtain ⟨u, hu⟩ : ∃ u, (if rightB 5 t then getT t l else none_) = u := ⟨_, rfl⟩
  rw [hu]
  have HL9 := Lib.hid hl9
  have HRL := Lib.hid hrl
  clear hl9 hrl
  have HRT : ∀ W, Below w.heap.size w W → Calls Tryz.prog 60 #[.agg #[.slice Ae ne ce, .slice Ak nk ck]] W fun e w' => e = .returned (.bool (rightB 5 t)) ∧ Below W.heap.size W w' := fun W hW => rightT_any t Ae Ak ne nk ce ck W hl (RdT.more hW.size _ (RdT.below hr hW))
  obtain ⟨g, hg⟩ : ∃ g, g = w.heap.size := ⟨_, rfl⟩
  have HK := Lib.hid (tree_box w Ae Ak ne nk ce ck)
  rw [← hg] at HK
  obtain ⟨W0, hW0⟩ : ∃ W, W = w.alloc (.cells #[.slice Ae ne ce, .slice Ak nk ck] 25) := ⟨_, rfl⟩
  rw [← hW0] at HK
  have HG := Lib.hid hg
  have HW0 := Lib.hid hW0
  have k0 := HK.out.c0
  have k1 := HK.out.c1
  clear hg hW0
  obtain ⟨q, hq⟩ : ∃ q, q = W0.heap.size := ⟨_, rfl⟩
  obtain ⟨W1, hW1⟩ : ∃ W, W = W0.alloc (.cells #[.slice none 0 0, .slice none 0 0] 25) := ⟨_, rfl⟩
  have hb1 : Below W0.heap.size W0 W1 := by rw [hW1]; exact Dt.box_below _ _ _
  have q0 : W1.cell? ⟨q, 0, none⟩ = some (.slice none 0 0) := by rw [hW1, hq]; go_simp
  have q1 : W1.cell? ⟨q, 1, none⟩ = some (.slice none 0 0) := by rw [hW1, hq]; go_simp
  have HFQ : Hid (Free q W1) := ⟨by rw [hW1, hq]; simp, fun j => by rw [hW1, hq]; go_simp⟩
  have HFG : Hid (Free g W1) := (show Free g W0 from ⟨World.block_lt_of_cell? W0 _ HK.out.c0, fun j => by rw [HW0.out, HG.out]; go_simp⟩).later hb1
  have HKB := Lib.hid (((HK.out.later hb1).cons_of q1).cons_of q0)
  have HQ : Hid (q = g + 1) := by unfold Hid; rw [hq, HW0.out, HG.out]; simp
  have hgW : g < W0.heap.size := World.block_lt_of_cell? W0 _ HK.out.c0
  have hgq : g ≠ q := by omega
  have hgq2 : ¬ q = g := by omega
  have hwg : w.heap.size ≤ g := by have := HG.out; omega
  have hwq : w.heap.size ≤ q := by omega
  have HW1 := Lib.hid hW1
  have HBq : Hid (Below w.heap.size w W1) := HKB.out.below
  clear hq hW1 hb1 q0 q1 k0 k1
  have k2 := HKB.out.c2
  have k3 := HKB.out.c3
  cases hz : rightB 5 t with
  | false =>
    rw [hz, if_neg (by simp)] at hu
    subst hu
    rw [hz] at HRT
    have HRT := Lib.hid HRT
    clear hz hr hl
    go_enter Tryz.func53, Tryz.ntmps53
    go_wp2_with fail
    rw [← HG.out, ← HW0.out, ← HQ.out, ← HW1.out]
    refine (HRT.out _ HBq.out).mono ?_
    rintro e w2 ⟨rfl, hb2⟩
    have HKc := Lib.hid (HKB.out.later hb2)
    have HFQ := Lib.hid (HFQ.out.later hb2)
    have HFG := Lib.hid (HFG.out.later hb2)
    clear hb2 k2 k3
    have k0 := HKc.out.c0
    have k1 := HKc.out.c1
    have k2 := HKc.out.c2
    have k3 := HKc.out.c3
    have m0 := HFQ.out.2 0
    have m1 := HFQ.out.2 1
    obtain ⟨w9, hw9⟩ : ∃ W, W = (w2.setCell ⟨q, 0, none⟩ (.slice none 0 0)).setCell ⟨q, 1, none⟩ (.slice none 0 0) := ⟨_, rfl⟩
    have HB9 : Hid (Below w.heap.size w w9) := by unfold Hid; rw [hw9]; exact (HKc.out.below.setCell (p := ⟨q, 0, none⟩) hwq _).setCell (p := ⟨q, 1, none⟩) hwq _
    have j0 : w9.cell? ⟨q, 0, none⟩ = some (.slice none 0 0) := by rw [hw9]; go_simp
    have j1 : w9.cell? ⟨q, 1, none⟩ = some (.slice none 0 0) := by rw [hw9]; go_simp
    have HW9 := Lib.hid hw9
    clear hw9
    go_wp2_with fail
    rw [← HW9.out]
    refine bodyPost_ret (v := .agg #[.slice none 0 0, .slice none 0 0]) (by simp [results, Tryz.results53, go_sem, j0, j1]) rfl ⟨none, 0, 0, none, 0, 0, rfl, RdO.none _ _ _ _ _ _, HB9.out⟩
  | true =>
    rw [hz, if_pos rfl] at hu
    subst hu
    rw [hz] at HRT
    have HRT := Lib.hid HRT
    have HRI := Lib.hid (rightB_iff.1 hz)
    have HR := Lib.hid hr
    have HN := Lib.hid hn
    clear hz hr hl hn
    go_enter Tryz.func53, Tryz.ntmps53
    go_wp2_with fail
    rw [← HG.out, ← HW0.out, ← HQ.out, ← HW1.out]
    refine (HRT.out _ HBq.out).mono ?_
    rintro e w2 ⟨rfl, hb2⟩
    have HKc := Lib.hid (HKB.out.later hb2)
    have HFQ := Lib.hid (HFQ.out.later hb2)
    have HFG := Lib.hid (HFG.out.later hb2)
    clear hb2 k2 k3
    have k0 := HKc.out.c0
    have k1 := HKc.out.c1
    have k2 := HKc.out.c2
    have k3 := HKc.out.c3
    have m0 := HFQ.out.2 0
    have m1 := HFQ.out.2 1
    go_wp2_with fail
    go_loopw [15] (fun i wr => ∃ (k : Nat) (u : T) (Ae5 Ak5 : Option Addr) (ne5 nk5 ce5 ck5 : Nat), k ≤ n ∧ i = .int .i64 k ∧ Hid (u = getT t (l.take k)) ∧ Hid (RightT 5 u) ∧ Hid (nodes u ≤ 100000) ∧ Hid (RdT w w.heap.size u ⟨Ae5, ne5, ce5⟩ ⟨Ak5, nk5, ck5⟩) ∧ Hid (Kept [(⟨g, 0, none⟩, .slice Ae5 ne5 ce5), (⟨g, 1, none⟩, .slice Ak5 nk5 ck5), (⟨q, 0, none⟩, .slice none 0 0), (⟨q, 1, none⟩, .slice none 0 0)] w wr) ∧ Hid (Free g wr) ∧ Hid (Free q wr)) (fun i _ => n - (intOf i).toNat)
    case atStart =>
      exact ⟨0, t, Ae, Ak, ne, nk, ce, ck, by omega, rfl, rfl, HRI.out, HN.out, HR.out, ((((Kept.nil_of HKc.out.below).cons_of k1).cons_of k0).cons_of k3).cons_of k2, HFG.out, HFQ.out⟩
    case round =>
      obtain ⟨k, u, Ae5, Ak5, ne5, nk5, ce5, ck5, hk, rfl, HU, HRU, HNU, HR5, HKW, HFGW, HFQW⟩ := hrel
      clear k0 k1 k2 k3 m0 m1
      have k0 := HKW.out.c0
      have k1 := HKW.out.c1
      have k2 := HKW.out.c2
      have k3 := HKW.out.c3
      have m0 := HFQW.out.2 0
      have m1 := HFQW.out.2 1
      by_cases hlt : k < n
      · have hkl : k < l.length := by rw [HL9.out]; exact hlt
        obtain ⟨b, o, rfl, hb, hc⟩ := HRL.out.at_ (by omega)
        obtain ⟨x, hx⟩ : ∃ x, x = l[k] := ⟨_, rfl⟩
        have cx := (HKW.out.below.cell (p := ⟨b, o + k, none⟩) hb).trans (hc k (.string x) (by rw [hx]; simp [strs, hkl]))
        have HSU := Lib.hid (getT_succ t hkl)
        have HX := Lib.hid hx
        clear hc hx
        obtain ⟨es, ks, rfl⟩ : ∃ es ks, u = .mk es ks := ⟨u.es, u.ks, (T.eta u).symm⟩
        have hlens := rd_lens HR5.out
        have hnk5 : nk5 ≤ 100000 := by have := nodes_es es ks; have := HNU.out; omega
        have HSE := Lib.hid (searchK_any es ks Ae5 Ak5 ne5 nk5 ce5 ck5 x wr (by omega) (RdT.more HKW.out.below.size _ (RdT.below HR5.out HKW.out.below)) (rise_keys HRU.out))
        have HLK5 := Lib.hid hlens.2
        clear hlens
        go_wp2_with fail
        refine HSE.out.mono ?_
        rintro e w3 ⟨i3, z, rfl, ⟨hz1, hz2⟩, hb3⟩
        have HKW := Lib.hid (HKW.out.later hb3)
        have HFGW := Lib.hid (HFGW.out.later hb3)
        have HFQW := Lib.hid (HFQW.out.later hb3)
        clear k0 k1 k2 k3 m0 m1 hb3 cx
        have k0 := HKW.out.c0
        have k1 := HKW.out.c1
        have k2 := HKW.out.c2
        have k3 := HKW.out.c3
        have m0 := HFQW.out.2 0
        have m1 := HFQW.out.2 1
        cases z with
        | false =>
          have hno := kidAt_no (hz2 rfl)
          have hnone : getT t l = none_ := by
            refine getT_cut (k := k + 1) ?_
            rw [HSU.out, ← HU.out, ← HX.out]
            exact hno
          have HNONE := Lib.hid hnone
          clear hz1 hz2 hno hnone
          obtain ⟨w9, hw9⟩ : ∃ W, W = (w3.setCell ⟨q, 0, none⟩ (.slice none 0 0)).setCell ⟨q, 1, none⟩ (.slice none 0 0) := ⟨_, rfl⟩
          have HB9 : Hid (Below w.heap.size w w9) := by unfold Hid; rw [hw9]; exact (HKW.out.below.setCell (p := ⟨q, 0, none⟩) hwq _).setCell (p := ⟨q, 1, none⟩) hwq _
          have j0 : w9.cell? ⟨q, 0, none⟩ = some (.slice none 0 0) := by rw [hw9]; go_simp
          have j1 : w9.cell? ⟨q, 1, none⟩ = some (.slice none 0 0) := by rw [hw9]; go_simp
          have HW9 := Lib.hid hw9
          clear hw9
          go_wp2_with fail
          rw [← HW9.out]
          rw [HNONE.out]
          refine bodyPost_ret (v := .agg #[.slice none 0 0, .slice none 0 0]) (by simp [results, Tryz.results53, go_sem, j0, j1]) rfl ⟨none, 0, 0, none, 0, 0, rfl, RdO.none _ _ _ _ _ _, HB9.out⟩
        | true =>
          obtain ⟨h31, h32⟩ := hz1 rfl
          have hik : i3 < ks.length := by rw [HLK5.out]; exact h31
          obtain ⟨b2, o2, rfl, hb2, hc2⟩ := rd_kid HR5.out (by omega)
          obtain ⟨⟨Ae6, ne6, ce6⟩, ⟨Ak6, nk6, ck6⟩, _, c1, c2, hkid⟩ := hc2 i3 hik
          dsimp only at c1 c2
          have c1 := (HKW.out.below.cell (p := ⟨b2, o2 + i3 * 3 + 1, none⟩) hb2).trans c1
          have c2 := (HKW.out.below.cell (p := ⟨b2, o2 + i3 * 3 + 2, none⟩) hb2).trans c2
          have hu2 : (ks[i3]).2 = getT t (l.take (k + 1)) := by
            rw [HSU.out, ← HU.out, ← HX.out, ← h32 hik]
            exact (kidAt_at HRU.out.2.2.1 hik).symm
          have HU2 := Lib.hid hu2
          have HRU2 : Hid (RightT 5 (ks[i3]).2) := (HRU.out.2.2.2 _ (List.getElem_mem hik)).2.2.more
          have HNU2 : Hid (nodes (ks[i3]).2 ≤ 100000) := Nat.le_trans (nodes_kid (List.getElem_mem hik)) HNU.out
          have HKID := Lib.hid hkid
          have m2 := HFGW.out.2 0
          have m3 := HFGW.out.2 1
          obtain ⟨w4, hw4⟩ : ∃ W, W = (w3.setCell ⟨g, 0, none⟩ (.slice Ae6 ne6 ce6)).setCell ⟨g, 1, none⟩ (.slice Ak6 nk6 ck6) := ⟨_, rfl⟩
          have j0 : w4.cell? ⟨g, 0, none⟩ = some (.slice Ae6 ne6 ce6) := by rw [hw4]; go_simp
          have j1 : w4.cell? ⟨g, 1, none⟩ = some (.slice Ak6 nk6 ck6) := by rw [hw4]; go_simp
          have HB4 : Hid (Below w.heap.size w w4) := by unfold Hid; rw [hw4]; exact (HKW.out.below.setCell (p := ⟨g, 0, none⟩) hwg _).setCell (p := ⟨g, 1, none⟩) hwg _
          have j2 : w4.cell? ⟨q, 0, none⟩ = some (.slice none 0 0) := by rw [hw4]; go_simp
          have j3 : w4.cell? ⟨q, 1, none⟩ = some (.slice none 0 0) := by rw [hw4]; go_simp
          have HK4 : Hid (Kept [(⟨g, 0, none⟩, .slice Ae6 ne6 ce6), (⟨g, 1, none⟩, .slice Ak6 nk6 ck6), (⟨q, 0, none⟩, .slice none 0 0), (⟨q, 1, none⟩, .slice none 0 0)] w w4) := ((((Kept.nil_of HB4.out).cons_of j3).cons_of j2).cons_of j1).cons_of j0
          have HFG4 : Hid (Free g w4) := by unfold Hid; rw [hw4]; exact (HFGW.out.set _ _).set _ _
          have HFQ4 : Hid (Free q w4) := by unfold Hid; rw [hw4]; exact (HFQW.out.set _ _).set _ _
          have HW4 := Lib.hid hw4
          have h31i : (i3 : Int) < nk5 := by omega
          clear hz1 hz2 hc2 hkid hu2 h32 hw4 j0 j1 j2 j3
          go_wp2_with fail
          rw [← HW4.out]
          go_roundw
          case rel => exact ⟨k + 1, _, Ae6, Ak6, ne6, nk6, ce6, ck6, by omega, by go_num, HU2.out, HRU2.out, HNU2.out, HKID.out, HK4.out, HFG4.out, HFQ4.out⟩
          case measure => simp [intOf]; omega
      · obtain rfl : k = n := by omega
        have hall : l.take k = l := List.take_of_length_le (by rw [HL9.out]; omega)
        have HUA : Hid (u = getT t l) := by have := HU.out; rwa [hall] at this
        clear hall
        go_wp2_with fail
        refine (copied_any u Ae5 Ak5 ne5 nk5 ce5 ck5 wr HNU.out (RdT.more HKW.out.below.size _ (RdT.below HR5.out HKW.out.below))).mono ?_
        rintro e w3 ⟨Ae9, ce9, Ak9, ck9, rfl, hro, hb3⟩
        have hqw2 : q < wr.heap.size := World.block_lt_of_cell? wr _ k2
        have hww : w.heap.size ≤ wr.heap.size := by omega
        have HKW := Lib.hid (HKW.out.later hb3)
        have HFQW := Lib.hid (HFQW.out.later hb3)
        have HRO := Lib.hid (RdO.mono (ok' := fun b => w.heap.size ≤ b ∧ b ≠ q) (fun b hb _ => ⟨by omega, fun e => by omega⟩) _ hro)
        clear k0 k1 k2 k3 m0 m1 hro hb3
        have k2 := HKW.out.c2
        have k3 := HKW.out.c3
        have m0 := HFQW.out.2 0
        have m1 := HFQW.out.2 1
        obtain ⟨w9, hw9⟩ : ∃ W, W = (w3.setCell ⟨q, 0, none⟩ (.slice Ae9 ne5 ce9)).setCell ⟨q, 1, none⟩ (.slice Ak9 nk5 ck9) := ⟨_, rfl⟩
        have HT9 : Hid (RdO w9 (fun b => w.heap.size ≤ b) (u) ⟨Ae9, ne5, ce9⟩ ⟨Ak9, nk5, ck9⟩) := by
          unfold Hid
          rw [hw9]
          refine RdO.mono (fun b hb _ => hb.1) _ (RdO.keep (ok := fun b => w.heap.size ≤ b ∧ b ≠ q) (by simp [World.setCell]) (fun b hb hlt => ?_) _ HRO.out)
          exact (Below.heap_setCell _ ⟨q, 1, none⟩ _ b (fun e => hb.2 e)).trans (Below.heap_setCell _ ⟨q, 0, none⟩ _ b (fun e => hb.2 e))
        have HB9 : Hid (Below w.heap.size w w9) := by unfold Hid; rw [hw9]; exact (HKW.out.below.setCell (p := ⟨q, 0, none⟩) hwq _).setCell (p := ⟨q, 1, none⟩) hwq _
        have j0 : w9.cell? ⟨q, 0, none⟩ = some (.slice Ae9 ne5 ce9) := by rw [hw9]; go_simp
        have j1 : w9.cell? ⟨q, 1, none⟩ = some (.slice Ak9 nk5 ck9) := by rw [hw9]; go_simp
        have HW9 := Lib.hid hw9
        clear hw9
        go_wp2_with fail
        rw [← HW9.out]
        refine bodyPost_ret (v := .agg #[.slice Ae9 ne5 ce9, .slice Ak9 nk5 ck9]) (by simp [results, Tryz.results53, go_sem, j0, j1]) rfl ⟨Ae9, ne5, ce9, Ak9, nk5, ck9, rfl, by have h9 := HT9.out; rw [HUA.out] at h9; exact h9, HB9.out⟩
end Tr
end Go.Proofs.YtcbclefemcmhpaaGreat
namespace Go.Proofs.YtcbclefemcmhpaaGreat
open Go.ChangeShapes Go.WideShapes Go.ChangeAt Go.RowKit
namespace Sp
theorem enters_fn {P : Program} {f : FuncId} {fn : Func} {c : Code} (hf : P.funcs[f]? = some fn) (hname : (fn.name == "runtime.NumGoroutine") = false) (hb : fn.body = some c) (args : Array Value) (w : World) : (callFunc f args).run P w = .ok (.enter f args) w := by
  have h1 : fn.name ≠ "runtime.NumGoroutine" := by simpa using hname
  simp [callFunc, hf, h1, hb, mark]
def uniF (x y : Bool) : Bool := x || y
def metF (x y : Bool) : Bool := x && y
def minF (x y : Bool) : Bool := x && !y
set_option maxHeartbeats 400000 in
theorem join_bad (F : FuncId) (a b : List (Int × Int)) (n m : Nat) (A B : Option Addr) (c d : Nat) (w : World) (hla : a.length = n) (hlb : b.length = m) (hn : n ≤ 100000) (hm : m ≤ 100000) (hra : Rd w w.heap.size 2 A n c (runsC a)) (hrb : Rd w w.heap.size 2 B m d (runsC b)) (ob : (rightB a && rightB b) = false) :
    Calls Tryz.prog 114 #[.slice A n c, .slice B m d, .func (.func F) #[] #[]] w fun e w' => e = .returned (.slice none 0 0) ∧ Below w.heap.size w w' := by
  have HT1 := Lib.hid (right_any a n A c w hla (by omega) hra)
  have HT2 := fun W (h : Below w.heap.size w W) => Lib.hid (right_any b m B d W hlb (by omega) ((hrb.below h).more h.size))
  cases h1 : rightB a with
  | false =>
    rw [h1] at HT1
    clear hra hrb hla hlb ob h1
    go_enter Tryz.func114, Tryz.ntmps114
    go_wp2_with fail
    refine HT1.out.mono ?_
    rintro e w1 ⟨rfl, hb1⟩
    go_wp2
    go_ret
    exact ⟨rfl, hb1⟩
  | true =>
    rw [h1, Bool.true_and] at ob
    rw [h1] at HT1
    rw [ob] at HT2
    clear hra hrb hla hlb ob h1
    go_enter Tryz.func114, Tryz.ntmps114
    go_wp2_with fail
    refine HT1.out.mono ?_
    rintro e w1 ⟨rfl, hb1⟩
    go_wp2_with fail
    refine (HT2 w1 hb1).out.mono ?_
    rintro e w2 ⟨rfl, hb2⟩
    go_wp2
    go_ret
    exact ⟨rfl, hb1.trans (hb2.mono hb1.size)⟩
set_option maxHeartbeats 400000 in
theorem union_any (a b : List (Int × Int)) (n m : Nat) (A B : Option Addr) (c d : Nat) (w : World) (hla : a.length = n) (hlb : b.length = m) (hn : n ≤ 100000) (hm : m ≤ 100000) (hra : Rd w w.heap.size 2 A n c (runsC a)) (hrb : Rd w w.heap.size 2 B m d (runsC b)) (oa : RightF 1 a) (ob : RightF 1 b) :
    Calls Tryz.prog 97 #[.slice A n c, .slice B m d] w (JoinIs uniF a b w) := by
  have HC := Lib.hid (join_any uniF rfl 127 union_fn (enters_fn Tryz.func127 (by kernel_rfl) rfl) a b n m A B c d w hla hlb hn hm hra hrb oa ob)
  clear hra hrb hla hlb oa ob
  go_enter Tryz.func97, Tryz.ntmps97
  go_wp2_with (go_at_call 114; refine HC.out.mono ?_; rintro e w1 ⟨l, A1, c1, rfl, hp, ho, hb⟩)
  go_ret
  exact ⟨l, _, _, rfl, hp, ho, hb⟩
/-- of lists that aren't right nothing comes -/
theorem union_bad (a b : List (Int × Int)) (n m : Nat) (A B : Option Addr) (c d : Nat) (w : World) (hla : a.length = n) (hlb : b.length = m) (hn : n ≤ 100000) (hm : m ≤ 100000) (hra : Rd w w.heap.size 2 A n c (runsC a)) (hrb : Rd w w.heap.size 2 B m d (runsC b)) (ob : (rightB a && rightB b) = false) :
    Calls Tryz.prog 97 #[.slice A n c, .slice B m d] w fun e w' => e = .returned (.slice none 0 0) ∧ Below w.heap.size w w' := by
  have HC := Lib.hid (join_bad 127 a b n m A B c d w hla hlb hn hm hra hrb ob)
  clear hra hrb hla hlb ob
  go_enter Tryz.func97, Tryz.ntmps97
  go_wp2_with (go_at_call 114; refine HC.out.mono ?_; rintro e w1 ⟨rfl, hb⟩)
  go_ret
  exact ⟨rfl, hb⟩
set_option maxHeartbeats 400000 in
theorem minus_any (a b : List (Int × Int)) (n m : Nat) (A B : Option Addr) (c d : Nat) (w : World) (hla : a.length = n) (hlb : b.length = m) (hn : n ≤ 100000) (hm : m ≤ 100000) (hra : Rd w w.heap.size 2 A n c (runsC a)) (hrb : Rd w w.heap.size 2 B m d (runsC b)) (oa : RightF 1 a) (ob : RightF 1 b) :
    Calls Tryz.prog 89 #[.slice A n c, .slice B m d] w (JoinIs minF a b w) := by
  have HC := Lib.hid (join_any minF rfl 115 minus_fn (enters_fn Tryz.func115 (by kernel_rfl) rfl) a b n m A B c d w hla hlb hn hm hra hrb oa ob)
  clear hra hrb hla hlb oa ob
  go_enter Tryz.func89, Tryz.ntmps89
  go_wp2_with (go_at_call 114; refine HC.out.mono ?_; rintro e w1 ⟨l, A1, c1, rfl, hp, ho, hb⟩)
  go_ret
  exact ⟨l, _, _, rfl, hp, ho, hb⟩
/-- of lists that aren't right nothing comes -/
theorem minus_bad (a b : List (Int × Int)) (n m : Nat) (A B : Option Addr) (c d : Nat) (w : World) (hla : a.length = n) (hlb : b.length = m) (hn : n ≤ 100000) (hm : m ≤ 100000) (hra : Rd w w.heap.size 2 A n c (runsC a)) (hrb : Rd w w.heap.size 2 B m d (runsC b)) (ob : (rightB a && rightB b) = false) :
    Calls Tryz.prog 89 #[.slice A n c, .slice B m d] w fun e w' => e = .returned (.slice none 0 0) ∧ Below w.heap.size w w' := by
  have HC := Lib.hid (join_bad 115 a b n m A B c d w hla hlb hn hm hra hrb ob)
  clear hra hrb hla hlb ob
  go_enter Tryz.func89, Tryz.ntmps89
  go_wp2_with (go_at_call 114; refine HC.out.mono ?_; rintro e w1 ⟨rfl, hb⟩)
  go_ret
  exact ⟨rfl, hb⟩
end Sp
end Go.Proofs.YtcbclefemcmhpaaGreat
namespace Go.Proofs.YtcbclefemcmhpaaGreat
open Go.ChangeShapes Go.WideShapes Go.ChangeAt Go.RowKit
namespace Cx
open Sp Rw
/-- the first d centers' spans -/
def pre (q : Nat → List (Int × Int)) : Nat → List S3
  | 0 => []
  | d + 1 => pre q d ++ spans d (q d)
theorem pre_four (q : Nat → List (Int × Int)) : pre q 4 = glue fun i => q i.toNat := by simp [pre, glue]
theorem spans_take {d : Int} {l : List (Int × Int)} {k : Nat} (h : k < l.length) {r : Int × Int} (hr : r = l[k]) : spans d (l.take (k + 1)) = spans d (l.take k) ++ [(d, r)] := by
  rw [List.take_succ_eq_append_getElem h, ← hr]
  simp [spans]
theorem spans_len (d : Int) (l : List (Int × Int)) : (spans d l).length = l.length := by simp [spans]
theorem pre_len {q : Nat → List (Int × Int)} {M : Nat} (h : ∀ d, d < 4 → (q d).length ≤ M) : ∀ d, d ≤ 4 → (pre q d).length ≤ d * M
  | 0, _ => by simp [pre]
  | d + 1, hd => by
    have h1 := pre_len h d (by omega)
    have h2 := h d (by omega)
    simp only [pre, List.length_append, spans_len]
    rw [Nat.succ_mul]
    omega
/-- a row of spans of the call's own -/
def CtxOwn (base : Nat) (l : List S3) (w : World) (e : Ending) (w' : World) : Prop := ∃ A c, e = .returned (.slice A l.length c) ∧ Own w' base 55 3 A l.length c (spsC l) ∧ Below base w w'
set_option maxRecDepth 100000 in
set_option maxHeartbeats 1000000 in
theorem context_any (s : Nat → SV) (q : Nat → List (Int × Int)) (w : World) (hq : ∀ d, d < 4 → SvIs w (s d) (q d)) (hn : ∀ d, d < 4 → (q d).length ≤ 200000) :
    Calls Tryz.prog 86 #[.agg #[.slice (s 0).A (s 0).n (s 0).c, .slice (s 1).A (s 1).n (s 1).c, .slice (s 2).A (s 2).n (s 2).c, .slice (s 3).A (s 3).n (s 3).c]] w (CtxOwn w.heap.size (pre q 4) w) := by
  have c0 := box4 w s 0 (by omega); have c1 := box4 w s 1 (by omega); have c2 := box4 w s 2 (by omega); have c3 := box4 w s 3 (by omega)
  have HQ := Lib.hid hq
  have HN := Lib.hid hn
  clear hq hn
  go_enter Tryz.func86, Tryz.ntmps86
  go_wp2
  clear c0 c1 c2 c3
  go_loopw [3, 9] (fun v i wr => ∃ (d m : Nat) (A' : Option Addr) (c' : Nat), d ≤ 4 ∧ v = .slice A' m c' ∧ i = .int .i64 d ∧ Hid (m = (pre q d).length) ∧ Hid (Own wr w.heap.size 55 3 A' m c' (spsC (pre q d))) ∧ Hid (Below w.heap.size w wr)) (fun _ i _ => 4 - (intOf i).toNat)
  case atStart => exact ⟨0, 0, none, 0, by omega, rfl, rfl, rfl, ⟨World.ownsRow_nil _ _ _ _, by simp [pre, spsC]⟩, (Below.refl _ _).alloc (Nat.le_refl _) _⟩
  case round =>
    obtain ⟨d, m, A', c', hd, rfl, rfl, HM, HO, HB⟩ := hrel
    by_cases hd4 : d < 4
    · have hix := index_parts s d hd4
      obtain ⟨sA, sn, sc, hs⟩ : ∃ sA sn sc, s d = ⟨sA, sn, sc⟩ := ⟨_, _, _, rfl⟩
      obtain ⟨l, hl⟩ : ∃ l, l = q d := ⟨_, rfl⟩
      have HSV : Hid (l.length = sn ∧ Rd w w.heap.size 2 sA sn sc (runsC l)) := by
        have := HQ.out d hd4
        rw [hs, ← hl] at this
        exact this
      rw [hs] at hix
      dsimp only at hix
      have hln : l.length ≤ 200000 := by rw [hl]; exact HN.out d hd4
      have HP : Hid (pre q (d + 1) = pre q d ++ spans d l) := by unfold Hid; rw [hl]; rfl
      have hpl := pre_len HN.out d (by omega)
      rw [← HM.out] at hpl
      have hpl2 : m ≤ 800000 := by have : d * 200000 ≤ 4 * 200000 := Nat.mul_le_mul_right _ (by omega); omega
      have hsn : sn ≤ 200000 := by rw [← HSV.out.1]; exact hln
      have HS := Lib.hid hs
      clear hs hl hpl hln
      go_wp2
      go_loopw [3, 15] (fun v i wr => ∃ (k m2 : Nat) (A' : Option Addr) (c' : Nat), k ≤ sn ∧ v = .slice A' m2 c' ∧ i = .int .i64 k ∧ Hid (m2 = (pre q d ++ spans d (l.take k)).length) ∧ Hid (Own wr w.heap.size 55 3 A' m2 c' (spsC (pre q d ++ spans d (l.take k)))) ∧ Hid (Below w.heap.size w wr)) (fun _ i _ => sn - (intOf i).toNat)
      case atStart => exact ⟨0, m, A', c', by omega, rfl, rfl, (by unfold Hid; rw [HM.out]; simp [spans]), (by unfold Hid; rw [List.take_zero]; simpa [spans] using HO.out), HB.out⟩
      case round =>
        clear HO HB HM
        obtain ⟨k, m2, A2, c2, hk, rfl, rfl, HM2, HO2, HB2⟩ := hrel
        by_cases hlt : k < sn
        · have hkl : k < l.length := by rw [HSV.out.1]; exact hlt
          obtain ⟨b, o, rfl, hbl, hc⟩ := rd_run HSV.out.2 HSV.out.1 hlt
          obtain ⟨q0, q1⟩ := hc k hkl
          obtain ⟨p, hp⟩ : ∃ p, p = l[k] := ⟨_, rfl⟩
          have htk := spans_take (d := (d : Int)) hkl hp
          rw [← hp] at q0 q1
          obtain ⟨x, y⟩ := p
          have q0 := (HB2.out.cell (p := ⟨b, o + k * 2, none⟩) hbl).trans q0
          have q1 := (HB2.out.cell (p := ⟨b, o + k * 2 + 1, none⟩) hbl).trans q1
          have hb3 := HB2.out.alloc HB2.out.size (.cells #[.int .i64 x, .int .i64 y] 138)
          have hown := (HO2.out.row).alloc (.cells #[.int .i64 x, .int .i64 y] 138)
          rw [HM2.out] at hown
          have hm2 : (pre q d ++ spans d (l.take k)).length ≤ 900000 := by rw [← HM2.out, HM2.out, List.length_append, spans_len, List.length_take]; have := pre_len HN.out d (by omega); have h4 : d * 200000 ≤ 3 * 200000 := Nat.mul_le_mul_right _ (by omega); omega
          obtain ⟨A3, c3, w3, hrun, ho3, hb4⟩ := push spC_len spC_one Tryz.underlying27 infoS rfl (by omega) (by omega) (wr.alloc (.cells #[.int .i64 x, .int .i64 y] 138)) w.heap.size (wr.heap.size + 1) (by simp) hb3.size _ (pre q d ++ spans d (l.take k)) hown ((d : Int), x, y) #[.int .i64 d, .int .i64 x, .int .i64 y] rfl hm2
          rw [List.append_assoc, ← htk] at hrun ho3
          rw [← HM2.out] at hrun
          obtain ⟨m3, hm3⟩ : ∃ m3, m3 = (pre q d ++ spans d (l.take (k + 1))).length := ⟨_, rfl⟩
          have e3 : spsC (pre q d ++ spans d (l.take (k + 1))) = (pre q d ++ spans d (l.take (k + 1))).flatMap spC := rfl
          rw [← e3, ← hm3] at ho3
          rw [← hm3] at hrun
          have Hrun := Lib.hid hrun
          have HO3 := Lib.hid ho3
          have HB3 := Lib.hid (hb3.trans hb4)
          have HM3 := Lib.hid hm3
          clear hc hp hrun ho3 hb4 hb3 hown htk hm3 e3 HO2 hm2
          go_wp2_with (at_builtin; refine Lib.wpList_append_run _ rfl _ _ _ _ rfl _ _ rfl rfl _ _ Hrun.out ?_)
          refine ⟨⟨.slice A3 m3 c3, _, .int .i64 ((k : Int) + 1), ⟨k + 1, by omega, m3, A3, c3, rfl, by go_num, ?_, HO3.out⟩, rfl, rfl, rfl⟩, by simp [intOf]; omega⟩
          have := HM3.out
          rwa [List.length_append] at this
        · obtain rfl : k = sn := by omega
          have HE : Hid (l.take k = l) := List.take_of_length_le (by rw [HSV.out.1]; omega)
          rw [HE.out, ← HP.out] at HO2 HM2
          go_wp2
          go_roundw
          case rel => exact ⟨d + 1, m2, A2, c2, by omega, rfl, by go_num, HM2.out, HO2.out, HB2.out⟩
          case measure => simp [intOf]; omega
    · obtain rfl : d = 4 := by omega
      have hm := HM.out
      subst hm
      go_wp2
      go_ret
      exact ⟨_, _, rfl, HO.out, HB.out⟩
end Cx
end Go.Proofs.YtcbclefemcmhpaaGreat
namespace Go.Proofs.YtcbclefemcmhpaaGreat
open Go.ChangeShapes Go.WideShapes Go.ChangeAt Go.RowKit
namespace Cx
open Sp Rw
/-- a slice that reads as what two sets of dots make -/
def PutIsC (f : Bool → Bool → Bool) (a b : List S3) (n m : Nat) (w : World) (e : Ending) (w' : World) : Prop :=
  ∃ u q A' c', e = .returned (.slice A' q c') ∧ Hid (u.length = q) ∧ Hid (PutC f a b u) ∧ q ≤ n + m ∧ Hid (Own w' w.heap.size 55 3 A' q c' (spsC u)) ∧ Below w.heap.size w w'
/-- a function that puts two sets of numbers together -/
def PutsBy (f : Bool → Bool → Bool) (F : FuncId) : Prop :=
  ∀ (a b : List (Int × Int)) (n m : Nat) (A B : Option Addr) (c d : Nat) (w : World), a.length = n → b.length = m → n ≤ 100000 → m ≤ 100000 → Rd w w.heap.size 2 A n c (runsC a) → Rd w w.heap.size 2 B m d (runsC b) → RightF 1 a → RightF 1 b → Calls Tryz.prog F #[.slice A n c, .slice B m d] w (JoinIs f a b w)
theorem parts_len (a : List S3) : (part a 0).length + (part a 1).length + (part a 2).length + (part a 3).length ≤ a.length := by
  induction a with
  | nil => simp [part_nil]
  | cons s a ih =>
    rw [part_cons, part_cons, part_cons, part_cons, List.length_cons]
    by_cases h0 : s.1 = 0
    · rw [if_pos h0, if_neg (by omega), if_neg (by omega), if_neg (by omega), List.length_cons]; omega
    · rw [if_neg h0]
      by_cases h1 : s.1 = 1
      · rw [if_pos h1, if_neg (by omega), if_neg (by omega), List.length_cons]; omega
      · rw [if_neg h1]
        by_cases h2 : s.1 = 2
        · rw [if_pos h2, if_neg (by omega), List.length_cons]; omega
        · rw [if_neg h2]
          by_cases h3 : s.1 = 3
          · rw [if_pos h3, List.length_cons]; omega
          · rw [if_neg h3]; omega
theorem put_pre {f : Bool → Bool → Bool} {a b : List S3} {r : Nat → List (Int × Int)} (h : ∀ d : Nat, d < 4 → Put f (part a d) (part b d) (r d)) : PutC f a b (pre r 4) := by
  rw [pre_four]
  refine PutC.of fun d hd => ?_
  have e : ((d.toNat : Nat) : Int) = d := by have := hd.1; omega
  have h1 := h d.toNat (by have := hd.1; have := hd.2; omega)
  rw [e] at h1
  exact ⟨h1.right, h1.has⟩
theorem box4c (w : World) (s : Nat → SV) : Cells4 (w.alloc (.cells #[.slice (s 0).A (s 0).n (s 0).c, .slice (s 1).A (s 1).n (s 1).c, .slice (s 2).A (s 2).n (s 2).c, .slice (s 3).A (s 3).n (s 3).c] 109)) w.heap.size (fun j => .slice (s j).A (s j).n (s j).c) :=
  Cells4.new w _ _ _ _ _ _ rfl
set_option maxRecDepth 100000 in
set_option maxHeartbeats 2000000 in
theorem join_bad (F : FuncId) (a b : List S3) (n m : Nat) (A B : Option Addr) (c d : Nat) (w : World) (hla : a.length = n) (hlb : b.length = m) (hn : n ≤ 100000) (hm : m ≤ 100000) (hra : Rd w w.heap.size 3 A n c (spsC a)) (hrb : Rd w w.heap.size 3 B m d (spsC b)) (hab : (rightCB a && rightCB b) = false) :
    Calls Tryz.prog 88 #[.slice A n c, .slice B m d, .func (.func F) #[] #[]] w fun e w' => e = .returned (.slice none 0 0) ∧ Below w.heap.size w w' := by
  obtain ⟨x, hx⟩ : ∃ x, x = rightCB a := ⟨_, rfl⟩
  obtain ⟨y, hy⟩ : ∃ y, y = rightCB b := ⟨_, rfl⟩
  rw [← hx, ← hy] at hab
  have HC1 := Lib.hid (split_any a n A c w hla hn hra x hx.symm)
  have HC2 := fun W (h : Below w.heap.size w W) => Lib.hid (split_any b m B d W hlb hm ((hrb.below h).more h.size) y hy.symm)
  clear hla hlb hra hrb hx hy
  have hxy : (!x || !y) = true := by cases x <;> cases y <;> simp_all
  cases x with
  | false =>
    go_enter Tryz.func88, Tryz.ntmps88
    go_wp2_with fail
    refine HC1.out.mono ?_
    rintro e w1 ⟨s, rfl, HS, hb1⟩
    have hb1' := hb1.alloc hb1.size (.cells #[.slice (s 0).A (s 0).n (s 0).c, .slice (s 1).A (s 1).n (s 1).c, .slice (s 2).A (s 2).n (s 2).c, .slice (s 3).A (s 3).n (s 3).c] 109)
    go_wp2_with fail
    refine (HC2 _ hb1').out.mono ?_
    rintro e w2 ⟨t, rfl, HT, hb2⟩
    have hb2' := (hb1'.trans (hb2.mono hb1'.size)).alloc (hb1'.trans (hb2.mono hb1'.size)).size (.cells #[.slice (t 0).A (t 0).n (t 0).c, .slice (t 1).A (t 1).n (t 1).c, .slice (t 2).A (t 2).n (t 2).c, .slice (t 3).A (t 3).n (t 3).c] 109)
    go_wp2
    go_ret
    exact ⟨rfl, hb2'⟩
  | true =>
    cases y with
    | true => cases hab
    | false =>
      go_enter Tryz.func88, Tryz.ntmps88
      go_wp2_with fail
      refine HC1.out.mono ?_
      rintro e w1 ⟨s, rfl, HS, hb1⟩
      have hb1' := hb1.alloc hb1.size (.cells #[.slice (s 0).A (s 0).n (s 0).c, .slice (s 1).A (s 1).n (s 1).c, .slice (s 2).A (s 2).n (s 2).c, .slice (s 3).A (s 3).n (s 3).c] 109)
      go_wp2_with fail
      refine (HC2 _ hb1').out.mono ?_
      rintro e w2 ⟨t, rfl, HT, hb2⟩
      have hb2' := (hb1'.trans (hb2.mono hb1'.size)).alloc (hb1'.trans (hb2.mono hb1'.size)).size (.cells #[.slice (t 0).A (t 0).n (t 0).c, .slice (t 1).A (t 1).n (t 1).c, .slice (t 2).A (t 2).n (t 2).c, .slice (t 3).A (t 3).n (t 3).c] 109)
      go_wp2
      go_ret
      exact ⟨rfl, hb2'⟩
set_option maxRecDepth 100000 in
set_option maxHeartbeats 2000000 in
theorem joinC_any (f : Bool → Bool → Bool) (F : FuncId) (hF : PutsBy f F) (eF : ∀ args W, (callFunc F args).run Tryz.prog W = .ok (.enter F args) W) (a b : List S3) (n m : Nat) (A B : Option Addr) (c d : Nat) (w : World) (hla : a.length = n) (hlb : b.length = m) (hn : n ≤ 50000) (hm : m ≤ 50000) (hra : Rd w w.heap.size 3 A n c (spsC a)) (hrb : Rd w w.heap.size 3 B m d (spsC b)) (ha : RightC a) (hb : RightC b) :
    Calls Tryz.prog 88 #[.slice A n c, .slice B m d, .func (.func F) #[] #[]] w (PutIsC f a b n m w) := by
  have HC1 := Lib.hid (split_any a n A c w hla (by omega) hra true (rightCB_true ha))
  have HC2 := fun W (h : Below w.heap.size w W) => Lib.hid (split_any b m B d W hlb (by omega) ((hrb.below h).more h.size) true (rightCB_true hb))
  have HLA := Lib.hid hla
  have HLB := Lib.hid hlb
  have HRA := Lib.hid ha
  have HRB := Lib.hid hb
  have HF := Lib.hid hF
  clear hla hlb hra hrb ha hb hF
  go_enter Tryz.func88, Tryz.ntmps88
  go_wp2_with fail
  refine HC1.out.mono ?_
  rintro e w1 ⟨s, rfl, HS, hb1⟩
  obtain ⟨p, hp⟩ : ∃ p, p = w1.heap.size := ⟨_, rfl⟩
  obtain ⟨W1, hW1⟩ : ∃ W, W = w1.alloc (.cells #[.slice (s 0).A (s 0).n (s 0).c, .slice (s 1).A (s 1).n (s 1).c, .slice (s 2).A (s 2).n (s 2).c, .slice (s 3).A (s 3).n (s 3).c] 109) := ⟨_, rfl⟩
  have hpw : w.heap.size ≤ p := by rw [hp]; exact hb1.size
  have hb1a : Below w1.heap.size w1 W1 := by rw [hW1]; exact (Below.refl _ _).alloc (Nat.le_refl _) _
  have HB1 := Lib.hid (hb1.trans (hb1a.mono hb1.size))
  have HP1 : Hid (Cells4 W1 p (fun j => .slice (s j).A (s j).n (s j).c)) := by rw [hW1, hp]; exact box4c w1 s
  have HS1 : Hid (∀ d : Nat, d < 4 → SvIs W1 (s d) (part a d)) := fun d hd => (HS.out d hd).later hb1a
  have HW1 := Lib.hid hW1
  have HHp := Lib.hid hp
  clear hb1 hb1a HS hW1 hp
  go_wp2_with fail
  rw [← HHp.out, ← HW1.out]
  refine (HC2 W1 HB1.out).out.mono ?_
  rintro e w2 ⟨t, rfl, HT, hb2⟩
  obtain ⟨p2, hp2⟩ : ∃ p, p = w2.heap.size := ⟨_, rfl⟩
  obtain ⟨W2, hW2⟩ : ∃ W, W = (w2.alloc (.cells #[.slice (t 0).A (t 0).n (t 0).c, .slice (t 1).A (t 1).n (t 1).c, .slice (t 2).A (t 2).n (t 2).c, .slice (t 3).A (t 3).n (t 3).c] 109)).alloc (.cells #[.slice none 0 0, .slice none 0 0, .slice none 0 0, .slice none 0 0] 109) := ⟨_, rfl⟩
  have hb2a : Below w2.heap.size w2 (w2.alloc (.cells #[.slice (t 0).A (t 0).n (t 0).c, .slice (t 1).A (t 1).n (t 1).c, .slice (t 2).A (t 2).n (t 2).c, .slice (t 3).A (t 3).n (t 3).c] 109)) := (Below.refl _ _).alloc (Nat.le_refl _) _
  have hb2b : Below w2.heap.size w2 W2 := by rw [hW2]; exact hb2a.alloc hb2a.size _
  have hb2c := hb2.trans (hb2b.mono hb2.size)
  have HB2 := Lib.hid (HB1.out.trans (hb2c.mono HB1.out.size))
  have HP2 : Hid (Cells4 W2 p (fun j => .slice (s j).A (s j).n (s j).c)) := HP1.out.later hb2c
  have HQ2 : Hid (Cells4 W2 p2 (fun j => .slice (t j).A (t j).n (t j).c)) := by
    rw [hW2, hp2]
    exact (box4c w2 t).later ((Below.refl _ _).alloc (Nat.le_refl _) _)
  have HR2 : Hid (Cells4 W2 (p2 + 1) (fun _ => .slice none 0 0)) := by
    have := Cells4.new (w2.alloc (.cells #[.slice (t 0).A (t 0).n (t 0).c, .slice (t 1).A (t 1).n (t 1).c, .slice (t 2).A (t 2).n (t 2).c, .slice (t 3).A (t 3).n (t 3).c] 109)) (fun _ => .slice none 0 0) (.slice none 0 0) (.slice none 0 0) (.slice none 0 0) (.slice none 0 0) 109 rfl
    rw [hW2, hp2]
    unfold Hid
    simpa using this
  have HS2 : Hid (∀ d : Nat, d < 4 → (part a d).length = (s d).n ∧ Rd W2 p2 2 (s d).A (s d).n (s d).c (runsC (part a d))) := fun d hd => ⟨(HS1.out d hd).1, by rw [hp2]; exact (((HS1.out d hd).2.later hb2).below hb2b)⟩
  have HT2 : Hid (∀ d : Nat, d < 4 → (part b d).length = (t d).n ∧ Rd W2 p2 2 (t d).A (t d).n (t d).c (runsC (part b d))) := fun d hd => ⟨(HT.out d hd).1, by rw [hp2]; exact ((HT.out d hd).2.below hb2b)⟩
  have hpp : p < p2 := by rw [hp2]; exact Nat.lt_of_lt_of_le HP1.out.free.1 hb2.size
  have HW2 := Lib.hid hW2
  have HHp2 := Lib.hid hp2
  clear hb2 hb2a hb2b hb2c HT HS1 HP1 hW2 hp2
  go_wp2
  rw [← HHp2.out, ← HW2.out]
  clear HC1 HC2 HB1 HW1 HHp HW2 HHp2
  go_loopw [29] (fun i wr => ∃ (d : Nat) (u : Nat → SV) (r : Nat → List (Int × Int)), d ≤ 4 ∧ i = .int .i64 d ∧ Hid (Cells4 wr (p2 + 1) (fun j => .slice (u j).A (u j).n (u j).c)) ∧ Hid (∀ j : Nat, j < d → (r j).length = (u j).n ∧ Rb wr (p2 + 2) 2 (u j).A (u j).n (u j).c (runsC (r j)) ∧ Put f (part a j) (part b j) (r j)) ∧ Hid (Below (p2 + 1) W2 wr)) (fun i _ => 4 - (intOf i).toNat)
  case atStart => exact ⟨0, fun _ => sv0, fun _ => [], by omega, rfl, HR2.out, fun j hj => by omega, Below.refl _ _⟩
  case round =>
    obtain ⟨d, u, r, hd, rfl, HU, HR, HBL⟩ := hrel
    clear HR2
    by_cases hd4 : d < 4
    · have hps : p2 + 1 < wr.heap.size := HU.out.free.1
      obtain ⟨sA, sn, sc, hs⟩ : ∃ sA sn sc, s d = ⟨sA, sn, sc⟩ := ⟨_, _, _, rfl⟩
      obtain ⟨tA, tn, tc, ht⟩ : ∃ tA tn tc, t d = ⟨tA, tn, tc⟩ := ⟨_, _, _, rfl⟩
      have k0 := (HBL.out.cell (p := ⟨p, d, none⟩) (by show p < p2 + 1; omega)).trans (HP2.out.cell d hd4)
      have k1 := (HBL.out.cell (p := ⟨p2, d, none⟩) (by show p2 < p2 + 1; omega)).trans (HQ2.out.cell d hd4)
      have k2 := HU.out.cell d hd4
      have hsd := HS2.out d hd4
      have htd := HT2.out d hd4
      rw [hs] at k0 hsd
      rw [ht] at k1 htd
      dsimp only at k0 k1 hsd htd
      have hbd := HBL.out.trans ((Below.refl wr.heap.size wr).drew.mono (by omega))
      have HCF : Hid (Calls Tryz.prog F #[.slice sA sn sc, .slice tA tn tc] wr.drew fun e w' => ∃ l A q c, e = .returned (.slice A q c) ∧ Hid (l.length = q ∧ Rb w' (p2 + 2) 2 A q c (runsC l) ∧ Put f (part a d) (part b d) l) ∧ Below wr.heap.size wr w') := by
        refine (HF.out (part a d) (part b d) sn tn sA tA sc tc wr.drew hsd.1 htd.1 (by have := part_len a d; have := HLA.out; have := hsd.1; omega) (by have := part_len b d; have := HLB.out; have := htd.1; omega)
          (((hsd.2.below (hbd.mono (by omega))).more (by show p2 ≤ wr.heap.size; omega))) (((htd.2.below (hbd.mono (by omega))).more (by show p2 ≤ wr.heap.size; omega)))
          (HRA.out.part d (by unfold Cen; omega)) (HRB.out.part d (by unfold Cen; omega))).mono ?_
        rintro e w' ⟨l, A', c', rfl, hp, ho, hb⟩
        exact ⟨l, A', l.length, c', rfl, ⟨rfl, (ho.rb).mono (by show p2 + 2 ≤ wr.heap.size; omega), hp⟩, ((Below.refl _ _).drew).trans hb⟩
      have hne1 : p ≠ p2 + 1 := by omega
      have hne2 : ¬ (p2 + 1 = p) := by omega
      have hdi : (d : Int) < 4 := by omega
      clear hsd htd hbd
      go_wp2
      go_region_held3 (fun W => W.cell? ⟨p, d, none⟩ = some (.slice sA sn sc) ∧ W.cell? ⟨p2, d, none⟩ = some (.slice tA tn tc)) (go_keep)
        (first
          | (refine HCF.out.mono ?_; rintro e w3 ⟨l, A3, q3, c3, rfl, HL3, hb3⟩
             have HU3 := Lib.hid (HU.out.later hb3)
             have HB3 := Lib.hid hb3
             have i0 : w3.cell? ⟨p, d, none⟩ = some (.slice sA sn sc) := (hb3.cell (p := ⟨p, d, none⟩) (by show p < wr.heap.size; omega)).trans k0
             have i1 : w3.cell? ⟨p2, d, none⟩ = some (.slice tA tn tc) := (hb3.cell (p := ⟨p2, d, none⟩) (by show p2 < wr.heap.size; omega)).trans k1
             have i2 : w3.cell? ⟨p2 + 1, d, none⟩ = _ := HU3.out.cell d hd4
             have i3 : w3.frozen? ⟨p2 + 1, d, none⟩ = false := HU3.out.free.2 d
             clear hb3 k0 k1 k2))
      all_goals
        have HC4 : Hid (Cells4 (w3.setCell ⟨p2 + 1, d, none⟩ (.slice A3 q3 c3)) (p2 + 1) (fun j => .slice (upd u d ⟨A3, q3, c3⟩ j).A (upd u d ⟨A3, q3, c3⟩ j).n (upd u d ⟨A3, q3, c3⟩ j).c)) := by
          refine (HU3.out.set hd4 _).congr fun j hj => ?_
          by_cases he : j = d
          · subst he; rw [upd_same, upd_same]
          · rw [upd_other _ _ he, upd_other _ _ he]
        have HR4 : Hid (∀ j : Nat, j < d + 1 → (upd r d l j).length = (upd u d ⟨A3, q3, c3⟩ j).n ∧ Rb (w3.setCell ⟨p2 + 1, d, none⟩ (.slice A3 q3 c3)) (p2 + 2) 2 (upd u d ⟨A3, q3, c3⟩ j).A (upd u d ⟨A3, q3, c3⟩ j).n (upd u d ⟨A3, q3, c3⟩ j).c (runsC (upd r d l j)) ∧ Put f (part a j) (part b j) (upd r d l j)) := fun j hj => by
          by_cases he : j = d
          · subst he
            rw [upd_same, upd_same]
            exact ⟨HL3.out.1, rb_set HL3.out.2.1 (a := ⟨p2 + 1, j, none⟩) (by show p2 + 1 < p2 + 2; omega) _, HL3.out.2.2⟩
          · rw [upd_other _ _ he, upd_other _ _ he]
            obtain ⟨x1, x2, x3⟩ := HR.out j (by omega)
            exact ⟨x1, rb_set (x2.later HB3.out) (a := ⟨p2 + 1, d, none⟩) (by show p2 + 1 < p2 + 2; omega) _, x3⟩
        have HB4 : Hid (Below (p2 + 1) W2 (w3.setCell ⟨p2 + 1, d, none⟩ (.slice A3 q3 c3))) := (HBL.out.trans (HB3.out.mono (by omega))).setCell (p := ⟨p2 + 1, d, none⟩) (Nat.le_refl _) _
        clear i0 i1 i2 i3
        go_wp2
        go_roundw
        case rel => exact ⟨d + 1, upd u d ⟨A3, q3, c3⟩, upd r d l, by omega, by go_num, HC4.out, HR4.out, HB4.out⟩
        case measure => simp [intOf]; omega
    · obtain rfl : d = 4 := by omega
      have HC := Lib.hid (context_any u r wr (fun j hj => ⟨(HR.out j hj).1, (HR.out j hj).2.1.rd⟩) (fun j hj => by have := (HR.out j hj).2.2.len; have := part_len a j; have := part_len b j; have := HLA.out; have := HLB.out; omega))
      have k0 := HU.out.cell 0 (by omega); have k1 := HU.out.cell 1 (by omega); have k2 := HU.out.cell 2 (by omega); have k3 := HU.out.cell 3 (by omega)
      have HPC : Hid (PutC f a b (pre r 4)) := put_pre fun j hj => (HR.out j hj).2.2
      have HLN : Hid ((pre r 4).length ≤ n + m) := by
        have h0 := (HR.out 0 (by omega)).2.2.len
        have h1 := (HR.out 1 (by omega)).2.2.len
        have h2 := (HR.out 2 (by omega)).2.2.len
        have h3 := (HR.out 3 (by omega)).2.2.len
        have ea := parts_len a
        have eb := parts_len b
        have h4 := HLA.out
        have h5 := HLB.out
        unfold Hid
        rw [pre_four]
        unfold glue
        rw [List.length_append, List.length_append, List.length_append, spans_len, spans_len, spans_len, spans_len]
        show (r 0).length + ((r 1).length + ((r 2).length + (r 3).length)) ≤ n + m
        rw [show ((0 : Nat) : Int) = 0 from rfl] at h0
        rw [show ((1 : Nat) : Int) = 1 from rfl] at h1
        rw [show ((2 : Nat) : Int) = 2 from rfl] at h2
        rw [show ((3 : Nat) : Int) = 3 from rfl] at h3
        omega
      have HB5 : Hid (Below w.heap.size w wr) := HB2.out.trans (HBL.out.mono (by omega))
      clear HR HBL HP2 HQ2 HS2 HT2
      go_wp2_with (go_at_call 86; refine HC.out.mono ?_; rintro e w3 ⟨A3, c3, rfl, ho3, hb3⟩)
      go_ret
      exact ⟨pre r 4, (pre r 4).length, A3, c3, rfl, rfl, HPC.out, HLN.out, ho3.mono HB5.out.size, HB5.out.trans (hb3.mono HB5.out.size)⟩
theorem unionC_any (a b : List S3) (n m : Nat) (A B : Option Addr) (c d : Nat) (w : World) (hla : a.length = n) (hlb : b.length = m) (hn : n ≤ 50000) (hm : m ≤ 50000) (hra : Rd w w.heap.size 3 A n c (spsC a)) (hrb : Rd w w.heap.size 3 B m d (spsC b)) (ha : RightC a) (hb : RightC b) :
    Calls Tryz.prog 70 #[.slice A n c, .slice B m d] w (PutIsC uniF a b n m w) := by
  have HC := Lib.hid (joinC_any uniF 97 (fun a b n m A B c d w h1 h2 h3 h4 h5 h6 h7 h8 => union_any a b n m A B c d w h1 h2 h3 h4 h5 h6 h7 h8) (enters_fn Tryz.func97 (by kernel_rfl) rfl) a b n m A B c d w hla hlb hn hm hra hrb ha hb)
  clear hla hlb hra hrb ha hb
  go_enter Tryz.func70, Tryz.ntmps70
  go_wp2_with (go_at_call 88; refine HC.out.mono ?_; rintro e w1 ⟨u, q, A1, c1, rfl, h1, h2, h3, h4, h5⟩)
  go_ret
  exact ⟨u, q, _, _, rfl, h1, h2, h3, h4, h5⟩
theorem minusC_any (a b : List S3) (n m : Nat) (A B : Option Addr) (c d : Nat) (w : World) (hla : a.length = n) (hlb : b.length = m) (hn : n ≤ 50000) (hm : m ≤ 50000) (hra : Rd w w.heap.size 3 A n c (spsC a)) (hrb : Rd w w.heap.size 3 B m d (spsC b)) (ha : RightC a) (hb : RightC b) :
    Calls Tryz.prog 64 #[.slice A n c, .slice B m d] w (PutIsC minF a b n m w) := by
  have HC := Lib.hid (joinC_any minF 89 (fun a b n m A B c d w h1 h2 h3 h4 h5 h6 h7 h8 => minus_any a b n m A B c d w h1 h2 h3 h4 h5 h6 h7 h8) (enters_fn Tryz.func89 (by kernel_rfl) rfl) a b n m A B c d w hla hlb hn hm hra hrb ha hb)
  clear hla hlb hra hrb ha hb
  go_enter Tryz.func64, Tryz.ntmps64
  go_wp2_with (go_at_call 88; refine HC.out.mono ?_; rintro e w1 ⟨u, q, A1, c1, rfl, h1, h2, h3, h4, h5⟩)
  go_ret
  exact ⟨u, q, _, _, rfl, h1, h2, h3, h4, h5⟩
theorem unionC_bad (a b : List S3) (n m : Nat) (A B : Option Addr) (c d : Nat) (w : World) (hla : a.length = n) (hlb : b.length = m) (hn : n ≤ 50000) (hm : m ≤ 50000) (hra : Rd w w.heap.size 3 A n c (spsC a)) (hrb : Rd w w.heap.size 3 B m d (spsC b)) (hab : (rightCB a && rightCB b) = false) :
    Calls Tryz.prog 70 #[.slice A n c, .slice B m d] w fun e w' => e = .returned (.slice none 0 0) ∧ Below w.heap.size w w' := by
  have HC := Lib.hid (join_bad 97 a b n m A B c d w hla hlb (by omega) (by omega) hra hrb hab)
  clear hla hlb hra hrb hab
  go_enter Tryz.func70, Tryz.ntmps70
  go_wp2_with (go_at_call 88; refine HC.out.mono ?_; rintro e w1 ⟨rfl, h5⟩)
  go_ret
  exact ⟨rfl, h5⟩
theorem minusC_bad (a b : List S3) (n m : Nat) (A B : Option Addr) (c d : Nat) (w : World) (hla : a.length = n) (hlb : b.length = m) (hn : n ≤ 50000) (hm : m ≤ 50000) (hra : Rd w w.heap.size 3 A n c (spsC a)) (hrb : Rd w w.heap.size 3 B m d (spsC b)) (hab : (rightCB a && rightCB b) = false) :
    Calls Tryz.prog 64 #[.slice A n c, .slice B m d] w fun e w' => e = .returned (.slice none 0 0) ∧ Below w.heap.size w w' := by
  have HC := Lib.hid (join_bad 89 a b n m A B c d w hla hlb (by omega) (by omega) hra hrb hab)
  clear hla hlb hra hrb hab
  go_enter Tryz.func64, Tryz.ntmps64
  go_wp2_with (go_at_call 88; refine HC.out.mono ?_; rintro e w1 ⟨rfl, h5⟩)
  go_ret
  exact ⟨rfl, h5⟩
set_option maxHeartbeats 400000 in
theorem leqC_any (a b : List S3) (n m : Nat) (A B : Option Addr) (c d : Nat) (w : World) (hla : a.length = n) (hlb : b.length = m) (hn : n ≤ 50000) (hm : m ≤ 50000) (hra : Rd w w.heap.size 3 A n c (spsC a)) (hrb : Rd w w.heap.size 3 B m d (spsC b)) (ha : RightC a) (hb : RightC b) :
    Calls Tryz.prog 35 #[.slice A n c, .slice B m d] w fun e w' => ∃ l, PutC minF a b l ∧ e = .returned (.bool (decide (l = []))) ∧ Below w.heap.size w w' := by
  have HT1 := Lib.hid (rightC_any a n A c w hla (by omega) hra true (rightCB_true ha))
  have HT2 := fun W (h : Below w.heap.size w W) => Lib.hid (rightC_any b m B d W hlb (by omega) ((hrb.below h).more h.size) true (rightCB_true hb))
  have HM := fun W (h : Below w.heap.size w W) => Lib.hid (minusC_any a b n m A B c d W hla hlb hn hm ((hra.below h).more h.size) ((hrb.below h).more h.size) ha hb)
  clear hra hrb hla hlb ha hb
  go_enter Tryz.func35, Tryz.ntmps35
  go_wp2_with fail
  refine HT1.out.mono ?_
  rintro e w1 ⟨rfl, hb1⟩
  go_wp2_with fail
  refine (HT2 w1 hb1).out.mono ?_
  rintro e w2 ⟨rfl, hb2⟩
  have hb12 := hb1.trans (hb2.mono hb1.size)
  go_wp2_with fail
  refine (HM w2 hb12).out.mono ?_
  rintro e w3 ⟨l, q, A3, c3, rfl, HL3, HP, hq, HR, hb3⟩
  have HB := Lib.hid (hb12.trans (hb3.mono hb12.size))
  obtain ⟨z, hz⟩ : ∃ z, z = decide (l = []) := ⟨_, rfl⟩
  have hz2 : ((q : Int) == 0) = z := by
    rw [hz, ← HL3.out]
    cases l with
    | nil => rfl
    | cons r l => simp; omega
  have HZ := Lib.hid hz
  clear hb1 hb2 hb3 hb12 hz
  go_wp2
  go_ret
  exact ⟨l, HP.out, ret_bool HZ.out, HB.out⟩
theorem leqC_bad (a b : List S3) (n m : Nat) (A B : Option Addr) (c d : Nat) (w : World) (hla : a.length = n) (hlb : b.length = m) (hn : n ≤ 50000) (hm : m ≤ 50000) (hra : Rd w w.heap.size 3 A n c (spsC a)) (hrb : Rd w w.heap.size 3 B m d (spsC b)) (hab : (rightCB a && rightCB b) = false) :
    Calls Tryz.prog 35 #[.slice A n c, .slice B m d] w fun e w' => e = .returned (.bool false) ∧ Below w.heap.size w w' := by
  obtain ⟨x, hx⟩ : ∃ x, x = rightCB a := ⟨_, rfl⟩
  obtain ⟨y, hy⟩ : ∃ y, y = rightCB b := ⟨_, rfl⟩
  rw [← hx, ← hy] at hab
  have HT1 := Lib.hid (rightC_any a n A c w hla (by omega) hra x hx.symm)
  have HT2 := fun W (h : Below w.heap.size w W) => Lib.hid (rightC_any b m B d W hlb (by omega) ((hrb.below h).more h.size) y hy.symm)
  clear hra hrb hla hlb hx hy
  cases x with
  | false =>
    go_enter Tryz.func35, Tryz.ntmps35
    go_wp2_with fail
    refine HT1.out.mono ?_
    rintro e w1 ⟨rfl, hb1⟩
    go_wp2
    go_ret
    exact ⟨rfl, hb1⟩
  | true =>
    rw [Bool.true_and] at hab
    subst hab
    go_enter Tryz.func35, Tryz.ntmps35
    go_wp2_with fail
    refine HT1.out.mono ?_
    rintro e w1 ⟨rfl, hb1⟩
    go_wp2_with fail
    refine (HT2 w1 hb1).out.mono ?_
    rintro e w2 ⟨rfl, hb2⟩
    go_wp2
    go_ret
    exact ⟨rfl, hb1.trans (hb2.mono hb1.size)⟩
end Cx
end Go.Proofs.YtcbclefemcmhpaaGreat
namespace Go.Proofs.YtcbclefemcmhpaaGreat
open Go.ChangeShapes Go.WideShapes Go.ChangeAt Go.RowKit
namespace Cx
open Sp Rw
theorem spsC_append (a b : List S3) : spsC (a ++ b) = spsC a ++ spsC b := by simp [spsC]
theorem spsC_one (l : List S3) : ∀ u ∈ spsC l, u.oneCell' = true := by
  intro u hu
  obtain ⟨s, _, hu⟩ := List.mem_flatMap.1 hu
  exact spC_one s u hu
theorem appsC {w : World} {base n m c c' : Nat} {A A' : Option Addr} {xs ys : List S3} (ho : Own w base 55 3 A n c (spsC xs)) (hr : Rd w w.heap.size 3 A' m c' (spsC ys)) (hn : n + m ≤ 1000000) (hb : base ≤ w.heap.size) :
    ∃ A2 c2 w2, (Builtin.append_ #[27, 27] 27 #[.slice A n c, .slice A' m c']).run Tryz.prog w = .ok (.slice A2 (n + m) c2) w2 ∧ Own w2 base 55 3 A2 (n + m) c2 (spsC (xs ++ ys)) ∧ Below base w w2 := by
  obtain ⟨i0, hi0, hz0, hz1, hz2⟩ := info_of infoS
  obtain ⟨v', w', h1, h2, h3, h4⟩ := run_app (P := Tryz.prog) w base 27 27 55 i0 _ 3 24 Tryz.underlying27 hi0 hz0 hz1 hz2 rfl (by omega) ho.row hr hn (by omega) hb
  rw [← spsC_append] at h2
  obtain ⟨A2, c2, rfl, h5⟩ := Own.of_row h2 (spsC_one _)
  exact ⟨A2, c2, w', h1, h5, (Below.refl base w).grown h3 hb (fun k hk => (ho.row.lt k hk).1)⟩
/-- the first d centers', put together -/
theorem pre_congr {q r : Nat → List (Int × Int)} : ∀ d : Nat, (∀ j, j < d → q j = r j) → pre q d = pre r d
  | 0, _ => rfl
  | d + 1, h => by simp only [pre]; rw [pre_congr d (fun j hj => h j (by omega)), h d (by omega)]
theorem has_le_len {a b l : List (Int × Int)} {f : Bool → Bool → Bool} {l' : List (Int × Int)} (h1 : RightF 1 l) (h2 : ∀ n, hasB l n = f (hasB a n) (hasB b n)) (h : Put f a b l') : l = l' := ext h1 h.right fun n => by rw [h2, h.has]
set_option maxRecDepth 100000 in
set_option maxHeartbeats 2000000 in
theorem refbyC_any (f : Bool → Bool → Bool) (how : Int) (hhow : HowIs how f) (a b u : List S3) (n m q : Nat) (A B : Option Addr) (c d : Nat) (w : World) (hla : a.length = n) (hlb : b.length = m) (hlu : u.length = q) (hn : n ≤ 1000) (hm : m ≤ 1000) (hra : Rd w w.heap.size 3 A n c (spsC a)) (hrb : Rd w w.heap.size 3 B m d (spsC b)) (ha : RightC a) (hb : RightC b) (hu : PutC f a b u) (huq : q ≤ 800000) :
    Calls Tryz.prog 67 #[.slice A n c, .slice B m d, .int .i64 how] w fun e w' => ∃ A' c', e = .returned (.slice A' q c') ∧ Rd w' w'.heap.size 3 A' q c' (spsC u) ∧ Below w.heap.size w w' := by
  have HUP : Hid (pre (fun d : Nat => part u d) 4 = u) := by
    unfold Hid
    rw [pre_four]
    refine ext_part (rise_glue _) hu.right.rise fun d hd => ?_
    rw [part_glue _ hd]
    have e : ((d.toNat : Nat) : Int) = d := by have := hd.1; omega
    rw [e]
  have HUB : Hid (∀ d : Nat, d < 4 → ∀ l, RightF 1 l → (∀ n, hasB l n = f (hasB (part a d) n) (hasB (part b d) n)) → l = part u d) := fun d hd l h1 h2 =>
    ext h1 (hu.right.part d (by unfold Cen; omega)) fun n => by rw [h2 n]; exact (hu.has d n (by unfold Cen; omega)).symm
  have HUL : Hid (∀ d : Nat, d ≤ 4 → (pre (fun d : Nat => part u d) d).length ≤ q) := by
    have h4 : (pre (fun d : Nat => part u d) 4).length = q := by rw [HUP.out, hlu]
    intro d hd
    have hmono : ∀ i j : Nat, i ≤ j → (pre (fun d : Nat => part u d) i).length ≤ (pre (fun d : Nat => part u d) j).length := by
      intro i j hij
      induction j with
      | zero => obtain rfl : i = 0 := by omega
                exact Nat.le_refl _
      | succ j ih =>
        rcases (by omega : i ≤ j ∨ i = j + 1) with h | rfl
        · have := ih h
          simp only [pre, List.length_append]
          omega
        · exact Nat.le_refl _
    have := hmono d 4 hd
    omega
  have HPA := fun (dc : Int) W (h : Below w.heap.size w W) => Lib.hid (part_any a n A c dc W hla (by omega) ((hra.below h).more h.size))
  have HRB := Lib.hid hrb
  have HLA := Lib.hid hla
  have HLB := Lib.hid hlb
  have HOA := Lib.hid ha
  have HOB := Lib.hid hb
  have HLU := Lib.hid hlu
  have HHOW := Lib.hid hhow
  clear hra hrb hla hlb ha hb hu hlu hhow
  go_enter Tryz.func67, Tryz.ntmps67
  go_wp2
  go_loopw [7, 9] (fun v i wr => ∃ (d m : Nat) (A' : Option Addr) (c' : Nat), d ≤ 4 ∧ v = .slice A' m c' ∧ i = .int .i64 d ∧ Hid ((pre (fun d : Nat => part u d) d).length = m) ∧ Hid (Own wr w.heap.size 55 3 A' m c' (spsC (pre (fun d : Nat => part u d) d))) ∧ Hid (Below w.heap.size w wr)) (fun _ i _ => 4 - (intOf i).toNat)
  case atStart => exact ⟨0, 0, none, 0, by omega, rfl, rfl, rfl, ⟨World.ownsRow_nil _ _ _ _, by simp [pre, spsC]⟩, Below.refl _ _⟩
  case round =>
    obtain ⟨k, m1, A', c', hk, rfl, rfl, HM, HO, HB⟩ := hrel
    by_cases hk4 : k < 4
    · have HC1 := HPA k wr HB.out
      have HKA : Hid ((part a k).length ≤ 1000) := Nat.le_trans (part_len _ _) (by rw [HLA.out]; exact hn)
      have HKB : Hid ((part b k).length ≤ 1000) := Nat.le_trans (part_len _ _) (by rw [HLB.out]; exact hm)
      go_wp2_with fail
      refine HC1.out.mono ?_
      rintro e w1 ⟨A1, q1, c1, rfl, HL1, ho1, hb1⟩
      have HB1 := Lib.hid (HB.out.trans (hb1.mono HB.out.size))
      have HO1 := Lib.hid (own_later HO.out hb1)
      have HR1 := Lib.hid ho1.rd
      clear hb1 ho1
      have HC2 := Lib.hid (part_any b m B d k w1 HLB.out (by omega) ((HRB.out.below HB1.out).more HB1.out.size))
      go_wp2_with fail
      refine HC2.out.mono ?_
      rintro e w2 ⟨A2, q2, c2, rfl, HL2, ho2, hb2⟩
      have HB2 := Lib.hid (HB1.out.trans (hb2.mono HB1.out.size))
      have HO2 := Lib.hid (own_later HO1.out hb2)
      have HR2 := Lib.hid (HR1.out.later hb2)
      have HS2 := Lib.hid ho2.rd
      clear hb2 ho2
      have HC3 := Lib.hid (refby_any f how HHOW.out (part a k) (part b k) q1 q2 A1 A2 c1 c2 w2 HL1.out HL2.out (by have := HL1.out; have := HKA.out; omega) (by have := HL2.out; have := HKB.out; omega) HR2.out HS2.out (HOA.out.part k (by unfold Cen; omega)) (HOB.out.part k (by unfold Cen; omega)))
      have HC3' : Hid (Calls Tryz.prog 93 #[.slice A1 q1 c1, .slice A2 q2 c2, .int .i64 how] w2 fun e w' => ∃ A' q' c', e = .returned (.slice A' q' c') ∧ Hid ((part u k).length = q') ∧ Hid (Rd w' w'.heap.size 2 A' q' c' (runsC (part u k))) ∧ Below w2.heap.size w2 w') := by
        refine HC3.out.mono ?_
        rintro e w' ⟨l, A', c', rfl, h1, h2, ho, hb⟩
        have := HUB.out k hk4 l h1 h2
        subst this
        exact ⟨A', _, c', rfl, rfl, ho.rd, hb⟩
      clear HC1 HC2 HC3
      go_wp2_with fail
      refine HC3'.out.mono ?_
      rintro e w3 ⟨A3, q3, c3, rfl, HL3, HR3, hb3⟩
      have HB3 := Lib.hid (HB2.out.trans (hb3.mono HB2.out.size))
      have HO3 := Lib.hid (own_later HO2.out hb3)
      clear hb3
      have HQ4 : Hid (m1 + q3 ≤ 800000) := by
        have := HUL.out (k + 1) (by omega)
        simp only [pre, List.length_append, Cx.spans_len] at this
        have e1 := HM.out
        have e2 := HL3.out
        unfold Hid
        omega
      have HC4 := Lib.hid (spans_any (part u k) q3 A3 c3 k w3 HL3.out (by have := HQ4.out; omega) HR3.out)
      go_wp2_with fail
      refine HC4.out.mono ?_
      rintro e w4 ⟨A4, c4, rfl, ho4, hb4⟩
      have hO4 := own_later HO3.out hb4
      have hB4 := HB3.out.trans (hb4.mono HB3.out.size)
      obtain ⟨A5, c5, w5, hrun, ho5, hb5⟩ := appsC hO4 ho4.rd (by have := HQ4.out; omega) hB4.size
      have Hrun := Lib.hid hrun
      have HO5 := Lib.hid ho5
      have HB5 := Lib.hid (hB4.trans hb5)
      have HM5 : Hid ((pre (fun d : Nat => part u d) (k + 1)).length = m1 + q3) := by
        simp only [pre, List.length_append, Cx.spans_len, Hid]
        rw [HM.out, HL3.out]
      clear hb4 ho4 hO4 hB4 hrun ho5 hb5
      go_wp2_with (at_builtin; refine Lib.wpList_append_run _ rfl _ _ _ _ rfl _ _ rfl rfl _ _ Hrun.out ?_)
      go_roundw
      case rel => exact ⟨k + 1, m1 + q3, A5, c5, by omega, rfl, by go_num, HM5.out, HO5.out, HB5.out⟩
      case measure => simp [intOf]; omega
    · obtain rfl : k = 4 := by omega
      have HE : Hid (m1 = q) := by unfold Hid; rw [← HM.out, HUP.out, HLU.out]
      rw [HUP.out, HE.out] at HO
      rw [HE.out]
      go_wp2
      go_ret
      exact ⟨_, _, rfl, HO.out.rd, HB.out⟩
theorem refunionC_any (a b u : List S3) (n m q : Nat) (A B : Option Addr) (c d : Nat) (w : World) (hla : a.length = n) (hlb : b.length = m) (hlu : u.length = q) (hn : n ≤ 1000) (hm : m ≤ 1000) (hra : Rd w w.heap.size 3 A n c (spsC a)) (hrb : Rd w w.heap.size 3 B m d (spsC b)) (ha : RightC a) (hb : RightC b) (hu : PutC uniF a b u) (huq : q ≤ 800000) :
    Calls Tryz.prog 46 #[.slice A n c, .slice B m d] w fun e w' => ∃ A' c', e = .returned (.slice A' q c') ∧ Rd w' w'.heap.size 3 A' q c' (spsC u) ∧ Below w.heap.size w w' := by
  have HC := Lib.hid (refbyC_any uniF 0 (.inl ⟨rfl, rfl⟩) a b u n m q A B c d w hla hlb hlu hn hm hra hrb ha hb hu huq)
  clear hla hlb hlu hra hrb ha hb hu
  go_enter Tryz.func46, Tryz.ntmps46
  go_wp2_with (go_at_call 67; refine HC.out.mono ?_; rintro e w1 ⟨A1, c1, rfl, h1, h2⟩)
  go_ret
  exact ⟨_, _, rfl, h1, h2⟩
end Cx
end Go.Proofs.YtcbclefemcmhpaaGreat
namespace Go.Proofs.YtcbclefemcmhpaaGreat
open Go.ChangeShapes Go.WideShapes Go.ChangeAt Go.RowKit Go.Shelf
namespace Tr
open Sp Rw
attribute [local go_sem] Oper.semAt_some
open Classical in
/-- which error there is, wrapping it -/
noncomputable def wrapE (t : T) (p : List ByteArray) : Int := if (!rightB 5 t || badB p) = true then 1 else if 5 < p.length then 10 else if t.es = [] ∧ t.ks = [] then 0 else if 5 < levels t + p.length then 10 else 0
open Classical in
noncomputable def wrapR (t : T) (p : List ByteArray) : T := if wrapE t p = 0 ∧ ¬ (t.es = [] ∧ t.ks = []) then wrapT t p else none_
/-- a tree of new memory and an error are answered -/
def TreeErr (u : T) (x : Int) (w : World) (e : Ending) (w' : World) : Prop := ∃ Ae ne ce Ak nk ck, e = .returned (.tuple #[.agg #[.slice Ae ne ce, .slice Ak nk ck], .int .i64 x]) ∧ RdO w' (fun b => w.heap.size ≤ b) u ⟨Ae, ne, ce⟩ ⟨Ak, nk, ck⟩ ∧ Below w.heap.size w w'
end Tr
end Go.Proofs.YtcbclefemcmhpaaGreat
namespace Go.Proofs.YtcbclefemcmhpaaGreat
open Go.ChangeShapes Go.WideShapes Go.ChangeAt Go.RowKit
namespace Tr
open Sp Rw
set_option maxRecDepth 100000 in
set_option maxHeartbeats 4000000 in
theorem sameclo_any (x y : ByteArray) (Ae Ak : Option Addr) (ne nk ce ck : Nat) (Ae2 Ak2 : Option Addr) (ne2 nk2 ce2 ck2 : Nat) (rb : Bool) (w : World) (hrec : ∀ W, Below w.heap.size w W → Calls Tryz.prog 75 #[.agg #[.slice Ae ne ce, .slice Ak nk ck], .agg #[.slice Ae2 ne2 ce2, .slice Ak2 nk2 ck2]] W fun e w' => e = .returned (.bool rb) ∧ Below W.heap.size W w') (z : Bool) (hz : (eqB x y && rb) = z) :
    Calls Tryz.prog 100 #[.agg #[.string x, .slice Ae ne ce, .slice Ak nk ck], .agg #[.string y, .slice Ae2 ne2 ce2, .slice Ak2 nk2 ck2]] w fun e w' => e = .returned (.bool z) ∧ Below w.heap.size w w' := by
  have HREC := Lib.hid hrec
  have HZ := Lib.hid hz
  have hb : Below w.heap.size w ((w.alloc (.cells #[.string x, .slice Ae ne ce, .slice Ak nk ck] 85)).alloc (.cells #[.string y, .slice Ae2 ne2 ce2, .slice Ak2 nk2 ck2] 85)) := Dt.box2_below _ _ _ _ _
  have HB := Lib.hid hb
  clear hrec hz hb
  by_cases hxy : x = y
  · subst hxy
    go_enter Tryz.func100, Tryz.ntmps100
    go_wp2_with (go_at_call 75; refine (HREC.out _ HB.out).mono ?_; rintro e w2 ⟨rfl, hb2⟩; have HB2 := Lib.hid (HB.out.trans (hb2.mono HB.out.size)); clear hb2)
    go_ret
    exact ⟨Dt.ret_bool (by rw [← HZ.out, eqB_yes rfl, Bool.true_and]), HB2.out⟩
  · have v0 : (x.toList == y.toList) = false := bytes_ne hxy
    go_enter Tryz.func100, Tryz.ntmps100
    go_wp2_with fail
    go_ret
    exact ⟨Dt.ret_bool (by rw [← HZ.out, eqB_no hxy, Bool.false_and]), HB.out⟩
set_option maxRecDepth 100000 in
set_option maxHeartbeats 4000000 in
theorem equalK_of (es es2 : List E) (ks ks2 : List (ByteArray × T)) (ih : ∀ k ∈ ks, ∀ (u : T) (Ae Ak : Option Addr) (ne nk ce ck : Nat) (Ae2 Ak2 : Option Addr) (ne2 nk2 ce2 ck2 : Nat) (w : World), nodes k.2 ≤ 1000000 → RdT w w.heap.size k.2 ⟨Ae, ne, ce⟩ ⟨Ak, nk, ck⟩ → RdT w w.heap.size u ⟨Ae2, ne2, ce2⟩ ⟨Ak2, nk2, ck2⟩ → Calls Tryz.prog 75 #[.agg #[.slice Ae ne ce, .slice Ak nk ck], .agg #[.slice Ae2 ne2 ce2, .slice Ak2 nk2 ck2]] w fun e w' => e = .returned (.bool (eqB k.2 u)) ∧ Below w.heap.size w w') (Ae Ak : Option Addr) (ne nk ce ck : Nat) (Ae2 Ak2 : Option Addr) (ne2 nk2 ce2 ck2 : Nat) (w : World) (hn6 : nk ≤ 1000000) (hn : nodes (.mk es ks) ≤ 1000000) (hr : RdT w w.heap.size (.mk es ks) ⟨Ae, ne, ce⟩ ⟨Ak, nk, ck⟩) (hs : RdT w w.heap.size (.mk es2 ks2) ⟨Ae2, ne2, ce2⟩ ⟨Ak2, nk2, ck2⟩) :
    Calls Tryz.prog 99 #[.slice Ak nk ck, .slice Ak2 nk2 ck2, .func (.func 100) #[] #[]] w fun e w' => e = .returned (.bool (eqB ks ks2)) ∧ Below w.heap.size w w' := by
  obtain ⟨hle2, hlk2⟩ := rd_lens hs
  have HS := Lib.hid hs
  have HLK2 := Lib.hid hlk2
  clear hs hle2 hlk2
  obtain ⟨hle, hlk⟩ := rd_lens hr
  have HR := Lib.hid hr
  have HLE := Lib.hid hle
  have HLK := Lib.hid hlk
  clear hle hlk hr
  have IH := Lib.hid ih
  have HN := Lib.hid hn
  obtain ⟨z, hz⟩ : ∃ z, eqB ks ks2 = z := ⟨_, rfl⟩
  rw [hz]
  have HZ := Lib.hid hz
  clear ih hn hz
  by_cases hB : nk = nk2
  · subst hB
    have fB : ((nk : Int) != (nk : Int)) = false := by simp
    go_enter Tryz.func99, Tryz.ntmps99
    go_wp2_with fail
    go_loopw [17] (fun i wr => ∃ j : Nat, j ≤ nk ∧ i = .int .i64 j ∧ Hid (SameTo ks ks2 j) ∧ Hid (Below w.heap.size w wr)) (fun i _ => nk - (intOf i).toNat)
    case atStart => exact ⟨0, by omega, rfl, SameTo.zero _ _, Below.refl _ _⟩
    case round =>
      obtain ⟨j, hj, rfl, HTK, HB⟩ := hrel
      by_cases hlt2 : j < nk
      · obtain ⟨b1, o1, rfl, hb1, hc1⟩ := rd_kid HR.out (by omega)
        have hk1 : j < ks.length := by rw [HLK.out]; exact hlt2
        obtain ⟨⟨Ae3, ne3, ce3⟩, ⟨Ak3, nk3, ck3⟩, c0, c1, c2, hkid⟩ := hc1 j hk1
        dsimp only at c0 c1 c2
        have c0 := (HB.out.cell (p := ⟨b1, o1 + j * 3, none⟩) hb1).trans c0
        have c1 := (HB.out.cell (p := ⟨b1, o1 + j * 3 + 1, none⟩) hb1).trans c1
        have c2 := (HB.out.cell (p := ⟨b1, o1 + j * 3 + 2, none⟩) hb1).trans c2
        obtain ⟨x, hx⟩ : ∃ x, x = (ks[j]).1 := ⟨_, rfl⟩
        rw [← hx] at c0
        obtain ⟨b2, o2, rfl, hb2, hc2⟩ := rd_kid HS.out (by omega)
        have hk2 : j < ks2.length := by rw [HLK2.out]; exact hlt2
        obtain ⟨⟨Ae4, ne4, ce4⟩, ⟨Ak4, nk4, ck4⟩, d0, d1, d2, hkid2⟩ := hc2 j hk2
        dsimp only at d0 d1 d2
        have d0 := (HB.out.cell (p := ⟨b2, o2 + j * 3, none⟩) hb2).trans d0
        have d1 := (HB.out.cell (p := ⟨b2, o2 + j * 3 + 1, none⟩) hb2).trans d1
        have d2 := (HB.out.cell (p := ⟨b2, o2 + j * 3 + 2, none⟩) hb2).trans d2
        obtain ⟨y, hy⟩ : ∃ y, y = (ks2[j]).1 := ⟨_, rfl⟩
        rw [← hy] at d0
        have hb2w : b2 < wr.heap.size := World.block_lt_of_cell? wr _ d0
        have d1' : (wr.alloc (.cells #[.string x, .slice Ae3 ne3 ce3, .slice Ak3 nk3 ck3] 85)).cell? ⟨b2, o2 + j * 3 + 1, none⟩ = some (.slice Ae4 ne4 ce4) := (World.cell?_alloc_lt wr _ ⟨b2, o2 + j * 3 + 1, none⟩ hb2w).trans d1
        have d2' : (wr.alloc (.cells #[.string x, .slice Ae3 ne3 ce3, .slice Ak3 nk3 ck3] 85)).cell? ⟨b2, o2 + j * 3 + 2, none⟩ = some (.slice Ak4 nk4 ck4) := (World.cell?_alloc_lt wr _ ⟨b2, o2 + j * 3 + 2, none⟩ hb2w).trans d2
        obtain ⟨v, hv⟩ : ∃ v, (eqB x y && eqB (ks[j]).2 (ks2[j]).2) = v := ⟨_, rfl⟩
        have HCLO : Hid (∀ W, Below w.heap.size w W → Calls Tryz.prog 100 #[.agg #[.string x, .slice Ae3 ne3 ce3, .slice Ak3 nk3 ck3], .agg #[.string y, .slice Ae4 ne4 ce4, .slice Ak4 nk4 ck4]] W fun e w' => e = .returned (.bool v) ∧ Below W.heap.size W w') := fun W hW => by
          refine sameclo_any x y Ae3 Ak3 ne3 nk3 ce3 ck3 Ae4 Ak4 ne4 nk4 ce4 ck4 (eqB (ks[j]).2 (ks2[j]).2) W (fun W2 hW2 => ?_) v hv
          have hW3 := hW.trans (hW2.mono hW.size)
          exact IH.out _ (List.getElem_mem hk1) _ Ae3 Ak3 ne3 nk3 ce3 ck3 Ae4 Ak4 ne4 nk4 ce4 ck4 W2 (Nat.le_trans (nodes_kid (List.getElem_mem hk1)) HN.out) (RdT.more hW3.size _ (RdT.below hkid hW3)) (RdT.more hW3.size _ (RdT.below hkid2 hW3))
        have HKEQ : Hid (ks[j] = ks2[j] ↔ v = true) := by
          unfold Hid
          rw [← hv, Bool.and_eq_true, eqB_iff, eqB_iff, hx, hy]
          exact Prod.ext_iff
        have hbb : Below w.heap.size w ((wr.alloc (.cells #[.string x, .slice Ae3 ne3 ce3, .slice Ak3 nk3 ck3] 85)).alloc (.cells #[.string y, .slice Ae4 ne4 ce4, .slice Ak4 nk4 ck4] 85)) := HB.out.trans ((Dt.box2_below wr _ _ _ _).mono HB.out.size)
        have HBB := Lib.hid hbb
        clear hc1 hc2 hkid hkid2 hx hy hv hbb
        cases v with
        | true =>
          have HT2 : Hid (SameTo ks ks2 (j + 1)) := HTK.out.succ fun _ _ => HKEQ.out.2 (by simp)
          go_wp2_with (go_at_call 100; refine (HCLO.out _ HBB.out).mono ?_; rintro e w2 ⟨rfl, hb2⟩; have HB2 := Lib.hid (HBB.out.trans (hb2.mono HBB.out.size)); clear hb2)
          go_roundw
          case rel => exact ⟨j + 1, by omega, by go_num, HT2.out, HB2.out⟩
          case measure => simp [intOf]; omega
        | false =>
          go_wp2_with (go_at_call 100; refine (HCLO.out _ HBB.out).mono ?_; rintro e w2 ⟨rfl, hb2⟩; have HB2 := Lib.hid (HBB.out.trans (hb2.mono HBB.out.size)); clear hb2)
          go_ret
          exact ⟨Dt.ret_bool (by rw [← HZ.out]; exact (eqB_no (not_same hk1 hk2 (fun e => by have := HKEQ.out.1 e; simp at this))).symm), HB2.out⟩
      · obtain rfl : j = nk := by omega
        go_wp2_with fail
        go_ret
        exact ⟨Dt.ret_bool (by rw [← HZ.out]; exact (eqB_yes (HTK.out.all HLK.out HLK2.out)).symm), HB.out⟩
  · have fB : ((nk : Int) != (nk2 : Int)) = true := by simp; omega
    go_enter Tryz.func99, Tryz.ntmps99
    go_wp2_with fail
    go_ret
    exact ⟨Dt.ret_bool (by rw [← HZ.out]; exact (eqB_no (fun e => hB (by rw [← HLK.out, ← HLK2.out, e]))).symm), Below.refl _ _⟩
set_option maxRecDepth 100000 in
set_option maxHeartbeats 4000000 in
theorem same_any : ∀ (t u : T) (Ae Ak : Option Addr) (ne nk ce ck : Nat) (Ae2 Ak2 : Option Addr) (ne2 nk2 ce2 ck2 : Nat) (w : World), nodes t ≤ 1000000 → RdT w w.heap.size t ⟨Ae, ne, ce⟩ ⟨Ak, nk, ck⟩ → RdT w w.heap.size u ⟨Ae2, ne2, ce2⟩ ⟨Ak2, nk2, ck2⟩ →
    Calls Tryz.prog 75 #[.agg #[.slice Ae ne ce, .slice Ak nk ck], .agg #[.slice Ae2 ne2 ce2, .slice Ak2 nk2 ck2]] w fun e w' => e = .returned (.bool (eqB t u)) ∧ Below w.heap.size w w' := by
  intro t
  induction t using T.ind with
  | h es ks ih =>
    intro u Ae Ak ne nk ce ck Ae2 Ak2 ne2 nk2 ce2 ck2 w hn hr hs
    cases u with
    | mk es2 ks2 =>
      have hlens := rd_lens hr
      have hn6 : ne ≤ 1000000 := by have := nodes_es es ks; omega
      have hk6 : nk ≤ 1000000 := by have := nodes_es es ks; omega
      have hr2 := hr
      rw [rdT_mk] at hr2
      have hs2 := hs
      rw [rdT_mk] at hs2
      have HEE : Hid (∀ W, Below w.heap.size w W → Calls Tryz.prog 98 #[.slice Ae ne ce, .slice Ae2 ne2 ce2] W fun e w' => e = .returned (.bool (eqB es es2)) ∧ Below W.heap.size W w') := fun W hW =>
        equalE_any es es2 ne ne2 Ae Ae2 ce ce2 W hr2.1 hs2.1 hn6 ((hr2.2.1.below hW).more hW.size) ((hs2.2.1.below hW).more hW.size)
      have HEK : Hid (∀ W, Below w.heap.size w W → Calls Tryz.prog 99 #[.slice Ak nk ck, .slice Ak2 nk2 ck2, .func (.func 100) #[] #[]] W fun e w' => e = .returned (.bool (eqB ks ks2)) ∧ Below W.heap.size W w') := fun W hW =>
        equalK_of es es2 ks ks2 ih Ae Ak ne nk ce ck Ae2 Ak2 ne2 nk2 ce2 ck2 W hk6 hn (RdT.more hW.size _ (RdT.below hr hW)) (RdT.more hW.size _ (RdT.below hs hW))
      obtain ⟨z, hz⟩ : ∃ z, eqB (T.mk es ks) (T.mk es2 ks2) = z := ⟨_, rfl⟩
      rw [hz]
      obtain ⟨ze, hze⟩ : ∃ z, eqB es es2 = z := ⟨_, rfl⟩
      obtain ⟨zk, hzk⟩ : ∃ z, eqB ks ks2 = z := ⟨_, rfl⟩
      rw [hze] at HEE
      rw [hzk] at HEK
      have hand : z = (ze && zk) := by
        rw [← hz]
        cases ze with
        | false => rw [Bool.false_and]; exact eqB_no (mk_ne (.inl fun e => by rw [eqB_yes e] at hze; cases hze))
        | true =>
          cases zk with
          | false => rw [Bool.true_and]; exact eqB_no (mk_ne (.inr fun e => by rw [eqB_yes e] at hzk; cases hzk))
          | true => exact eqB_yes (by rw [eqB_iff.1 hze, eqB_iff.1 hzk])
      have HAND := Lib.hid hand
      clear ih hr hs hr2 hs2 hlens hz hze hzk hand
      obtain ⟨g, hg⟩ : ∃ g, g = w.heap.size := ⟨_, rfl⟩
      have HK := Lib.hid (tree_box w Ae Ak ne nk ce ck)
      rw [← hg] at HK
      obtain ⟨W0, hW0⟩ : ∃ W, W = w.alloc (.cells #[.slice Ae ne ce, .slice Ak nk ck] 25) := ⟨_, rfl⟩
      rw [← hW0] at HK
      have HG := Lib.hid hg
      have HW0 := Lib.hid hW0
      have k0 := HK.out.c0
      have k1 := HK.out.c1
      clear hg hW0
      obtain ⟨q, hq⟩ : ∃ q, q = W0.heap.size := ⟨_, rfl⟩
      obtain ⟨W1, hW1⟩ : ∃ W, W = W0.alloc (.cells #[.slice Ae2 ne2 ce2, .slice Ak2 nk2 ck2] 25) := ⟨_, rfl⟩
      have hb1 : Below W0.heap.size W0 W1 := by rw [hW1]; exact Dt.box_below _ _ _
      have q0 : W1.cell? ⟨q, 0, none⟩ = some (.slice Ae2 ne2 ce2) := by rw [hW1, hq]; go_simp
      have q1 : W1.cell? ⟨q, 1, none⟩ = some (.slice Ak2 nk2 ck2) := by rw [hW1, hq]; go_simp
      have HKB := Lib.hid (((HK.out.later hb1).cons_of q1).cons_of q0)
      have HQ : Hid (q = g + 1) := by unfold Hid; rw [hq, HW0.out, HG.out]; simp
      have HW1 := Lib.hid hW1
      clear hq hW1 hb1 q0 q1 k0 k1
      have k0 := HKB.out.c0
      have k1 := HKB.out.c1
      have k2 := HKB.out.c2
      have k3 := HKB.out.c3
      have HKc := HKB
      cases ze with
      | false =>
        go_enter Tryz.func75, Tryz.ntmps75
        go_wp2_with fail
        rw [← HG.out, ← HW0.out, ← HQ.out, ← HW1.out]
        refine (HEE.out _ HKc.out.below).mono ?_
        rintro e w2 ⟨rfl, hb2⟩
        have HKc := Lib.hid (HKc.out.later hb2)
        clear hb2
        go_wp2_with fail
        go_ret
        exact ⟨Dt.ret_bool (by rw [HAND.out]; rfl), HKc.out.below⟩
      | true =>
        go_enter Tryz.func75, Tryz.ntmps75
        go_wp2_with fail
        rw [← HG.out, ← HW0.out, ← HQ.out, ← HW1.out]
        refine (HEE.out _ HKc.out.below).mono ?_
        rintro e w2 ⟨rfl, hb2⟩
        have HKc := Lib.hid (HKc.out.later hb2)
        clear hb2 k0 k1 k2 k3
        have k1 := HKc.out.c1
        have k3 := HKc.out.c3
        go_wp2_with fail
        refine (HEK.out _ HKc.out.below).mono ?_
        rintro e w3 ⟨rfl, hb2⟩
        have HKc := Lib.hid (HKc.out.later hb2)
        clear hb2
        go_wp2_with fail
        go_ret
        exact ⟨Dt.ret_bool (by rw [HAND.out]; rfl), HKc.out.below⟩
set_option maxRecDepth 100000 in
set_option maxHeartbeats 4000000 in
theorem sameT_any (t u : T) (Ae Ak : Option Addr) (ne nk ce ck : Nat) (Ae2 Ak2 : Option Addr) (ne2 nk2 ce2 ck2 : Nat) (w : World) (hl : LenT reachBytes t) (hn : nodes t ≤ 1000000) (hr : RdT w w.heap.size t ⟨Ae, ne, ce⟩ ⟨Ak, nk, ck⟩) (hs : RdT w w.heap.size u ⟨Ae2, ne2, ce2⟩ ⟨Ak2, nk2, ck2⟩) :
    Calls Tryz.prog 47 #[.agg #[.slice Ae ne ce, .slice Ak nk ck], .agg #[.slice Ae2 ne2 ce2, .slice Ak2 nk2 ck2]] w fun e w' => e = .returned (.bool (rightB 5 t && eqB t u)) ∧ Below w.heap.size w w' := by
  have HRT : Hid (∀ W, Below w.heap.size w W → Calls Tryz.prog 60 #[.agg #[.slice Ae ne ce, .slice Ak nk ck]] W fun e w' => e = .returned (.bool (rightB 5 t)) ∧ Below W.heap.size W w') := fun W hW => rightT_any t Ae Ak ne nk ce ck W hl (RdT.more hW.size _ (RdT.below hr hW))
  have HSA : Hid (∀ W, Below w.heap.size w W → Calls Tryz.prog 75 #[.agg #[.slice Ae ne ce, .slice Ak nk ck], .agg #[.slice Ae2 ne2 ce2, .slice Ak2 nk2 ck2]] W fun e w' => e = .returned (.bool (eqB t u)) ∧ Below W.heap.size W w') := fun W hW => same_any t u Ae Ak ne nk ce ck Ae2 Ak2 ne2 nk2 ce2 ck2 W hn (RdT.more hW.size _ (RdT.below hr hW)) (RdT.more hW.size _ (RdT.below hs hW))
  clear hl hn hr hs
  obtain ⟨g, hg⟩ : ∃ g, g = w.heap.size := ⟨_, rfl⟩
  have HK := Lib.hid (tree_box w Ae Ak ne nk ce ck)
  rw [← hg] at HK
  obtain ⟨W0, hW0⟩ : ∃ W, W = w.alloc (.cells #[.slice Ae ne ce, .slice Ak nk ck] 25) := ⟨_, rfl⟩
  rw [← hW0] at HK
  have HG := Lib.hid hg
  have HW0 := Lib.hid hW0
  have k0 := HK.out.c0
  have k1 := HK.out.c1
  clear hg hW0
  obtain ⟨q, hq⟩ : ∃ q, q = W0.heap.size := ⟨_, rfl⟩
  obtain ⟨W1, hW1⟩ : ∃ W, W = W0.alloc (.cells #[.slice Ae2 ne2 ce2, .slice Ak2 nk2 ck2] 25) := ⟨_, rfl⟩
  have hb1 : Below W0.heap.size W0 W1 := by rw [hW1]; exact Dt.box_below _ _ _
  have q0 : W1.cell? ⟨q, 0, none⟩ = some (.slice Ae2 ne2 ce2) := by rw [hW1, hq]; go_simp
  have q1 : W1.cell? ⟨q, 1, none⟩ = some (.slice Ak2 nk2 ck2) := by rw [hW1, hq]; go_simp
  have HKB := Lib.hid (((HK.out.later hb1).cons_of q1).cons_of q0)
  have HQ : Hid (q = g + 1) := by unfold Hid; rw [hq, HW0.out, HG.out]; simp
  have HW1 := Lib.hid hW1
  clear hq hW1 hb1 q0 q1 k0 k1
  have k0 := HKB.out.c0
  have k1 := HKB.out.c1
  have k2 := HKB.out.c2
  have k3 := HKB.out.c3
  have HKc := HKB
  obtain ⟨v, hv⟩ : ∃ v, eqB t u = v := ⟨_, rfl⟩
  rw [hv] at HSA
  cases hz : rightB 5 t with
  | false =>
    rw [hz] at HRT
    clear hz hv
    rw [Bool.false_and]
    go_enter Tryz.func47, Tryz.ntmps47
    go_wp2_with fail
    rw [← HG.out, ← HW0.out, ← HQ.out, ← HW1.out]
    refine (HRT.out _ HKc.out.below).mono ?_
    rintro e w2 ⟨rfl, hb2⟩
    have HKc := Lib.hid (HKc.out.later hb2)
    clear hb2
    go_wp2_with fail
    go_ret
    exact ⟨rfl, HKc.out.below⟩
  | true =>
    rw [hz] at HRT
    rw [Bool.true_and, hv]
    clear hz hv
    go_enter Tryz.func47, Tryz.ntmps47
    go_wp2_with fail
    rw [← HG.out, ← HW0.out, ← HQ.out, ← HW1.out]
    refine (HRT.out _ HKc.out.below).mono ?_
    rintro e w2 ⟨rfl, hb2⟩
    have HKc := Lib.hid (HKc.out.later hb2)
    clear hb2 k0 k1 k2 k3
    have k0 := HKc.out.c0
    have k1 := HKc.out.c1
    have k2 := HKc.out.c2
    have k3 := HKc.out.c3
    go_wp2_with fail
    refine (HSA.out _ HKc.out.below).mono ?_
    rintro e w3 ⟨rfl, hb2⟩
    have HKc := Lib.hid (HKc.out.later hb2)
    clear hb2
    go_wp2_with fail
    go_ret
    exact ⟨rfl, HKc.out.below⟩
end Tr
end Go.Proofs.YtcbclefemcmhpaaGreat
namespace Go.Proofs.YtcbclefemcmhpaaGreat
open Go.ChangeShapes Go.WideShapes Go.ChangeAt Go.RowKit
namespace Tr
open Sp Rw
def leafT : T := .mk [⟨1, 2, ⟨#[120]⟩, 0⟩] []
def kA : ByteArray := ⟨#[97]⟩
def kB : ByteArray := ⟨#[98]⟩
theorem leaf_right : rightB 5 leafT = true := rightB_iff.2 ⟨by
    intro e he
    rw [List.mem_singleton.1 he]
    exact ⟨rfl, by decide, by decide, by decide⟩, by simp, by simp, by simp⟩
theorem leaf_levels : levels leafT = 1 := by unfold leafT; rw [levels_mk]; rfl
theorem leaf_nodes : nodes leafT = 1 := by unfold leafT; rw [nodes_mk]; rfl
theorem leaf_len : LenT reachBytes leafT := .mk (by unfold reachBytes; simp) (by simp) (by simp)
theorem leaf_some : ¬ (leafT.es = [] ∧ leafT.ks = []) := fun h => by cases h.1
theorem bad_ab : badB [kA, kB] = false := by rw [badB_iff]; intro k hk; simp at hk; rcases hk with rfl | rfl <;> exact ⟨by decide, by decide⟩
theorem leaf_err : wrapE leafT [kA, kB] = 0 := by
  unfold wrapE
  rw [leaf_right, bad_ab, if_neg (by simp), if_neg (by simp), if_neg leaf_some, leaf_levels, if_neg (by simp)]
theorem leaf_wrap : wrapR leafT [kA, kB] = .mk [] [(kA, .mk [] [(kB, leafT)])] := by
  unfold wrapR
  rw [if_pos ⟨leaf_err, leaf_some⟩]
  rfl
theorem right_wrap : rightB 5 (.mk [] [(kA, .mk [] [(kB, leafT)])]) = true := by
  have h := RightT.wrap (d := 1) (t := leafT) (by
    have := right_levels (rightB_iff.1 leaf_right)
    rwa [leaf_levels] at this) leaf_some (p := [kA, kB]) (badB_iff.1 bad_ab)
  exact rightB_iff.2 ((show RightT 3 _ from h).le (by omega))
theorem get_wrapped : getT (.mk [] [(kA, .mk [] [(kB, leafT)])]) [kA, kB] = leafT := get_wrap leafT [kA, kB]
theorem rd_ab (w : World) : Rd (w.alloc (.cells #[.string kA, .string kB] 9)) (w.alloc (.cells #[.string kA, .string kB] 9)).heap.size 1 (some ⟨w.heap.size, 0, none⟩) 2 2 (strs [kA, kB]) :=
  ⟨rfl, Nat.le_refl _, strs_one _, fun _ => ⟨_, _, rfl, by simp, fun j u hu => by
    rw [Nat.zero_add, cell_of_row _ _ j _ _ (0, 0) (heap_alloc_new _ _)]
    simpa [strs] using hu⟩⟩
end Tr
end Go.Proofs.YtcbclefemcmhpaaGreat
namespace Go.Proofs.YtcbclefemcmhpaaGreat
open Go.ChangeShapes Go.WideShapes Go.ChangeAt Go.RowKit
namespace Tr
open Sp Rw
set_option maxRecDepth 100000
theorem types : Types Tryz.prog 25 58 85 22 23 48 3 2 9 :=
  ⟨⟨_, _, Tryz.underlying25, rfl, rfl, rfl, rfl⟩, ⟨_, _, _, Tryz.underlying58, rfl, rfl, rfl, rfl, rfl, rfl⟩, ⟨_, _, Tryz.underlying48, rfl, rfl, rfl, rfl⟩, ⟨_, _, Tryz.underlying85, rfl, rfl, rfl, rfl⟩,
    Tryz.underlying22, Tryz.underlying23, Tryz.underlying3, Tryz.underlying2, Tryz.underlying9,
    by kernel_rfl, by kernel_rfl, by kernel_rfl, by kernel_rfl, by kernel_rfl, by kernel_rfl, by kernel_rfl, by kernel_rfl, by kernel_rfl,
    of_decide_eq_true (by kernel_rfl), of_decide_eq_true (by kernel_rfl)⟩
theorem weights_head {H : Type} {P : Program} {t : TypeId} {ts : List TypeId} {d : DataW H} {ds : List (DataW H)} (h : (DataW.weightsEach P (t :: ts) (d :: ds)).all (· ≤ reachBytes) = true) : (∀ m ∈ d.weights P t, m ≤ reachBytes) ∧ (DataW.weightsEach P ts ds).all (· ≤ reachBytes) = true := by
  unfold DataW.weightsEach at h
  rw [List.all_append, Bool.and_eq_true] at h
  exact ⟨fun m hm => of_decide_eq_true (List.all_eq_true.1 h.1 m hm), h.2⟩
theorem treeV_of_trod {H : Type} {enc : TypeId × Value → H} {W : World} {b0 : Nat} {v : Value} {d : DataW H} {p : List MemPlace}
    (hv : Value.okWide Tryz.prog W .any b0 25 v) (h : DataW.Trod enc Tryz.prog W 0 (fun _ => true) true 25 v d p) (hw : ∀ m ∈ d.weights Tryz.prog 25, m ≤ reachBytes) :
    ∃ (t : T) (Ae Ak : Option Addr) (ne nk ce ck : Nat), v = .agg #[.slice Ae ne ce, .slice Ak nk ck] ∧ RdT W W.heap.size t ⟨Ae, ne, ce⟩ ⟨Ak, nk, ck⟩ ∧ LenT reachBytes t := by
  obtain ⟨cs, rfl, hsz⟩ : ∃ cs, v = .agg cs ∧ cs.size = Tryz.prog.cellsOf 25 := by
    simp only [Value.okWide, Tryz.underlying25] at hv
    obtain ⟨cs, h1, h2, _⟩ := hv
    exact ⟨cs, h1, h2⟩
  obtain ⟨fuel, hf⟩ := h
  obtain ⟨t, ⟨Ae, ne, ce⟩, ⟨Ak, nk, ck⟩, he, hr, hl⟩ := tree_of_trod types fuel hf hw
  refine ⟨t, Ae, Ak, ne, nk, ce, ck, ?_, hr, hl⟩
  have : cs.toList = [.slice Ae ne ce, .slice Ak nk ck] := he
  rw [← Array.toArray_toList (xs := cs), this]
theorem strs_of_trod {H : Type} {enc : TypeId × Value → H} {W : World} {A : Option Addr} {len cap fuel : Nat} {x : DataW H × List MemPlace}
    (h : DataW.trod enc Tryz.prog W 0 (fun _ => true) true fuel 42 (Value.slice A len cap).cells.toList = some x) :
    ∃ l : List ByteArray, l.length = len ∧ Rd W W.heap.size 1 A len cap (strs l) ∧ len ≤ maxLen := by
  have hfl : ∀ l : List ByteArray, l.flatMap (fun s => [Value.string s]) = strs l := fun l => by
    unfold strs
    induction l with
    | nil => rfl
    | cons a l ih => rw [List.flatMap_cons, ih]; rfl
  obtain ⟨l, h1, h2, h3⟩ := rd_of_trod (sz := 1) (fun s : ByteArray => [Value.string s]) (fun _ => rfl) (fun _ u hu => by rw [List.mem_singleton.1 hu]; rfl) (by omega) Tryz.underlying42 (by kernel_rfl) (fun n cs y hy => by
    obtain ⟨s, e, _, _⟩ := DataW.trod_string Tryz.underlying9 hy
    exact ⟨s, e⟩) h
  rw [hfl] at h2
  exact ⟨l, h1, h2, h3⟩
theorem small_to (t : T) (Ae Ak : Option Addr) (ne nk ce ck : Nat) (most : Nat) (m : Int) (hm : (most : Int) = m) (w : World) (h1 : most ≤ 1000) (hl : LenT reachBytes t) (hr : RdT w w.heap.size t ⟨Ae, ne, ce⟩ ⟨Ak, nk, ck⟩) :
    Calls Tryz.prog 59 #[.agg #[.slice Ae ne ce, .slice Ak nk ck], .int .i64 m] w fun e w' => ∃ b : Bool, e = .returned (.bool b) ∧ (b = true → nodes t ≤ most) ∧ Below w.heap.size w w' := by
  subst hm
  exact small_any t Ae Ak ne nk ce ck most w h1 hl hr
theorem LenT.of_nodes {m : Nat} : ∀ {t : T}, nodes t ≤ m → LenT m t := by
  intro t
  induction t using T.ind with
  | h es ks ih =>
    intro h
    have := nodes_es es ks
    exact .mk (by omega) (by omega) fun k hk => ih k hk (Nat.le_trans (nodes_kid hk) h)
theorem LenT.mono {m m' : Nat} (hm : m ≤ m') : ∀ {t : T}, LenT m t → LenT m' t := by
  intro t
  induction t using T.ind with
  | h es ks ih => exact fun h => .mk (Nat.le_trans h.es hm) (Nat.le_trans h.ks hm) fun k hk => ih k hk (h.kid hk)
theorem LenT.few {t : T} (h : nodes t ≤ 100000) : LenT reachBytes t := (LenT.of_nodes h).mono (by unfold reachBytes; omega)
theorem nodes_wrap (t : T) : ∀ p : List ByteArray, nodes (wrapT t p) = nodes t + p.length
  | [] => rfl
  | k :: p => by
    unfold wrapT
    rw [nodes_mk, List.map_cons, List.map_nil, List.sum_cons, List.sum_nil, nodes_wrap t p]
    simp
    omega
theorem right_none : rightB 5 none_ = true := rightB_iff.2 (RightT.none (d := 4))
theorem nodes_none : nodes none_ = 0 := by unfold none_; rw [nodes_mk]; rfl
/-- what is so, once it is wrapped -/
structure WrapOk (t : T) (l : List ByteArray) (x : T) : Prop where
  rx : rightB 5 x = true
  rt : rightB 5 t = true
  get : getT x l = t
  len : (leaves x).length = (leaves t).length
  nodes : nodes x ≤ nodes t + l.length
  other : ∀ (k o : ByteArray) (l' : List ByteArray), l = k :: l' → ¬ o = k → kidAt x.ks o = none_
theorem wrap_ok {t : T} {l : List ByteArray} (h : wrapE t l = 0) : WrapOk t l (wrapR t l) := by
  have h0 := h
  unfold wrapE at h
  by_cases h1 : (!rightB 5 t || badB l) = true
  · rw [if_pos h1] at h; cases h
  rw [if_neg h1] at h
  obtain ⟨h2, h3⟩ : rightB 5 t = true ∧ badB l = false := by
    cases hr : rightB 5 t <;> cases hb : badB l <;> simp_all
  by_cases h5 : 5 < l.length
  · rw [if_pos h5] at h; cases h
  rw [if_neg h5] at h
  by_cases he : t.es = [] ∧ t.ks = []
  · have ht : t = none_ := by rw [← T.eta t, he.1, he.2]; rfl
    have hx : wrapR t l = none_ := by unfold wrapR; rw [if_neg (fun h => h.2 he)]
    rw [hx, ht]
    exact ⟨right_none, right_none, getT_none l, rfl, by rw [nodes_none]; omega, fun _ _ _ _ _ => rfl⟩
  · rw [if_neg he] at h
    by_cases h6 : 5 < levels t + l.length
    · rw [if_pos h6] at h; cases h
    have hx : wrapR t l = wrapT t l := by unfold wrapR; rw [if_pos ⟨h0, he⟩]
    rw [hx]
    refine ⟨rightB_iff.2 ((RightT.wrap (right_levels (rightB_iff.1 h2)) he (badB_iff.1 h3)).le (by omega)), h2, get_wrap t l, by rw [leaves_wrap, List.length_map], Nat.le_of_eq (nodes_wrap t l), ?_⟩
    rintro k o l' rfl ho
    show kidAt [(k, wrapT t l')] o = none_
    unfold kidAt
    rw [if_neg (fun e => ho e.symm)]
    rfl
theorem wrap_not {t : T} {l : List ByteArray} (h : ¬ wrapE t l = 0) : wrapR t l = none_ := by unfold wrapR; rw [if_neg (fun h2 => h h2.1)]
/-- an empty tree in memory -/
theorem rd_none {w : World} {B : Nat} {Ae Ak : Option Addr} {ne nk ce ck : Nat} (h : RdT w B none_ ⟨Ae, ne, ce⟩ ⟨Ak, nk, ck⟩) : ne = 0 ∧ nk = 0 := by
  have := rd_lens (show RdT w B (.mk [] []) _ _ from h)
  exact ⟨this.1.symm, this.2.symm⟩
end Tr
end Go.Proofs.YtcbclefemcmhpaaGreat
