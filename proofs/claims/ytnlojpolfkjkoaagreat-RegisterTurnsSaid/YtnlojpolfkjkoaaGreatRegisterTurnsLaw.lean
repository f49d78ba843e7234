/- Proved: the law RegisterTurns answers true for every tree, every text, every dot that can be handed in, and leaves its arguments as they were. Conditions: none. -/
import Derived.Test.YtnlojpolfkjkoaaGreatG00
import Derived.Test.YtnlojpolfkjkoaaGreatG170
import Derived.Test.YtnlojpolfkjkoaaGreatSetRef
import Derived.Test.YtnlojpolfkjkoaaGreatSetSort
import Derived.Test.YtnlojpolfkjkoaaGreatDltRef
import Derived.Test.YtnlojpolfkjkoaaGreatCauJoin
import Derived.Test.YtnlojpolfkjkoaaGreatCauAll
import Derived.Test.YtnlojpolfkjkoaaGreatCauOwnRef
import Derived.Test.YtnlojpolfkjkoaaGreatG150
open Go.ChangeShapes Go.WideShapes Go.ChangeAt Go.RowKit
namespace Go.Proofs.YtnlojpolfkjkoaaGreat
namespace lawRegisterTurns
open Tr Cx Cs Sp Rw Classical
theorem boxL (w : World) (Ae Ak : Option Addr) (ne nk ce ck : Nat) (a n : Int) : ∃ (W : World) (p q : Nat), Hid (W = ((w.alloc (.cells #[.slice Ae ne ce, .slice Ak nk ck] 25)).alloc (.cells #[.int .i64 a, .int .i64 n] 27))) ∧ Hid (p = w.heap.size) ∧ Hid (q = p + 1) ∧ Hid (Kept [(⟨p, 0, none⟩, .slice Ae ne ce), (⟨p, 1, none⟩, .slice Ak nk ck), (⟨q, 0, none⟩, .int .i64 a), (⟨q, 1, none⟩, .int .i64 n)] w W) := by
 refine ⟨_, _, _, rfl, rfl, rfl, ?_⟩; have h0 := Kept.nil_of (show Below w.heap.size w (((w.alloc (.cells #[.slice Ae ne ce, .slice Ak nk ck] 25)).alloc (.cells #[.int .i64 a, .int .i64 n] 27))) from ((Below.refl _ _).alloc (Nat.le_refl _) _).alloc (by simp) _)
 refine ((((h0).cons_of ?_).cons_of ?_).cons_of ?_).cons_of ?_ <;> go_simp
set_option maxRecDepth 100000 in
set_option maxHeartbeats 4000000 in
theorem walk_any (t : T) (Ae Ak : Option Addr) (ne nk ce ck : Nat) (tx : ByteArray) (a n : Int) (w : World) (hr : RdT w w.heap.size t ⟨Ae, ne, ce⟩ ⟨Ak, nk, ck⟩) (hl : LenT reachBytes t)  :
  Calls Tryz.prog 5 #[.agg #[.slice Ae ne ce, .slice Ak nk ck], .string tx, .agg #[.int .i64 a, .int .i64 n]] w fun e w' => e = .returned (.bool true) ∧ Below w.heap.size w w' := by
 obtain ⟨W, p, q, HW, HP, HQ, HKc⟩ := boxL w Ae Ak ne nk ce ck a n; have HR0 := Lib.hid hr; have R := Lib.hid (RdT.later hr HKc.out.below); have L := Lib.hid hl; clear hr hl; have c0 := HKc.out.c0; have c1 := HKc.out.c1; have c2 := HKc.out.c2; have c3 := HKc.out.c3; go_enter Tryz.func5, Tryz.ntmps5; go_wp2_with fail; rw [← HW.out, ← HP.out]
 try rw [← HQ.out]
 refine (awake13 W).mono ?_; rintro e v1 ⟨rfl, hb9⟩; have HKc := Lib.hid (HKc.out.later hb9); have R := Lib.hid (RdT.later R.out hb9); clear hb9; clear c0 c1 c2 c3; have c0 := HKc.out.c0; have c1 := HKc.out.c1; have c2 := HKc.out.c2; have c3 := HKc.out.c3; go_wp2_with fail; refine (small_tree t Ae Ak ne nk ce ck v1 L.out R.out).mono ?_; rintro e v2 ⟨b9, rfl, hsm, hb9⟩; have HKc := Lib.hid (HKc.out.later hb9); have R := Lib.hid (RdT.later R.out hb9); clear hb9; clear c0 c1 c2 c3
 cases b9 with
 | false =>
  clear hsm; go_wp2_with fail; refine (awake13 _).mono ?_; rintro e v99 ⟨rfl, hb9⟩; have HKc := Lib.hid (HKc.out.later hb9); clear hb9; go_wp2_with fail; go_ret; exact ⟨by first | rfl | simp, HKc.out.below⟩
 | true =>
  have N : Hid (nodes t ≤ 60) := hsm rfl; clear hsm; obtain ⟨y, hy9⟩ : ∃ y, wB t tx a n = y := ⟨_, rfl⟩; have HY := Lib.hid hy9; clear hy9; have c0 := HKc.out.c0; have c1 := HKc.out.c1; have c2 := HKc.out.c2; have c3 := HKc.out.c3; go_wp2_with fail; refine (rmay_any t Ae Ak ne nk ce ck tx a n v2 y HY.out L.out (by have := N.out; omega) R.out).mono ?_; rintro e v3 ⟨rfl, hb9⟩; have HKc := Lib.hid (HKc.out.later hb9); have R := Lib.hid (RdT.later R.out hb9); clear hb9; clear c0 c1 c2 c3
  cases y with
  | false =>
   go_wp2_with fail; refine (awake13 _).mono ?_; rintro e v99 ⟨rfl, hb9⟩; have HKc := Lib.hid (HKc.out.later hb9); clear hb9; go_wp2_with fail; go_ret; exact ⟨by first | rfl | simp, HKc.out.below⟩
  | true =>
   have HCK : Hid (checkB t a n = true) := (wB_iff.1 HY.out).1; have HS30 : Hid (tx.size ≤ 30) := (wB_iff.1 HY.out).2; have HT : Hid (RightT 5 t) := (check_iff.1 HCK.out).1; have HD : Hid (Dt.rightB a n = true) := (check_iff.1 HCK.out).2.1; have HE : Hid (RightE ⟨a, n, tx, 0⟩) := text_e HD.out HS30.out; obtain ⟨u, hu1, hu2⟩ := some_of HT.out L.out (by have := N.out; omega) R.out; obtain ⟨m9, hm9⟩ : ∃ m9, u.length = m9 := ⟨_, rfl⟩; have HU : Hid (OfC (dl t) u ∧ u.length = m9 ∧ m9 ≤ 240) := ⟨hu1, hm9, by have := N.out; omega⟩; clear hu1 hu2 hm9; obtain ⟨u8, hu1, hu2⟩ := some_of (right_own HT.out) (LenT.few (by have := own_nodes t; have := N.out; omega)) (by have := own_nodes t; have := N.out; omega) (own_rd R.out); obtain ⟨m8, hm9⟩ : ∃ m9, u8.length = m9 := ⟨_, rfl⟩; have H8 : Hid (OfC (ownD t) u8 ∧ u8.length = m8 ∧ m8 ≤ 240) := ⟨by rw [ownD_dl] at hu1; exact hu1, hm9, by have := own_nodes t; have := N.out; omega⟩
   clear hu1 hu2 hm9; have JT : Hid (RK (t, u)) := known_right HT.out HU.out.1; have c0 := HKc.out.c0; have c1 := HKc.out.c1; have c2 := HKc.out.c2; have c3 := HKc.out.c3; go_wp2_with fail; refine (rwrite_any t Ae Ak ne nk ce ck tx a n v3 L.out (by have := N.out; omega) R.out).mono ?_; rintro e v4 ⟨kx, zx, Xe, xe1, xe2, Xk, xk1, xk2, Xc, xc1, xc2, rfl, how, hz, hb9⟩; have HKc := Lib.hid (HKc.out.later hb9); have R := Lib.hid (RdT.later R.out hb9); clear hb9; clear c0 c1 c2 c3; have RX := Lib.hid (RdP.of_own how.out); have ZX := Lib.hid hz.out; clear how hz; obtain ⟨rfl, hk1, hna, u2, hu2, hpv⟩ := ZX.out.1 (HY.out); have KX : Hid (kx.1 = oneT ⟨a, n, tx, 0⟩) := hk1
   have BX : Hid (xc1 ≤ 244) := by have := N.out; unfold Hid; omega
   have VX : Hid (PutC uniF u8 (oneC a n) kx.2) := by unfold Hid; rw [← hu2.eq H8.out.1]; exact hpv
   clear hk1 hna hu2 hpv
   have JX : Hid (RK kx) := by
    have h : RK (oneT ⟨a, n, tx, 0⟩, kx.2) := right_one (right_oneT HE.out) VX.out.right (uni_self H8.out.1.right HD.out VX.out); rw [← KX.out] at h; exact h
   obtain ⟨g, hg⟩ : ∃ g, g = v4.heap.size := ⟨_, rfl⟩; obtain ⟨v5, hv5⟩ : ∃ W, W = v4.alloc (.cells #[.slice Xe xe1 xe2, .slice Xk xk1 xk2, .slice Xc xc1 xc2] 33) := ⟨_, rfl⟩
   have hb9 : Below v4.heap.size v4 v5 := by rw [hv5]; exact Dt.box_below _ _ _
   have b0 : v5.cell? ⟨g, 0, none⟩ = some (.slice Xe xe1 xe2) := by rw [hv5, hg]; go_simp
   have b1 : v5.cell? ⟨g, 1, none⟩ = some (.slice Xk xk1 xk2) := by rw [hv5, hg]; go_simp
   have b2 : v5.cell? ⟨g, 2, none⟩ = some (.slice Xc xc1 xc2) := by rw [hv5, hg]; go_simp
   have HKc := Lib.hid (HKc.out.later hb9); have R := Lib.hid (RdT.later R.out hb9); have RX := Lib.hid (RX.out.later hb9); clear hb9; have HKc := Lib.hid (((HKc.out.cons_of b2).cons_of b1).cons_of b0); have Hg := Lib.hid hg; have Hv5 := Lib.hid hv5; clear hg hv5 b0 b1 b2; have c0 := HKc.out.c0; have c1 := HKc.out.c1; have c2 := HKc.out.c2; have c3 := HKc.out.c3; have c4 := HKc.out.c4; have c5 := HKc.out.c5; have c6 := HKc.out.c6; rw [Hv5.out] at c0 c1 c2 c3 c4 c5 c6; rw [Hg.out] at c0 c1 c2; go_wp2_with fail; rw [← Hg.out, ← Hv5.out]; clear c0 c1 c2 c3 c4 c5 c6
   go_cut [9, 10] (fun s9 e9 wx => ∃ (g9 : Nat) (p9 : CP), s9 = .pointer (some ⟨g9, 0, none⟩) ∧ e9 = .int .i64 0 ∧ Hid (MidJ v5 g9 p9 wx) ∧ Hid (IsJ (t, u) kx p9.k))
   case first =>
    refine wp_region_held_drew (S := fun W => W.cell? ⟨g, 0, none⟩ = some (.slice Xe xe1 xe2) ∧ W.cell? ⟨g, 1, none⟩ = some (.slice Xk xk1 xk2) ∧ W.cell? ⟨g, 2, none⟩ = some (.slice Xc xc1 xc2) ∧ W.cell? ⟨p, 0, none⟩ = some (.slice Ae ne ce) ∧ W.cell? ⟨p, 1, none⟩ = some (.slice Ak nk ck) ∧ W.cell? ⟨q, 0, none⟩ = some (.int .i64 a) ∧ W.cell? ⟨q, 1, none⟩ = some (.int .i64 n)) (by kernel_rfl) (by have h9 := HKc.out.drew; exact ⟨h9.c0, h9.c1, h9.c2, h9.c3, h9.c4, h9.c5, h9.c6⟩) (fun hHeld => ?_); obtain ⟨v6, hv6⟩ : ∃ v, v = v5.drew := ⟨_, rfl⟩
    have hb9 : Below v5.heap.size v5 v6 := by rw [hv6]; exact (Below.refl _ _).drew
    have HKc := Lib.hid (HKc.out.later hb9); have R := Lib.hid (RdT.later R.out hb9); have RX := Lib.hid (RX.out.later hb9); clear hb9; have HBV9 : Hid (v5.drew = v6) := hv6.symm; rw [← hv6] at hHeld ⊢; clear hv6
    have HBV : Hid (Below v5.heap.size v5 v6) := by unfold Hid; rw [← HBV9.out]; exact (Below.refl _ _).drew
    clear HBV9; refine Tk 0 34 ?_; refine Tk 2 36 ?_; refine wpAnyH_ready (rs := [1, 7]) (by kernel_rfl) (by simp) ?_; refine AllReadyH.cons (o := ⟨some 35, _, _, _, _, _⟩) rfl (fun K hK => ?_) (AllReadyH.cons (o := ⟨some 9, _, _, _, _, _⟩) rfl (fun K hK => ?_) (AllReadyH.nil))
    ·go_simp
     (go_at_call 19; refine (refknown_any t Ae Ak ne nk ce ck u m9 v6 HT.out (by have := N.out; omega) R.out HU.out.1 HU.out.2.1 (by have := HU.out.2.2; omega)).mono ?_); rintro e v7 ⟨B9, d9, rfl, hro, hb9⟩; have RK9 : Hid (RdP v7 ⟨(t, u), ⟨Ae, ne, ce⟩, ⟨Ak, nk, ck⟩, ⟨B9, m9, d9⟩⟩) := ⟨RdT.later R.out hb9, HU.out.2.1, hro.rd⟩; clear hro; have HKc := Lib.hid (HKc.out.later hb9); have R := Lib.hid (RdT.later R.out hb9); have RX := Lib.hid (RX.out.later hb9); have HBV := Lib.hid (HBV.out.trans (hb9.mono HBV.out.size)); clear hb9; clear hHeld; refine Th hK ?_ (fun hHeld => ?_)
     ·exact ⟨HKc.out.c0, HKc.out.c1, HKc.out.c2, HKc.out.c3, HKc.out.c4, HKc.out.c5, HKc.out.c6⟩
     clear hK K; refine wpAnyH_ready (rs := [3, 7]) (by kernel_rfl) (by simp) ?_; refine AllReadyH.cons (o := ⟨some 37, _, _, _, _, _⟩) rfl (fun K hK => ?_) (AllReadyH.cons (o := ⟨some 9, _, _, _, _, _⟩) rfl (fun K hK => ?_) (AllReadyH.nil))
     ·go_simp
      (go_at_call 18; refine (joinE_any (t, u).1 kx.1 (t, u).2 kx.2 Ae Ak B9 Xe Xk Xc ne nk ce ck m9 d9 xe1 xk1 xe2 xk2 xc1 xc2 v7 (by have := N.out; show nodes t ≤ 1000; omega) RK9.out.len (by have := HU.out.2.2; omega) RK9.out.tree RK9.out.ctx (by rw [KX.out, nodes_one]; omega) RX.out.len (by have := BX.out; omega) RX.out.tree RX.out.ctx).mono ?_); rintro e v8 ⟨kj, z9, hj, Je, je1, je2, Jk, jk1, jk2, Jc, jc1, jc2, rfl, how, hb9⟩; obtain ⟨rfl, hjj, _⟩ := hj.1 ⟨JT.out, JX.out⟩; have HP : Hid (IsJ (t, u) kx kj) := hjj; have HN : Hid (NoC v8 (fun _ => True) ⟨kj, ⟨Je, je1, je2⟩, ⟨Jk, jk1, jk2⟩, ⟨Jc, jc1, jc2⟩⟩) := NoC.of_own how (fun b hb _ => trivial); clear hj hjj how; have HKc := Lib.hid (HKc.out.later hb9); have R := Lib.hid (RdT.later R.out hb9); have RX := Lib.hid (RX.out.later hb9); have HBV := Lib.hid (HBV.out.trans (hb9.mono HBV.out.size)); have RK9 := Lib.hid (RK9.out.later hb9)
      clear hb9; clear hHeld; refine Th hK ?_ (fun hHeld => ?_)
      ·exact ⟨HKc.out.c0, HKc.out.c1, HKc.out.c2, HKc.out.c3, HKc.out.c4, HKc.out.c5, HKc.out.c6⟩
      clear hK K; refine Tk 4 33 ?_; refine Tk 5 38 ?_; refine Tk 6 39 ?_; refine Tc 7 (fun K hK => ?_); go_simp; clear hHeld; refine Th hK ?_ (fun hHeld => ?_)
      ·exact ⟨(HKc.out.alloc _).c0, (HKc.out.alloc _).c1, (HKc.out.alloc _).c2, (HKc.out.alloc _).c3, (HKc.out.alloc _).c4, (HKc.out.alloc _).c5, (HKc.out.alloc _).c6⟩
      clear hK K; obtain ⟨gj, hgj⟩ : ∃ g, g = v8.heap.size := ⟨_, rfl⟩; obtain ⟨v9, hv9⟩ : ∃ W, W = v8.alloc (.cells #[.slice none 0 0, .slice none 0 0, .slice none 0 0] 33) := ⟨_, rfl⟩
      have hb9 : Below v8.heap.size v8 v9 := by rw [hv9]; exact Dt.box_below _ _ _
      have hvg : v5.heap.size ≤ gj := by rw [hgj]; exact HBV.out.size
      have hwg : w.heap.size ≤ gj := by rw [hgj]; exact HKc.out.below.size
      have hng : g ≠ gj := by have h := World.block_lt_of_cell? v8 _ HKc.out.c0; dsimp only at h; omega
      have hnp : p ≠ gj := by have h := World.block_lt_of_cell? v8 _ HKc.out.c3; dsimp only at h; omega
      have hnq : q ≠ gj := by have h := World.block_lt_of_cell? v8 _ HKc.out.c5; dsimp only at h; omega
      have b0 : v9.cell? ⟨gj, 0, none⟩ = some (.slice none 0 0) := by rw [hv9, hgj]; go_simp
      have b1 : v9.cell? ⟨gj, 1, none⟩ = some (.slice none 0 0) := by rw [hv9, hgj]; go_simp
      have b2 : v9.cell? ⟨gj, 2, none⟩ = some (.slice none 0 0) := by rw [hv9, hgj]; go_simp
      have HN := Lib.hid (HN.out.mono (ok' := fun b => b ≠ gj) (fun b _ hlt => by omega)); have HKc := Lib.hid (HKc.out.later hb9); have R := Lib.hid (RdT.later R.out hb9); have RX := Lib.hid (RX.out.later hb9); have HBV := Lib.hid (HBV.out.trans (hb9.mono HBV.out.size)); have RK9 := Lib.hid (RK9.out.later hb9); have HN := Lib.hid (HN.out.later hb9); have HZ : Hid (Kept [(⟨gj, 0, none⟩, .slice none 0 0), (⟨gj, 1, none⟩, .slice none 0 0), (⟨gj, 2, none⟩, .slice none 0 0)] v5 v9) := (((Kept.nil_of HBV.out).cons_of b2).cons_of b1).cons_of b0; have HF : Hid (Free gj v9) := ⟨by rw [hv9, hgj]; simp, fun j => by rw [hv9, hgj]; go_simp⟩; have hlt9 : gj < v9.heap.size := HF.out.1; (try rw [← hv9] at hHeld); rw [← hv9]; rw [← hgj]; clear hgj hv9 hb9 b0 b1 b2; have z0 := HZ.out.c0; have z1 := HZ.out.c1; have z2 := HZ.out.c2; have m0 := HF.out.2 0; have m1 := HF.out.2 1; have m2 := HF.out.2 2; refine Tc 8 (fun K hK => ?_)
      go_simp; refine Th hK ?_ (fun hHeld2 => ?_)
      ·(try dsimp only)
       have h9 := HKc.out
       have h9 := h9.set (a := ⟨gj, 0, none⟩) hwg (fun x hx => by simp at hx; rcases hx with rfl | rfl | rfl | rfl | rfl | rfl | rfl <;> (dsimp only; omega)) (.slice Je je1 je2)
       have h9 := h9.set (a := ⟨gj, 1, none⟩) hwg (fun x hx => by simp at hx; rcases hx with rfl | rfl | rfl | rfl | rfl | rfl | rfl <;> (dsimp only; omega)) (.slice Jk jk1 jk2)
       have h9 := h9.set (a := ⟨gj, 2, none⟩) hwg (fun x hx => by simp at hx; rcases hx with rfl | rfl | rfl | rfl | rfl | rfl | rfl <;> (dsimp only; omega)) (.slice Jc jc1 jc2)
       exact ⟨h9.c0, h9.c1, h9.c2, h9.c3, h9.c4, h9.c5, h9.c6⟩
      clear hK K hHeld; have hHeld := hHeld2; clear hHeld2; refine Tk 9 10 ?_; refine wpAnyH_done (by kernel_rfl) ?_ _; clear hHeld
      have HMID : Hid (MidJ v5 gj ⟨kj, ⟨Je, je1, je2⟩, ⟨Jk, jk1, jk2⟩, ⟨Jc, jc1, jc2⟩⟩ (((v9.setCell ⟨gj, 0, none⟩ (.slice Je je1 je2)).setCell ⟨gj, 1, none⟩ (.slice Jk jk1 jk2)).setCell ⟨gj, 2, none⟩ (.slice Jc jc1 jc2))) := by
       obtain ⟨W9, hW9⟩ : ∃ W, W = (((v9.setCell ⟨gj, 0, none⟩ (.slice Je je1 je2)).setCell ⟨gj, 1, none⟩ (.slice Jk jk1 jk2)).setCell ⟨gj, 2, none⟩ (.slice Jc jc1 jc2)) := ⟨_, rfl⟩; rw [← hW9]
       have hb : Below v5.heap.size v5 W9 := by
        rw [hW9]; exact (((HBV.out.setCell (p := ⟨gj, 0, none⟩) hvg _).setCell (p := ⟨gj, 1, none⟩) hvg _).setCell (p := ⟨gj, 2, none⟩) hvg _)
       refine ⟨(HN.out.keep (by rw [hW9, cells3]; exact Nat.le_refl _) (fun b hb _ => by rw [hW9]; exact cells3_at b hb)).rd, ?_⟩
       refine (((Kept.nil_of hb).cons_of ?_).cons_of ?_).cons_of ?_ <;> (rw [hW9]; go_simp)
      clear z0 z1 z2 m0 m1 m2; go_wp2_with fail; go_meet; exact ⟨gj, ⟨kj, ⟨Je, je1, je2⟩, ⟨Jk, jk1, jk2⟩, ⟨Jc, jc1, jc2⟩⟩, rfl, rfl, HMID.out, HP.out⟩
     ·go_simp
      clear hHeld; refine Th hK ?_ (fun hHeld => ?_)
      ·exact ⟨(HKc.out.alloc _).c0, (HKc.out.alloc _).c1, (HKc.out.alloc _).c2, (HKc.out.alloc _).c3, (HKc.out.alloc _).c4, (HKc.out.alloc _).c5, (HKc.out.alloc _).c6⟩
      clear hK K; obtain ⟨gj, hgj⟩ : ∃ g, g = v7.heap.size := ⟨_, rfl⟩; obtain ⟨v8, hv8⟩ : ∃ W, W = v7.alloc (.cells #[.slice none 0 0, .slice none 0 0, .slice none 0 0] 33) := ⟨_, rfl⟩
      have hb9 : Below v7.heap.size v7 v8 := by rw [hv8]; exact Dt.box_below _ _ _
      have hvg : v5.heap.size ≤ gj := by rw [hgj]; exact HBV.out.size
      have hwg : w.heap.size ≤ gj := by rw [hgj]; exact HKc.out.below.size
      have hng : g ≠ gj := by have h := World.block_lt_of_cell? v7 _ HKc.out.c0; dsimp only at h; omega
      have hnp : p ≠ gj := by have h := World.block_lt_of_cell? v7 _ HKc.out.c3; dsimp only at h; omega
      have hnq : q ≠ gj := by have h := World.block_lt_of_cell? v7 _ HKc.out.c5; dsimp only at h; omega
      have b0 : v8.cell? ⟨gj, 0, none⟩ = some (.slice none 0 0) := by rw [hv8, hgj]; go_simp
      have b1 : v8.cell? ⟨gj, 1, none⟩ = some (.slice none 0 0) := by rw [hv8, hgj]; go_simp
      have b2 : v8.cell? ⟨gj, 2, none⟩ = some (.slice none 0 0) := by rw [hv8, hgj]; go_simp
      have HKc := Lib.hid (HKc.out.later hb9); have R := Lib.hid (RdT.later R.out hb9); have RX := Lib.hid (RX.out.later hb9); have HBV := Lib.hid (HBV.out.trans (hb9.mono HBV.out.size)); have RK9 := Lib.hid (RK9.out.later hb9); have HZ : Hid (Kept [(⟨gj, 0, none⟩, .slice none 0 0), (⟨gj, 1, none⟩, .slice none 0 0), (⟨gj, 2, none⟩, .slice none 0 0)] v5 v8) := (((Kept.nil_of HBV.out).cons_of b2).cons_of b1).cons_of b0; have HF : Hid (Free gj v8) := ⟨by rw [hv8, hgj]; simp, fun j => by rw [hv8, hgj]; go_simp⟩; have hlt9 : gj < v8.heap.size := HF.out.1; (try rw [← hv8] at hHeld); rw [← hv8]; rw [← hgj]; clear hgj hv8 hb9 b0 b1 b2; refine Tc 3 (fun K hK => ?_); go_simp; (go_at_call 18; refine (joinE_any (t, u).1 kx.1 (t, u).2 kx.2 Ae Ak B9 Xe Xk Xc ne nk ce ck m9 d9 xe1 xk1 xe2 xk2 xc1 xc2 v8 (by have := N.out; show nodes t ≤ 1000; omega) RK9.out.len (by have := HU.out.2.2; omega) RK9.out.tree RK9.out.ctx (by rw [KX.out, nodes_one]; omega) RX.out.len (by have := BX.out; omega) RX.out.tree RX.out.ctx).mono ?_)
      rintro e v9 ⟨kj, z9, hj, Je, je1, je2, Jk, jk1, jk2, Jc, jc1, jc2, rfl, how, hb9⟩; obtain ⟨rfl, hjj, _⟩ := hj.1 ⟨JT.out, JX.out⟩; have HP : Hid (IsJ (t, u) kx kj) := hjj; have HN : Hid (NoC v9 (fun b => b ≠ gj) ⟨kj, ⟨Je, je1, je2⟩, ⟨Jk, jk1, jk2⟩, ⟨Jc, jc1, jc2⟩⟩) := NoC.of_own how (fun b hb _ => by have h := HF.out.1; omega); clear hj hjj how; have HKc := Lib.hid (HKc.out.later hb9); have R := Lib.hid (RdT.later R.out hb9); have RX := Lib.hid (RX.out.later hb9); have HBV := Lib.hid (HBV.out.trans (hb9.mono HBV.out.size)); have RK9 := Lib.hid (RK9.out.later hb9); have HZ := Lib.hid (HZ.out.later hb9); have HF := Lib.hid (HF.out.later hb9); clear hb9; have z0 := HZ.out.c0; have z1 := HZ.out.c1; have z2 := HZ.out.c2; have m0 := HF.out.2 0; have m1 := HF.out.2 1; have m2 := HF.out.2 2; clear hHeld; refine Th hK ?_ (fun hHeld => ?_)
      ·exact ⟨HKc.out.c0, HKc.out.c1, HKc.out.c2, HKc.out.c3, HKc.out.c4, HKc.out.c5, HKc.out.c6⟩
      clear hK K; refine Tk 4 33 ?_; refine Tk 5 38 ?_; refine Tk 6 39 ?_; refine Tc 8 (fun K hK => ?_); go_simp; refine Th hK ?_ (fun hHeld2 => ?_)
      ·(try dsimp only)
       have h9 := HKc.out
       have h9 := h9.set (a := ⟨gj, 0, none⟩) hwg (fun x hx => by simp at hx; rcases hx with rfl | rfl | rfl | rfl | rfl | rfl | rfl <;> (dsimp only; omega)) (.slice Je je1 je2)
       have h9 := h9.set (a := ⟨gj, 1, none⟩) hwg (fun x hx => by simp at hx; rcases hx with rfl | rfl | rfl | rfl | rfl | rfl | rfl <;> (dsimp only; omega)) (.slice Jk jk1 jk2)
       have h9 := h9.set (a := ⟨gj, 2, none⟩) hwg (fun x hx => by simp at hx; rcases hx with rfl | rfl | rfl | rfl | rfl | rfl | rfl <;> (dsimp only; omega)) (.slice Jc jc1 jc2)
       exact ⟨h9.c0, h9.c1, h9.c2, h9.c3, h9.c4, h9.c5, h9.c6⟩
      clear hK K hHeld; have hHeld := hHeld2; clear hHeld2; refine Tk 9 10 ?_; refine wpAnyH_done (by kernel_rfl) ?_ _; clear hHeld
      have HMID : Hid (MidJ v5 gj ⟨kj, ⟨Je, je1, je2⟩, ⟨Jk, jk1, jk2⟩, ⟨Jc, jc1, jc2⟩⟩ (((v9.setCell ⟨gj, 0, none⟩ (.slice Je je1 je2)).setCell ⟨gj, 1, none⟩ (.slice Jk jk1 jk2)).setCell ⟨gj, 2, none⟩ (.slice Jc jc1 jc2))) := by
       obtain ⟨W9, hW9⟩ : ∃ W, W = (((v9.setCell ⟨gj, 0, none⟩ (.slice Je je1 je2)).setCell ⟨gj, 1, none⟩ (.slice Jk jk1 jk2)).setCell ⟨gj, 2, none⟩ (.slice Jc jc1 jc2)) := ⟨_, rfl⟩; rw [← hW9]
       have hb : Below v5.heap.size v5 W9 := by
        rw [hW9]; exact (((HBV.out.setCell (p := ⟨gj, 0, none⟩) hvg _).setCell (p := ⟨gj, 1, none⟩) hvg _).setCell (p := ⟨gj, 2, none⟩) hvg _)
       refine ⟨(HN.out.keep (by rw [hW9, cells3]; exact Nat.le_refl _) (fun b hb _ => by rw [hW9]; exact cells3_at b hb)).rd, ?_⟩
       refine (((Kept.nil_of hb).cons_of ?_).cons_of ?_).cons_of ?_ <;> (rw [hW9]; go_simp)
      clear z0 z1 z2 m0 m1 m2; go_wp2_with fail; go_meet; exact ⟨gj, ⟨kj, ⟨Je, je1, je2⟩, ⟨Jk, jk1, jk2⟩, ⟨Jc, jc1, jc2⟩⟩, rfl, rfl, HMID.out, HP.out⟩
    ·go_simp
     clear hHeld; refine Th hK ?_ (fun hHeld => ?_)
     ·exact ⟨(HKc.out.alloc _).c0, (HKc.out.alloc _).c1, (HKc.out.alloc _).c2, (HKc.out.alloc _).c3, (HKc.out.alloc _).c4, (HKc.out.alloc _).c5, (HKc.out.alloc _).c6⟩
     clear hK K; obtain ⟨gj, hgj⟩ : ∃ g, g = v6.heap.size := ⟨_, rfl⟩; obtain ⟨v7, hv7⟩ : ∃ W, W = v6.alloc (.cells #[.slice none 0 0, .slice none 0 0, .slice none 0 0] 33) := ⟨_, rfl⟩
     have hb9 : Below v6.heap.size v6 v7 := by rw [hv7]; exact Dt.box_below _ _ _
     have hvg : v5.heap.size ≤ gj := by rw [hgj]; exact HBV.out.size
     have hwg : w.heap.size ≤ gj := by rw [hgj]; exact HKc.out.below.size
     have hng : g ≠ gj := by have h := World.block_lt_of_cell? v6 _ HKc.out.c0; dsimp only at h; omega
     have hnp : p ≠ gj := by have h := World.block_lt_of_cell? v6 _ HKc.out.c3; dsimp only at h; omega
     have hnq : q ≠ gj := by have h := World.block_lt_of_cell? v6 _ HKc.out.c5; dsimp only at h; omega
     have b0 : v7.cell? ⟨gj, 0, none⟩ = some (.slice none 0 0) := by rw [hv7, hgj]; go_simp
     have b1 : v7.cell? ⟨gj, 1, none⟩ = some (.slice none 0 0) := by rw [hv7, hgj]; go_simp
     have b2 : v7.cell? ⟨gj, 2, none⟩ = some (.slice none 0 0) := by rw [hv7, hgj]; go_simp
     have HKc := Lib.hid (HKc.out.later hb9); have R := Lib.hid (RdT.later R.out hb9); have RX := Lib.hid (RX.out.later hb9); have HBV := Lib.hid (HBV.out.trans (hb9.mono HBV.out.size)); have HZ : Hid (Kept [(⟨gj, 0, none⟩, .slice none 0 0), (⟨gj, 1, none⟩, .slice none 0 0), (⟨gj, 2, none⟩, .slice none 0 0)] v5 v7) := (((Kept.nil_of HBV.out).cons_of b2).cons_of b1).cons_of b0; have HF : Hid (Free gj v7) := ⟨by rw [hv7, hgj]; simp, fun j => by rw [hv7, hgj]; go_simp⟩; have hlt9 : gj < v7.heap.size := HF.out.1; (try rw [← hv7] at hHeld); rw [← hv7]; rw [← hgj]; clear hgj hv7 hb9 b0 b1 b2; refine Tc 1 (fun K hK => ?_); go_simp; (go_at_call 19; refine (refknown_any t Ae Ak ne nk ce ck u m9 v7 HT.out (by have := N.out; omega) R.out HU.out.1 HU.out.2.1 (by have := HU.out.2.2; omega)).mono ?_); rintro e v8 ⟨B9, d9, rfl, hro, hb9⟩; have RK9 : Hid (RdP v8 ⟨(t, u), ⟨Ae, ne, ce⟩, ⟨Ak, nk, ck⟩, ⟨B9, m9, d9⟩⟩) := ⟨RdT.later R.out hb9, HU.out.2.1, hro.rd⟩
     clear hro; have HKc := Lib.hid (HKc.out.later hb9); have R := Lib.hid (RdT.later R.out hb9); have RX := Lib.hid (RX.out.later hb9); have HBV := Lib.hid (HBV.out.trans (hb9.mono HBV.out.size)); have HZ := Lib.hid (HZ.out.later hb9); have HF := Lib.hid (HF.out.later hb9); clear hb9; clear hHeld; refine Th hK ?_ (fun hHeld => ?_)
     ·exact ⟨HKc.out.c0, HKc.out.c1, HKc.out.c2, HKc.out.c3, HKc.out.c4, HKc.out.c5, HKc.out.c6⟩
     clear hK K; refine Tc 3 (fun K hK => ?_); go_simp; (go_at_call 18; refine (joinE_any (t, u).1 kx.1 (t, u).2 kx.2 Ae Ak B9 Xe Xk Xc ne nk ce ck m9 d9 xe1 xk1 xe2 xk2 xc1 xc2 v8 (by have := N.out; show nodes t ≤ 1000; omega) RK9.out.len (by have := HU.out.2.2; omega) RK9.out.tree RK9.out.ctx (by rw [KX.out, nodes_one]; omega) RX.out.len (by have := BX.out; omega) RX.out.tree RX.out.ctx).mono ?_); rintro e v9 ⟨kj, z9, hj, Je, je1, je2, Jk, jk1, jk2, Jc, jc1, jc2, rfl, how, hb9⟩; obtain ⟨rfl, hjj, _⟩ := hj.1 ⟨JT.out, JX.out⟩; have HP : Hid (IsJ (t, u) kx kj) := hjj; have HN : Hid (NoC v9 (fun b => b ≠ gj) ⟨kj, ⟨Je, je1, je2⟩, ⟨Jk, jk1, jk2⟩, ⟨Jc, jc1, jc2⟩⟩) := NoC.of_own how (fun b hb _ => by have h := HF.out.1; omega); clear hj hjj how; have HKc := Lib.hid (HKc.out.later hb9); have R := Lib.hid (RdT.later R.out hb9); have RX := Lib.hid (RX.out.later hb9); have HBV := Lib.hid (HBV.out.trans (hb9.mono HBV.out.size))
     have HZ := Lib.hid (HZ.out.later hb9); have HF := Lib.hid (HF.out.later hb9); have RK9 := Lib.hid (RK9.out.later hb9); clear hb9; have z0 := HZ.out.c0; have z1 := HZ.out.c1; have z2 := HZ.out.c2; have m0 := HF.out.2 0; have m1 := HF.out.2 1; have m2 := HF.out.2 2; clear hHeld; refine Th hK ?_ (fun hHeld => ?_)
     ·exact ⟨HKc.out.c0, HKc.out.c1, HKc.out.c2, HKc.out.c3, HKc.out.c4, HKc.out.c5, HKc.out.c6⟩
     clear hK K; refine Tk 4 33 ?_; refine Tk 5 38 ?_; refine Tk 6 39 ?_; refine Tc 8 (fun K hK => ?_); go_simp; refine Th hK ?_ (fun hHeld2 => ?_)
     ·(try dsimp only)
      have h9 := HKc.out
      have h9 := h9.set (a := ⟨gj, 0, none⟩) hwg (fun x hx => by simp at hx; rcases hx with rfl | rfl | rfl | rfl | rfl | rfl | rfl <;> (dsimp only; omega)) (.slice Je je1 je2)
      have h9 := h9.set (a := ⟨gj, 1, none⟩) hwg (fun x hx => by simp at hx; rcases hx with rfl | rfl | rfl | rfl | rfl | rfl | rfl <;> (dsimp only; omega)) (.slice Jk jk1 jk2)
      have h9 := h9.set (a := ⟨gj, 2, none⟩) hwg (fun x hx => by simp at hx; rcases hx with rfl | rfl | rfl | rfl | rfl | rfl | rfl <;> (dsimp only; omega)) (.slice Jc jc1 jc2)
      exact ⟨h9.c0, h9.c1, h9.c2, h9.c3, h9.c4, h9.c5, h9.c6⟩
     clear hK K hHeld; have hHeld := hHeld2; clear hHeld2; refine Tk 9 10 ?_; refine wpAnyH_done (by kernel_rfl) ?_ _; clear hHeld
     have HMID : Hid (MidJ v5 gj ⟨kj, ⟨Je, je1, je2⟩, ⟨Jk, jk1, jk2⟩, ⟨Jc, jc1, jc2⟩⟩ (((v9.setCell ⟨gj, 0, none⟩ (.slice Je je1 je2)).setCell ⟨gj, 1, none⟩ (.slice Jk jk1 jk2)).setCell ⟨gj, 2, none⟩ (.slice Jc jc1 jc2))) := by
      obtain ⟨W9, hW9⟩ : ∃ W, W = (((v9.setCell ⟨gj, 0, none⟩ (.slice Je je1 je2)).setCell ⟨gj, 1, none⟩ (.slice Jk jk1 jk2)).setCell ⟨gj, 2, none⟩ (.slice Jc jc1 jc2)) := ⟨_, rfl⟩; rw [← hW9]
      have hb : Below v5.heap.size v5 W9 := by
       rw [hW9]; exact (((HBV.out.setCell (p := ⟨gj, 0, none⟩) hvg _).setCell (p := ⟨gj, 1, none⟩) hvg _).setCell (p := ⟨gj, 2, none⟩) hvg _)
      refine ⟨(HN.out.keep (by rw [hW9, cells3]; exact Nat.le_refl _) (fun b hb _ => by rw [hW9]; exact cells3_at b hb)).rd, ?_⟩
      refine (((Kept.nil_of hb).cons_of ?_).cons_of ?_).cons_of ?_ <;> (rw [hW9]; go_simp)
     clear z0 z1 z2 m0 m1 m2; go_wp2_with fail; go_meet; exact ⟨gj, ⟨kj, ⟨Je, je1, je2⟩, ⟨Jk, jk1, jk2⟩, ⟨Jc, jc1, jc2⟩⟩, rfl, rfl, HMID.out, HP.out⟩
   case rest =>
    obtain ⟨wcgj, hwcgj⟩ : ∃ W, W = wc := ⟨_, rfl⟩; subst hwcgj; obtain ⟨gj, ⟨kj, ⟨Je, je1, je2⟩, ⟨Jk, jk1, jk2⟩, ⟨Jc, jc1, jc2⟩⟩, rfl, rfl, hmid, hprop⟩ := hcut; obtain ⟨hrp, hkp⟩ := hmid.out; have hb9 := hkp.below; have HKc := Lib.hid (HKc.out.later hb9); have R := Lib.hid (RdT.later R.out hb9); have RX := Lib.hid (RX.out.later hb9); clear hb9; have RJ := Lib.hid hrp; have PJ : Hid (IsJ (t, u) kx kj) := hprop.out; have HKc : Hid (Kept [(⟨gj, 0, none⟩, .slice Je je1 je2), (⟨gj, 1, none⟩, .slice Jk jk1 jk2), (⟨gj, 2, none⟩, .slice Jc jc1 jc2), (⟨g, 0, none⟩, .slice Xe xe1 xe2), (⟨g, 1, none⟩, .slice Xk xk1 xk2), (⟨g, 2, none⟩, .slice Xc xc1 xc2), (⟨p, 0, none⟩, .slice Ae ne ce), (⟨p, 1, none⟩, .slice Ak nk ck), (⟨q, 0, none⟩, .int .i64 a), (⟨q, 1, none⟩, .int .i64 n)] w wcgj) := (((HKc.out.cons_of hkp.c2).cons_of hkp.c1).cons_of hkp.c0); clear hmid hprop hrp hkp
    have EJ : Hid (kj.1.es = [⟨a, n, tx, 0⟩]) := by
     refine reg_es (c := (t, u)) (r := kj) (e := ⟨a, n, tx, 0⟩) (w := u8) (v := kx.2) JT.out H8.out.1 HE.out ?_ VX.out ?_
     ·show hasC u a n = false
      rw [has_dl HT.out HU.out.1, decide_eq_false (check_iff.1 HCK.out).2.2]
     ·rw [show (oneT ⟨a, n, tx, 0⟩, kx.2) = kx from Prod.ext KX.out.symm rfl]
      exact PJ.out
    have NJ : Hid (nodes kj.1 ≤ 62) := by
     have h := isj_nodes PJ.out; rw [KX.out, nodes_one] at h; have h2 := N.out; dsimp only at h; unfold Hid; omega
    have JJ := Lib.hid (PJ.out.right JT.out JX.out); have HVM := Lib.hid (vals_one (t := kj.1) (e := ⟨a, n, tx, 0⟩) JJ.out.tree EJ.out); have c0 := HKc.out.c0; have c1 := HKc.out.c1; have c2 := HKc.out.c2; have c3 := HKc.out.c3; have c4 := HKc.out.c4; have c5 := HKc.out.c5; have c6 := HKc.out.c6; have c7 := HKc.out.c7; have c8 := HKc.out.t8.c0; have c9 := HKc.out.t8.c1; go_wp2_with fail; refine (rvalues_any kj.1 Je Jk je1 jk1 je2 jk2 wcgj [tx] 1 HVM.out rfl (LenT.few (by have := NJ.out; omega)) (by have := NJ.out; omega) RJ.out.tree).mono ?_; rintro e v6 ⟨Vl, vc, rfl, hro, hb9⟩; have HKc := Lib.hid (HKc.out.later hb9); have R := Lib.hid (RdT.later R.out hb9); have RX := Lib.hid (RX.out.later hb9); have RJ := Lib.hid (RJ.out.later hb9); clear hb9; clear c0 c1 c2 c3 c4 c5 c6 c7 c8 c9; have RV := Lib.hid hro.out; clear hro; obtain ⟨gs, hgs⟩ : ∃ g, g = v6.heap.size := ⟨_, rfl⟩; obtain ⟨v7, hv7⟩ : ∃ W, W = v6.alloc (.cells #[.string tx] 9) := ⟨_, rfl⟩
    have hb9 : Below v6.heap.size v6 v7 := by rw [hv7]; exact Dt.box_below _ _ _
    have HKc := Lib.hid (HKc.out.later hb9); have R := Lib.hid (RdT.later R.out hb9); have RX := Lib.hid (RX.out.later hb9); have RJ := Lib.hid (RJ.out.later hb9); have RV := Lib.hid (RV.out.later hb9); clear hb9
    have RS : Hid (Rd v7 v7.heap.size 1 (some ⟨gs, 0, none⟩) 1 1 (strs [tx])) := by unfold Hid; rw [hv7, hgs]; exact rd_one1 _ _
    have Hgs := Lib.hid hgs; have Hv7 := Lib.hid hv7; clear hgs hv7; have c0 := HKc.out.c0; have c1 := HKc.out.c1; have c2 := HKc.out.c2; have c3 := HKc.out.c3; have c4 := HKc.out.c4; have c5 := HKc.out.c5; have c6 := HKc.out.c6; have c7 := HKc.out.c7; have c8 := HKc.out.t8.c0; have c9 := HKc.out.t8.c1; rw [Hv7.out] at c0 c1 c2 c3 c4 c5 c6 c7 c8 c9; go_wp2_with fail; rw [← Hgs.out, ← Hv7.out]; refine (refalike_any [tx] [tx] 1 1 Vl (some ⟨gs, 0, none⟩) vc 1 v7 (by omega) RV.out RS.out true (decide_eq_true rfl)).mono ?_; rintro e v8 ⟨rfl, hb9⟩; have HKc := Lib.hid (HKc.out.later hb9); have R := Lib.hid (RdT.later R.out hb9); have RX := Lib.hid (RX.out.later hb9); have RJ := Lib.hid (RJ.out.later hb9); have RV := Lib.hid (RV.out.later hb9); have RS := Lib.hid (RS.out.later hb9); clear hb9; clear c0 c1 c2 c3 c4 c5 c6 c7 c8 c9; go_wp2_with fail; go_ret; exact ⟨by first | rfl | simp, HKc.out.below⟩
set_option maxRecDepth 100000 in
theorem lifted (os : Os) (started : os.Started) (H : Type) (enc : TypeId × Value → H) :
  ReturnsInHanded {} Tryz.checked os 5 .any (Rows.registerTurnsSpec.pre6 enc Tryz.prog Tryz.f5 Rows.registerTurnsRow.domain false) (Rows.registerTurnsSpec.post enc Tryz.prog Tryz.f5 false true false false) := by
 refine returnsInHanded_of_change_sized (C := Tryz.checked) own started (by kernel_rfl) Tryz.func5
  (ChangeSpec.witness6 (enc := enc) (C := Tryz.checked) false ⟨#[], #[.agg #[.slice none 0 0, .slice none 0 0], .string ByteArray.empty, .agg #[.int .i64 0, .int .i64 0]], []⟩ 8 (by kernel_rfl) (by kernel_rfl) (by kernel_rfl) (by kernel_rfl)) ?_
 intro W base args ds gs before hval0 hW _ hsz0 _; have hval : ∀ (j : Nat) t v, Tryz.f5.params[j]? = some t → args[j]? = some v → Value.okWide Tryz.prog W .any base t v := hval0; have hW' := hW; obtain ⟨p, q, hA0, hV, rfl, hfz, hnd⟩ := hW; have hA : DataW.TrodAll enc Tryz.prog W 0 (fun _ => true) true Tryz.f5.params.toList args.toList ds p := hA0; rw [Tryz.params5] at hA hval; obtain ⟨v0, v1, v2, d0, d1, d2, p0, p1, p2, rfl, rfl, rfl, h0, h1, h2⟩ := trodAll_three hA; obtain ⟨rfl, rfl⟩ := trodVars_none hV; have hsz : (DataW.weightsEach Tryz.prog (25 :: 9 :: 27 :: _) (d0 :: d1 :: d2 :: _)).all (· ≤ reachBytes) = true := hsz0; obtain ⟨hw0, hsz⟩ := Tr.weights_head hsz; obtain ⟨t0, ae0, ak0, ne0, nk0, ce0, ck0, rfl, hr0, hl0⟩ := Tr.treeV_of_trod (hval 0 25 v0 rfl rfl) h0 hw0
 obtain ⟨s1, rfl, rfl, rfl, hs1⟩ := Go.ChangeMaps.open_string Tryz.underlying9 (hval 1 9 v1 rfl rfl) h1; obtain ⟨da2, dn2, rfl, _, _⟩ := Dt.dot_of_trod (hval 2 27 v2 rfl rfl) h2; refine (walk_any t0 ae0 ak0 ne0 nk0 ce0 ck0 s1 da2 dn2 W hr0 hl0 ).mono fun e W' ⟨he, hb⟩ => ?_; subst he; exact ⟨_, rfl, law_post hW' (by kernel_rfl) rfl rfl rfl hb⟩
theorem proved : Rows.RegisterTurnsSaid :=
 OpenClaim.holds_of_wide 5 Tryz.f5 rfl rfl rfl rfl rfl rfl rfl ⟨rfl, rfl, rfl, rfl, rfl⟩ rfl rfl rfl rfl rfl (by kernel_rfl) Tryz.func5 (by kernel_rfl)
  (of_decide_eq_true (by kernel_rfl)) (by unfold Func.isWrapper; first | (rw [if_pos (by decide +kernel)]; kernel_rfl) | (rw [if_neg (by decide +kernel)]; exact ⟨rfl, rfl⟩))
  (fun os started H enc _ => lifted os started H enc)
#print axioms proved
end lawRegisterTurns
end Go.Proofs.YtnlojpolfkjkoaaGreat
