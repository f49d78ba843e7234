/- CounterAll: a law, walked, and proved. -/
import Derived.Test.YtolanjimmbpijaaGreatG00
import Derived.Test.YtolanjimmbpijaaGreatG140
import Derived.Test.YtolanjimmbpijaaGreatDltRef
import Derived.Test.YtolanjimmbpijaaGreatCauJoin
import Derived.Test.YtolanjimmbpijaaGreatCauAll
import Derived.Test.YtolanjimmbpijaaGreatCauOwnRef
import Derived.Test.YtolanjimmbpijaaGreatG150
import Derived.Test.YtolanjimmbpijaaGreatG1550
open Go.ChangeShapes Go.WideShapes Go.ChangeAt Go.RowKit
namespace Go.Proofs.YtolanjimmbpijaaGreat
namespace lawCounterAll
open Tr Cx Cs Sp Rw Classical
theorem boxL (w : World) (Ae Ak : Option Addr) (ne nk ce ck : Nat)  : ∃ (W : World) (p : Nat), Hid (W = (w.alloc (.cells #[.slice Ae ne ce, .slice Ak nk ck] 25))) ∧ Hid (p = w.heap.size) ∧  Hid (Kept [(⟨p, 0, none⟩, .slice Ae ne ce), (⟨p, 1, none⟩, .slice Ak nk ck)] w W) := by
 refine ⟨_, _, rfl, rfl, ?_⟩; have h0 := Kept.nil_of (show Below w.heap.size w ((w.alloc (.cells #[.slice Ae ne ce, .slice Ak nk ck] 25))) from (Below.refl _ _).alloc (Nat.le_refl _) _)
 refine ((h0).cons_of ?_).cons_of ?_ <;> go_simp
set_option maxRecDepth 100000 in
set_option maxHeartbeats 4000000 in
theorem walk_any (t : T) (Ae Ak : Option Addr) (ne nk ce ck : Nat) (li : List Int) (Al : Option Addr) (nl cl : Nat) (w : World) (hr : RdT w w.heap.size t ⟨Ae, ne, ce⟩ ⟨Ak, nk, ck⟩) (hl : LenT reachBytes t) (hli : li.length = nl) (hri : Rd w w.heap.size 1 Al nl cl (i32C li)) (hbi : ∀ y ∈ li, -2147483648 ≤ y ∧ y ≤ 2147483647) :
  Calls Tryz.prog 4 #[.agg #[.slice Ae ne ce, .slice Ak nk ck], .slice Al nl cl] w fun e w' => e = .returned (.bool true) ∧ Below w.heap.size w w' := by
 obtain ⟨W, p, HW, HP, HKc⟩ := boxL w Ae Ak ne nk ce ck ; have HR0 := Lib.hid hr; have R := Lib.hid (RdT.later hr HKc.out.below); have L := Lib.hid hl; have HLI := Lib.hid hli; have HRI := Lib.hid hri; have HBI := Lib.hid hbi; clear hli hri hbi; clear hr hl; have c0 := HKc.out.c0; have c1 := HKc.out.c1; go_enter Tryz.func4, Tryz.ntmps4; go_wp2_with fail; rw [← HW.out, ← HP.out]; refine (awake12 W).mono ?_; rintro e v1 ⟨rfl, hb9⟩; have HKc := Lib.hid (HKc.out.later hb9); have R := Lib.hid (RdT.later R.out hb9); clear hb9; clear c0 c1; have c0 := HKc.out.c0; have c1 := HKc.out.c1; go_wp2_with fail; refine (small_tree t Ae Ak ne nk ce ck v1 L.out R.out).mono ?_; rintro e v2 ⟨b9, rfl, hsm, hb9⟩; have HKc := Lib.hid (HKc.out.later hb9); have R := Lib.hid (RdT.later R.out hb9); clear hb9; clear c0 c1
 cases b9 with
 | false =>
  clear hsm; go_wp2_with fail; refine (awake12 _).mono ?_; rintro e v99 ⟨rfl, hb9⟩; have HKc := Lib.hid (HKc.out.later hb9); clear hb9; go_wp2_with fail; go_ret; exact ⟨by first | rfl | simp, HKc.out.below⟩
 | true =>
  have N : Hid (nodes t ≤ 60) := hsm rfl; clear hsm; obtain ⟨y, hy9⟩ : ∃ y, Tr.rightB 5 t = y := ⟨_, rfl⟩; have HY := Lib.hid hy9; clear hy9; have c0 := HKc.out.c0; have c1 := HKc.out.c1; go_wp2_with fail; refine (refrightT_any t Ae Ak ne nk ce ck v2 L.out R.out).mono ?_; rw [HY.out]; rintro e v3 ⟨rfl, hb9⟩; have HKc := Lib.hid (HKc.out.later hb9); have R := Lib.hid (RdT.later R.out hb9); clear hb9; clear c0 c1
  cases y with
  | false =>
   have c0 := HKc.out.c0; have c1 := HKc.out.c1; go_wp2_with fail; refine (awake12 _).mono ?_; rintro e v99 ⟨rfl, hb9⟩; have HKc := Lib.hid (HKc.out.later hb9); clear hb9; go_wp2_with fail; go_ret; exact ⟨by first | rfl | simp, HKc.out.below⟩
  | true =>
   have HLE : Hid (t.es.length = ne) := by
    have h := R.out; rw [← T.eta t] at h; exact (rd_lens h).1
   have HT : Hid (RightT 5 t) := Tr.rightB_iff.1 HY.out
   by_cases h8 : 8 < nl
   ·have f8 : decide ((8 : Int) < (nl : Int)) = true := decide_eq_true (by omega)
    have c0 := HKc.out.c0; have c1 := HKc.out.c1; go_wp2_with fail; refine (awake12 _).mono ?_; rintro e v99 ⟨rfl, hb9⟩; have HKc := Lib.hid (HKc.out.later hb9); clear hb9; go_wp2_with fail; go_ret; exact ⟨by first | rfl | simp, HKc.out.below⟩
   ·have f8 : decide ((8 : Int) < (nl : Int)) = false := decide_eq_false (by omega)
    by_cases h24 : 24 ≤ ne
    ·have f24 : decide ((24 : Int) ≤ (ne : Int)) = true := decide_eq_true (by omega)
     have c0 := HKc.out.c0; have c1 := HKc.out.c1; go_wp2_with fail; refine (awake12 _).mono ?_; rintro e v99 ⟨rfl, hb9⟩; have HKc := Lib.hid (HKc.out.later hb9); clear hb9; go_wp2_with fail; go_ret; exact ⟨by first | rfl | simp, HKc.out.below⟩
    ·have f24 : decide ((24 : Int) ≤ (ne : Int)) = false := decide_eq_false (by omega)
     have HLL : Hid (t.es.length < 24) := by unfold Hid; rw [HLE.out]; omega
     obtain ⟨u, hu1, hu2⟩ := some_of HT.out L.out (by have := N.out; omega) R.out; obtain ⟨m9, hm9⟩ : ∃ m9, u.length = m9 := ⟨_, rfl⟩; have HU : Hid (OfC (dl t) u ∧ u.length = m9 ∧ m9 ≤ 240) := ⟨hu1, hm9, by have := N.out; omega⟩; clear hu1 hu2 hm9; have JT : Hid (RK (t, u)) := known_right HT.out HU.out.1; obtain ⟨sv, hsv⟩ : ∃ s : Int, sumE t.es = s := ⟨_, rfl⟩; have HSV := Lib.hid hsv
     have HSVB : Hid (-1099511627776000 ≤ sv ∧ sv ≤ 1099511627776000) := by
      have h1 := sum_take (small_v HT.out) t.es.length (by have := HLL.out; omega); rw [List.take_length, hsv] at h1; exact h1
     clear hsv; have c0 := HKc.out.c0; have c1 := HKc.out.c1; go_wp2_with fail; clear c0 c1
     go_cut [5, 6] (fun s9 e9 wx => ∃ (ga gb : Nat) (Ba Bb : Option Addr) (da db : Nat), s9 = .pointer (some ⟨ga, 0, none⟩) ∧ e9 = .pointer (some ⟨gb, 0, none⟩) ∧ Hid (MidK u v3 ⟨Ae, ne, ce⟩ ⟨Ak, nk, ck⟩ m9 ga gb Ba Bb da db wx))
     case first =>
      refine wp_region_held_drew (S := fun W => W.cell? ⟨p, 0, none⟩ = some (.slice Ae ne ce) ∧ W.cell? ⟨p, 1, none⟩ = some (.slice Ak nk ck)) (by kernel_rfl) (by have h9 := HKc.out.drew; exact ⟨h9.c0, h9.c1⟩) (fun hHeld => ?_); obtain ⟨v4, hv4⟩ : ∃ v, v = v3.drew := ⟨_, rfl⟩
      have hb9 : Below v3.heap.size v3 v4 := by rw [hv4]; exact (Below.refl _ _).drew
      have HKc := Lib.hid (HKc.out.later hb9); have R := Lib.hid (RdT.later R.out hb9); clear hb9; have HBV9 : Hid (v3.drew = v4) := hv4.symm; rw [← hv4] at hHeld ⊢; clear hv4
      have HBV : Hid (Below v3.heap.size v3 v4) := by unfold Hid; rw [← HBV9.out]; exact (Below.refl _ _).drew
      clear HBV9; refine Tk 0 42 ?_; refine Tk 2 44 ?_; refine wpAnyH_ready (rs := [1, 4, 5]) (by kernel_rfl) (by simp) ?_; refine AllReadyH.cons (o := ⟨some 43, _, _, _, _, _⟩) rfl (fun K hK => ?_) (AllReadyH.cons (o := ⟨some 5, _, _, _, _, _⟩) rfl (fun K hK => ?_) (AllReadyH.cons (o := ⟨some 6, _, _, _, _, _⟩) rfl (fun K hK => ?_) (AllReadyH.nil)))
      ·go_simp
       (go_at_call 10; refine (refknown_any t Ae Ak ne nk ce ck u m9 v4 HT.out (by have := N.out; omega) R.out HU.out.1 HU.out.2.1 (by have := HU.out.2.2; omega)).mono ?_); rintro e v5 ⟨Ba, da, rfl, hro, hb9⟩; have HRa : Hid (RO v5 (fun b => v3.heap.size ≤ b) 3 Ba m9 da (spsC u)) := hro.mono fun b hb _ => Nat.le_trans HBV.out.size hb; clear hro; have HKc := Lib.hid (HKc.out.later hb9); have R := Lib.hid (RdT.later R.out hb9); have HBV := Lib.hid (HBV.out.trans (hb9.mono HBV.out.size)); clear hb9; clear hHeld; refine Th hK ?_ (fun hHeld => ?_)
       ·exact ⟨HKc.out.c0, HKc.out.c1⟩
       clear hK K; refine wpAnyH_ready (rs := [3, 4, 5]) (by kernel_rfl) (by simp) ?_; refine AllReadyH.cons (o := ⟨some 45, _, _, _, _, _⟩) rfl (fun K hK => ?_) (AllReadyH.cons (o := ⟨some 5, _, _, _, _, _⟩) rfl (fun K hK => ?_) (AllReadyH.cons (o := ⟨some 6, _, _, _, _, _⟩) rfl (fun K hK => ?_) (AllReadyH.nil)))
       ·go_simp
        (go_at_call 10; refine (refknown_any t Ae Ak ne nk ce ck u m9 v5 HT.out (by have := N.out; omega) R.out HU.out.1 HU.out.2.1 (by have := HU.out.2.2; omega)).mono ?_); rintro e v6 ⟨Bb, db, rfl, hro, hb9⟩; have HRb : Hid (RO v6 (fun b => v3.heap.size ≤ b) 3 Bb m9 db (spsC u)) := hro.mono fun b hb _ => Nat.le_trans HBV.out.size hb; clear hro; have HKc := Lib.hid (HKc.out.later hb9); have R := Lib.hid (RdT.later R.out hb9); have HBV := Lib.hid (HBV.out.trans (hb9.mono HBV.out.size)); have HRa := Lib.hid (HRa.out.later hb9); clear hb9; clear hHeld; refine Th hK ?_ (fun hHeld => ?_)
        ·exact ⟨HKc.out.c0, HKc.out.c1⟩
        clear hK K; refine wpAnyH_ready (rs := [4, 5]) (by kernel_rfl) (by simp) ?_; refine AllReadyH.cons (o := ⟨some 5, _, _, _, _, _⟩) rfl (fun K hK => ?_) (AllReadyH.cons (o := ⟨some 6, _, _, _, _, _⟩) rfl (fun K hK => ?_) (AllReadyH.nil))
        ·go_simp
         clear hHeld; refine Th hK ?_ (fun hHeld => ?_)
         ·exact ⟨(HKc.out.alloc _).c0, (HKc.out.alloc _).c1⟩
         clear hK K; obtain ⟨ga, hga⟩ : ∃ g, g = v6.heap.size := ⟨_, rfl⟩; obtain ⟨v7, hv7⟩ : ∃ W, W = v6.alloc (.cells #[.slice none 0 0, .slice none 0 0, .slice none 0 0] 34) := ⟨_, rfl⟩
         have hb9 : Below v6.heap.size v6 v7 := by rw [hv7]; exact Dt.box_below _ _ _
         have hvga : v3.heap.size ≤ ga := by rw [hga]; exact HBV.out.size
         have hwga : w.heap.size ≤ ga := by rw [hga]; exact HKc.out.below.size
         have hnpa : p ≠ ga := by have h := World.block_lt_of_cell? v6 _ HKc.out.c0; dsimp only at h; omega
         have b0 : v7.cell? ⟨ga, 0, none⟩ = some (.slice none 0 0) := by rw [hv7, hga]; go_simp
         have b1 : v7.cell? ⟨ga, 1, none⟩ = some (.slice none 0 0) := by rw [hv7, hga]; go_simp
         have b2 : v7.cell? ⟨ga, 2, none⟩ = some (.slice none 0 0) := by rw [hv7, hga]; go_simp
         have HRa := Lib.hid (HRa.out.mono (ok' := fun b => v3.heap.size ≤ b ∧ b ≠ ga) (fun b hb hlt => ⟨hb, (by omega)⟩)); have HRb := Lib.hid (HRb.out.mono (ok' := fun b => v3.heap.size ≤ b ∧ b ≠ ga) (fun b hb hlt => ⟨hb, (by omega)⟩)); have HKc := Lib.hid (HKc.out.later hb9); have R := Lib.hid (RdT.later R.out hb9); have HBV := Lib.hid (HBV.out.trans (hb9.mono HBV.out.size)); have HRa := Lib.hid (HRa.out.later hb9); have HRb := Lib.hid (HRb.out.later hb9); have HZa : Hid (Kept [(⟨ga, 0, none⟩, .slice none 0 0), (⟨ga, 1, none⟩, .slice none 0 0), (⟨ga, 2, none⟩, .slice none 0 0)] v3 v7) := (((Kept.nil_of HBV.out).cons_of b2).cons_of b1).cons_of b0; have HFa : Hid (Free ga v7) := ⟨by rw [hv7, hga]; simp, fun j => by rw [hv7, hga]; go_simp⟩; (try rw [← hv7] at hHeld); rw [← hv7]; rw [← hga]; clear hga hv7 hb9 b0 b1 b2; refine Tc 5 (fun K hK => ?_); go_simp; clear hHeld; refine Th hK ?_ (fun hHeld => ?_)
         ·exact ⟨(HKc.out.alloc _).c0, (HKc.out.alloc _).c1⟩
         clear hK K; obtain ⟨gb, hgb⟩ : ∃ g, g = v7.heap.size := ⟨_, rfl⟩; obtain ⟨v8, hv8⟩ : ∃ W, W = v7.alloc (.cells #[.slice none 0 0, .slice none 0 0, .slice none 0 0] 34) := ⟨_, rfl⟩
         have hb9 : Below v7.heap.size v7 v8 := by rw [hv8]; exact Dt.box_below _ _ _
         have hvgb : v3.heap.size ≤ gb := by rw [hgb]; exact HBV.out.size
         have hwgb : w.heap.size ≤ gb := by rw [hgb]; exact HKc.out.below.size
         have hnpb : p ≠ gb := by have h := World.block_lt_of_cell? v7 _ HKc.out.c0; dsimp only at h; omega
         have hne : ga ≠ gb := by have h := HFa.out.1; omega
         have hne2 : gb ≠ ga := hne.symm
         have b0 : v8.cell? ⟨gb, 0, none⟩ = some (.slice none 0 0) := by rw [hv8, hgb]; go_simp
         have b1 : v8.cell? ⟨gb, 1, none⟩ = some (.slice none 0 0) := by rw [hv8, hgb]; go_simp
         have b2 : v8.cell? ⟨gb, 2, none⟩ = some (.slice none 0 0) := by rw [hv8, hgb]; go_simp
         have HRa := Lib.hid (HRa.out.mono (ok' := fun b => v3.heap.size ≤ b ∧ b ≠ ga ∧ b ≠ gb) (fun b hb hlt => ⟨hb.1, hb.2, (by omega)⟩)); have HRb := Lib.hid (HRb.out.mono (ok' := fun b => v3.heap.size ≤ b ∧ b ≠ ga ∧ b ≠ gb) (fun b hb hlt => ⟨hb.1, hb.2, (by omega)⟩)); have HKc := Lib.hid (HKc.out.later hb9); have R := Lib.hid (RdT.later R.out hb9); have HBV := Lib.hid (HBV.out.trans (hb9.mono HBV.out.size)); have HRa := Lib.hid (HRa.out.later hb9); have HRb := Lib.hid (HRb.out.later hb9); have HZa := Lib.hid (HZa.out.later hb9); have HFa := Lib.hid (HFa.out.later hb9); have HZb : Hid (Kept [(⟨gb, 0, none⟩, .slice none 0 0), (⟨gb, 1, none⟩, .slice none 0 0), (⟨gb, 2, none⟩, .slice none 0 0)] v3 v8) := (((Kept.nil_of HBV.out).cons_of b2).cons_of b1).cons_of b0; have HFb : Hid (Free gb v8) := ⟨by rw [hv8, hgb]; simp, fun j => by rw [hv8, hgb]; go_simp⟩; (try rw [← hv8] at hHeld); rw [← hv8]
         rw [← hgb]; clear hgb hv8 hb9 b0 b1 b2; have z0 := HZa.out.c0; have m0 := HFa.out.2 0; have z1 := HZa.out.c1; have m1 := HFa.out.2 1; have z2 := HZa.out.c2; have m2 := HFa.out.2 2; have z3 := HZb.out.c0; have m3 := HFb.out.2 0; have z4 := HZb.out.c1; have m4 := HFb.out.2 1; have z5 := HZb.out.c2; have m5 := HFb.out.2 2; refine Tc 6 (fun K hK => ?_); go_simp; refine Th hK ?_ (fun hHeld2 => ?_)
         ·(try dsimp only)
          have h9 := HKc.out
          have h9 := h9.set (a := ⟨ga, 0, none⟩) hwga (fun x hx => by simp at hx; rcases hx with rfl | rfl <;> (dsimp only; omega)) (.slice Ae ne ce)
          have h9 := h9.set (a := ⟨ga, 1, none⟩) hwga (fun x hx => by simp at hx; rcases hx with rfl | rfl <;> (dsimp only; omega)) (.slice Ak nk ck)
          have h9 := h9.set (a := ⟨ga, 2, none⟩) hwga (fun x hx => by simp at hx; rcases hx with rfl | rfl <;> (dsimp only; omega)) (.slice Ba m9 da)
          exact ⟨h9.c0, h9.c1⟩
         clear hK K hHeld; have hHeld := hHeld2; clear hHeld2; refine Tc 7 (fun K hK => ?_); go_simp; refine Th hK ?_ (fun hHeld2 => ?_)
         ·(try dsimp only)
          have h9 := HKc.out
          have h9 := h9.set (a := ⟨ga, 0, none⟩) hwga (fun x hx => by simp at hx; rcases hx with rfl | rfl <;> (dsimp only; omega)) (.slice Ae ne ce)
          have h9 := h9.set (a := ⟨ga, 1, none⟩) hwga (fun x hx => by simp at hx; rcases hx with rfl | rfl <;> (dsimp only; omega)) (.slice Ak nk ck)
          have h9 := h9.set (a := ⟨ga, 2, none⟩) hwga (fun x hx => by simp at hx; rcases hx with rfl | rfl <;> (dsimp only; omega)) (.slice Ba m9 da)
          have h9 := h9.set (a := ⟨gb, 0, none⟩) hwgb (fun x hx => by simp at hx; rcases hx with rfl | rfl <;> (dsimp only; omega)) (.slice Ae ne ce)
          have h9 := h9.set (a := ⟨gb, 1, none⟩) hwgb (fun x hx => by simp at hx; rcases hx with rfl | rfl <;> (dsimp only; omega)) (.slice Ak nk ck)
          have h9 := h9.set (a := ⟨gb, 2, none⟩) hwgb (fun x hx => by simp at hx; rcases hx with rfl | rfl <;> (dsimp only; omega)) (.slice Bb m9 db)
          exact ⟨h9.c0, h9.c1⟩
         clear hK K hHeld; have hHeld := hHeld2; clear hHeld2; refine wpAnyH_done (by kernel_rfl) ?_ _; clear hHeld
         have HMID : Hid (MidK u v3 ⟨Ae, ne, ce⟩ ⟨Ak, nk, ck⟩ m9 ga gb Ba Bb da db ((((((v8.setCell ⟨ga, 0, none⟩ (.slice Ae ne ce)).setCell ⟨ga, 1, none⟩ (.slice Ak nk ck)).setCell ⟨ga, 2, none⟩ (.slice Ba m9 da)).setCell ⟨gb, 0, none⟩ (.slice Ae ne ce)).setCell ⟨gb, 1, none⟩ (.slice Ak nk ck)).setCell ⟨gb, 2, none⟩ (.slice Bb m9 db))) := by
          obtain ⟨W9, hW9⟩ : ∃ W, W = ((((((v8.setCell ⟨ga, 0, none⟩ (.slice Ae ne ce)).setCell ⟨ga, 1, none⟩ (.slice Ak nk ck)).setCell ⟨ga, 2, none⟩ (.slice Ba m9 da)).setCell ⟨gb, 0, none⟩ (.slice Ae ne ce)).setCell ⟨gb, 1, none⟩ (.slice Ak nk ck)).setCell ⟨gb, 2, none⟩ (.slice Bb m9 db)) := ⟨_, rfl⟩; rw [← hW9]
          have hb : Below v3.heap.size v3 W9 := by
           rw [hW9]; exact (((((HBV.out.setCell (p := ⟨ga, 0, none⟩) hvga _).setCell (p := ⟨ga, 1, none⟩) hvga _).setCell (p := ⟨ga, 2, none⟩) hvga _).setCell (p := ⟨gb, 0, none⟩) hvgb _).setCell (p := ⟨gb, 1, none⟩) hvgb _).setCell (p := ⟨gb, 2, none⟩) hvgb _
          have hs : v8.heap.size ≤ W9.heap.size := by rw [hW9]; simp [World.setCell]
          have hk : ∀ b, b ≠ ga → b ≠ gb → W9.heap[b]? = v8.heap[b]? := fun b h1 h2 => by rw [hW9, cells3_at b h2, cells3_at b h1]
          refine ⟨hne, hvga, hvgb, ⟨Nat.lt_of_lt_of_le HFa.out.1 hs, fun j => by rw [hW9]; simp only [World.frozen?_setCell]; exact HFa.out.2 j⟩, ⟨Nat.lt_of_lt_of_le HFb.out.1 hs, fun j => by rw [hW9]; simp only [World.frozen?_setCell]; exact HFb.out.2 j⟩, HRa.out.keep hs (fun b hb _ => hk b hb.2.1 hb.2.2), HRb.out.keep hs (fun b hb _ => hk b hb.2.1 hb.2.2), ?_⟩
          refine ((((((Kept.nil_of hb).cons_of ?_).cons_of ?_).cons_of ?_).cons_of ?_).cons_of ?_).cons_of ?_ <;> (rw [hW9]; go_simp)
         clear z0 z1 z2 z3 z4 z5 m0 m1 m2 m3 m4 m5; go_wp2_with fail; go_meet; exact ⟨ga, gb, Ba, Bb, da, db, rfl, rfl, HMID.out⟩
        ·go_simp
         clear hHeld; refine Th hK ?_ (fun hHeld => ?_)
         ·exact ⟨(HKc.out.alloc _).c0, (HKc.out.alloc _).c1⟩
         clear hK K; obtain ⟨gb, hgb⟩ : ∃ g, g = v6.heap.size := ⟨_, rfl⟩; obtain ⟨v7, hv7⟩ : ∃ W, W = v6.alloc (.cells #[.slice none 0 0, .slice none 0 0, .slice none 0 0] 34) := ⟨_, rfl⟩
         have hb9 : Below v6.heap.size v6 v7 := by rw [hv7]; exact Dt.box_below _ _ _
         have hvgb : v3.heap.size ≤ gb := by rw [hgb]; exact HBV.out.size
         have hwgb : w.heap.size ≤ gb := by rw [hgb]; exact HKc.out.below.size
         have hnpb : p ≠ gb := by have h := World.block_lt_of_cell? v6 _ HKc.out.c0; dsimp only at h; omega
         have b0 : v7.cell? ⟨gb, 0, none⟩ = some (.slice none 0 0) := by rw [hv7, hgb]; go_simp
         have b1 : v7.cell? ⟨gb, 1, none⟩ = some (.slice none 0 0) := by rw [hv7, hgb]; go_simp
         have b2 : v7.cell? ⟨gb, 2, none⟩ = some (.slice none 0 0) := by rw [hv7, hgb]; go_simp
         have HRa := Lib.hid (HRa.out.mono (ok' := fun b => v3.heap.size ≤ b ∧ b ≠ gb) (fun b hb hlt => ⟨hb, (by omega)⟩)); have HRb := Lib.hid (HRb.out.mono (ok' := fun b => v3.heap.size ≤ b ∧ b ≠ gb) (fun b hb hlt => ⟨hb, (by omega)⟩)); have HKc := Lib.hid (HKc.out.later hb9); have R := Lib.hid (RdT.later R.out hb9); have HBV := Lib.hid (HBV.out.trans (hb9.mono HBV.out.size)); have HRa := Lib.hid (HRa.out.later hb9); have HRb := Lib.hid (HRb.out.later hb9); have HZb : Hid (Kept [(⟨gb, 0, none⟩, .slice none 0 0), (⟨gb, 1, none⟩, .slice none 0 0), (⟨gb, 2, none⟩, .slice none 0 0)] v3 v7) := (((Kept.nil_of HBV.out).cons_of b2).cons_of b1).cons_of b0; have HFb : Hid (Free gb v7) := ⟨by rw [hv7, hgb]; simp, fun j => by rw [hv7, hgb]; go_simp⟩; (try rw [← hv7] at hHeld); rw [← hv7]; rw [← hgb]; clear hgb hv7 hb9 b0 b1 b2; refine Tc 4 (fun K hK => ?_); go_simp; clear hHeld; refine Th hK ?_ (fun hHeld => ?_)
         ·exact ⟨(HKc.out.alloc _).c0, (HKc.out.alloc _).c1⟩
         clear hK K; obtain ⟨ga, hga⟩ : ∃ g, g = v7.heap.size := ⟨_, rfl⟩; obtain ⟨v8, hv8⟩ : ∃ W, W = v7.alloc (.cells #[.slice none 0 0, .slice none 0 0, .slice none 0 0] 34) := ⟨_, rfl⟩
         have hb9 : Below v7.heap.size v7 v8 := by rw [hv8]; exact Dt.box_below _ _ _
         have hvga : v3.heap.size ≤ ga := by rw [hga]; exact HBV.out.size
         have hwga : w.heap.size ≤ ga := by rw [hga]; exact HKc.out.below.size
         have hnpa : p ≠ ga := by have h := World.block_lt_of_cell? v7 _ HKc.out.c0; dsimp only at h; omega
         have hne : ga ≠ gb := by have h := HFb.out.1; omega
         have hne2 : gb ≠ ga := hne.symm
         have b0 : v8.cell? ⟨ga, 0, none⟩ = some (.slice none 0 0) := by rw [hv8, hga]; go_simp
         have b1 : v8.cell? ⟨ga, 1, none⟩ = some (.slice none 0 0) := by rw [hv8, hga]; go_simp
         have b2 : v8.cell? ⟨ga, 2, none⟩ = some (.slice none 0 0) := by rw [hv8, hga]; go_simp
         have HRa := Lib.hid (HRa.out.mono (ok' := fun b => v3.heap.size ≤ b ∧ b ≠ ga ∧ b ≠ gb) (fun b hb hlt => ⟨hb.1, (by omega), hb.2⟩)); have HRb := Lib.hid (HRb.out.mono (ok' := fun b => v3.heap.size ≤ b ∧ b ≠ ga ∧ b ≠ gb) (fun b hb hlt => ⟨hb.1, (by omega), hb.2⟩)); have HKc := Lib.hid (HKc.out.later hb9); have R := Lib.hid (RdT.later R.out hb9); have HBV := Lib.hid (HBV.out.trans (hb9.mono HBV.out.size)); have HRa := Lib.hid (HRa.out.later hb9); have HRb := Lib.hid (HRb.out.later hb9); have HZb := Lib.hid (HZb.out.later hb9); have HFb := Lib.hid (HFb.out.later hb9); have HZa : Hid (Kept [(⟨ga, 0, none⟩, .slice none 0 0), (⟨ga, 1, none⟩, .slice none 0 0), (⟨ga, 2, none⟩, .slice none 0 0)] v3 v8) := (((Kept.nil_of HBV.out).cons_of b2).cons_of b1).cons_of b0; have HFa : Hid (Free ga v8) := ⟨by rw [hv8, hga]; simp, fun j => by rw [hv8, hga]; go_simp⟩; (try rw [← hv8] at hHeld); rw [← hv8]
         rw [← hga]; clear hga hv8 hb9 b0 b1 b2; have z0 := HZa.out.c0; have m0 := HFa.out.2 0; have z1 := HZa.out.c1; have m1 := HFa.out.2 1; have z2 := HZa.out.c2; have m2 := HFa.out.2 2; have z3 := HZb.out.c0; have m3 := HFb.out.2 0; have z4 := HZb.out.c1; have m4 := HFb.out.2 1; have z5 := HZb.out.c2; have m5 := HFb.out.2 2; refine Tc 6 (fun K hK => ?_); go_simp; refine Th hK ?_ (fun hHeld2 => ?_)
         ·(try dsimp only)
          have h9 := HKc.out
          have h9 := h9.set (a := ⟨ga, 0, none⟩) hwga (fun x hx => by simp at hx; rcases hx with rfl | rfl <;> (dsimp only; omega)) (.slice Ae ne ce)
          have h9 := h9.set (a := ⟨ga, 1, none⟩) hwga (fun x hx => by simp at hx; rcases hx with rfl | rfl <;> (dsimp only; omega)) (.slice Ak nk ck)
          have h9 := h9.set (a := ⟨ga, 2, none⟩) hwga (fun x hx => by simp at hx; rcases hx with rfl | rfl <;> (dsimp only; omega)) (.slice Ba m9 da)
          exact ⟨h9.c0, h9.c1⟩
         clear hK K hHeld; have hHeld := hHeld2; clear hHeld2; refine Tc 7 (fun K hK => ?_); go_simp; refine Th hK ?_ (fun hHeld2 => ?_)
         ·(try dsimp only)
          have h9 := HKc.out
          have h9 := h9.set (a := ⟨ga, 0, none⟩) hwga (fun x hx => by simp at hx; rcases hx with rfl | rfl <;> (dsimp only; omega)) (.slice Ae ne ce)
          have h9 := h9.set (a := ⟨ga, 1, none⟩) hwga (fun x hx => by simp at hx; rcases hx with rfl | rfl <;> (dsimp only; omega)) (.slice Ak nk ck)
          have h9 := h9.set (a := ⟨ga, 2, none⟩) hwga (fun x hx => by simp at hx; rcases hx with rfl | rfl <;> (dsimp only; omega)) (.slice Ba m9 da)
          have h9 := h9.set (a := ⟨gb, 0, none⟩) hwgb (fun x hx => by simp at hx; rcases hx with rfl | rfl <;> (dsimp only; omega)) (.slice Ae ne ce)
          have h9 := h9.set (a := ⟨gb, 1, none⟩) hwgb (fun x hx => by simp at hx; rcases hx with rfl | rfl <;> (dsimp only; omega)) (.slice Ak nk ck)
          have h9 := h9.set (a := ⟨gb, 2, none⟩) hwgb (fun x hx => by simp at hx; rcases hx with rfl | rfl <;> (dsimp only; omega)) (.slice Bb m9 db)
          exact ⟨h9.c0, h9.c1⟩
         clear hK K hHeld; have hHeld := hHeld2; clear hHeld2; refine wpAnyH_done (by kernel_rfl) ?_ _; clear hHeld
         have HMID : Hid (MidK u v3 ⟨Ae, ne, ce⟩ ⟨Ak, nk, ck⟩ m9 ga gb Ba Bb da db ((((((v8.setCell ⟨ga, 0, none⟩ (.slice Ae ne ce)).setCell ⟨ga, 1, none⟩ (.slice Ak nk ck)).setCell ⟨ga, 2, none⟩ (.slice Ba m9 da)).setCell ⟨gb, 0, none⟩ (.slice Ae ne ce)).setCell ⟨gb, 1, none⟩ (.slice Ak nk ck)).setCell ⟨gb, 2, none⟩ (.slice Bb m9 db))) := by
          obtain ⟨W9, hW9⟩ : ∃ W, W = ((((((v8.setCell ⟨ga, 0, none⟩ (.slice Ae ne ce)).setCell ⟨ga, 1, none⟩ (.slice Ak nk ck)).setCell ⟨ga, 2, none⟩ (.slice Ba m9 da)).setCell ⟨gb, 0, none⟩ (.slice Ae ne ce)).setCell ⟨gb, 1, none⟩ (.slice Ak nk ck)).setCell ⟨gb, 2, none⟩ (.slice Bb m9 db)) := ⟨_, rfl⟩; rw [← hW9]
          have hb : Below v3.heap.size v3 W9 := by
           rw [hW9]; exact (((((HBV.out.setCell (p := ⟨ga, 0, none⟩) hvga _).setCell (p := ⟨ga, 1, none⟩) hvga _).setCell (p := ⟨ga, 2, none⟩) hvga _).setCell (p := ⟨gb, 0, none⟩) hvgb _).setCell (p := ⟨gb, 1, none⟩) hvgb _).setCell (p := ⟨gb, 2, none⟩) hvgb _
          have hs : v8.heap.size ≤ W9.heap.size := by rw [hW9]; simp [World.setCell]
          have hk : ∀ b, b ≠ ga → b ≠ gb → W9.heap[b]? = v8.heap[b]? := fun b h1 h2 => by rw [hW9, cells3_at b h2, cells3_at b h1]
          refine ⟨hne, hvga, hvgb, ⟨Nat.lt_of_lt_of_le HFa.out.1 hs, fun j => by rw [hW9]; simp only [World.frozen?_setCell]; exact HFa.out.2 j⟩, ⟨Nat.lt_of_lt_of_le HFb.out.1 hs, fun j => by rw [hW9]; simp only [World.frozen?_setCell]; exact HFb.out.2 j⟩, HRa.out.keep hs (fun b hb _ => hk b hb.2.1 hb.2.2), HRb.out.keep hs (fun b hb _ => hk b hb.2.1 hb.2.2), ?_⟩
          refine ((((((Kept.nil_of hb).cons_of ?_).cons_of ?_).cons_of ?_).cons_of ?_).cons_of ?_).cons_of ?_ <;> (rw [hW9]; go_simp)
         clear z0 z1 z2 z3 z4 z5 m0 m1 m2 m3 m4 m5; go_wp2_with fail; go_meet; exact ⟨ga, gb, Ba, Bb, da, db, rfl, rfl, HMID.out⟩
       ·go_simp
        clear hHeld; refine Th hK ?_ (fun hHeld => ?_)
        ·exact ⟨(HKc.out.alloc _).c0, (HKc.out.alloc _).c1⟩
        clear hK K; obtain ⟨ga, hga⟩ : ∃ g, g = v5.heap.size := ⟨_, rfl⟩; obtain ⟨v6, hv6⟩ : ∃ W, W = v5.alloc (.cells #[.slice none 0 0, .slice none 0 0, .slice none 0 0] 34) := ⟨_, rfl⟩
        have hb9 : Below v5.heap.size v5 v6 := by rw [hv6]; exact Dt.box_below _ _ _
        have hvga : v3.heap.size ≤ ga := by rw [hga]; exact HBV.out.size
        have hwga : w.heap.size ≤ ga := by rw [hga]; exact HKc.out.below.size
        have hnpa : p ≠ ga := by have h := World.block_lt_of_cell? v5 _ HKc.out.c0; dsimp only at h; omega
        have b0 : v6.cell? ⟨ga, 0, none⟩ = some (.slice none 0 0) := by rw [hv6, hga]; go_simp
        have b1 : v6.cell? ⟨ga, 1, none⟩ = some (.slice none 0 0) := by rw [hv6, hga]; go_simp
        have b2 : v6.cell? ⟨ga, 2, none⟩ = some (.slice none 0 0) := by rw [hv6, hga]; go_simp
        have HRa := Lib.hid (HRa.out.mono (ok' := fun b => v3.heap.size ≤ b ∧ b ≠ ga) (fun b hb hlt => ⟨hb, (by omega)⟩)); have HKc := Lib.hid (HKc.out.later hb9); have R := Lib.hid (RdT.later R.out hb9); have HBV := Lib.hid (HBV.out.trans (hb9.mono HBV.out.size)); have HRa := Lib.hid (HRa.out.later hb9); have HZa : Hid (Kept [(⟨ga, 0, none⟩, .slice none 0 0), (⟨ga, 1, none⟩, .slice none 0 0), (⟨ga, 2, none⟩, .slice none 0 0)] v3 v6) := (((Kept.nil_of HBV.out).cons_of b2).cons_of b1).cons_of b0; have HFa : Hid (Free ga v6) := ⟨by rw [hv6, hga]; simp, fun j => by rw [hv6, hga]; go_simp⟩; (try rw [← hv6] at hHeld); rw [← hv6]; rw [← hga]; clear hga hv6 hb9 b0 b1 b2; refine wpAnyH_ready (rs := [3, 5]) (by kernel_rfl) (by simp) ?_; refine AllReadyH.cons (o := ⟨some 45, _, _, _, _, _⟩) rfl (fun K hK => ?_) (AllReadyH.cons (o := ⟨some 6, _, _, _, _, _⟩) rfl (fun K hK => ?_) (AllReadyH.nil))
        ·go_simp
         (go_at_call 10; refine (refknown_any t Ae Ak ne nk ce ck u m9 v6 HT.out (by have := N.out; omega) R.out HU.out.1 HU.out.2.1 (by have := HU.out.2.2; omega)).mono ?_); rintro e v7 ⟨Bb, db, rfl, hro, hb9⟩; have HRb : Hid (RO v7 (fun b => v3.heap.size ≤ b ∧ b ≠ ga) 3 Bb m9 db (spsC u)) := hro.mono fun b hb _ => ⟨Nat.le_trans HBV.out.size hb, (by have h := HFa.out.1; omega)⟩; clear hro; have HKc := Lib.hid (HKc.out.later hb9); have R := Lib.hid (RdT.later R.out hb9); have HBV := Lib.hid (HBV.out.trans (hb9.mono HBV.out.size)); have HRa := Lib.hid (HRa.out.later hb9); have HZa := Lib.hid (HZa.out.later hb9); have HFa := Lib.hid (HFa.out.later hb9); clear hb9; clear hHeld; refine Th hK ?_ (fun hHeld => ?_)
         ·exact ⟨HKc.out.c0, HKc.out.c1⟩
         clear hK K; refine Tc 5 (fun K hK => ?_); go_simp; clear hHeld; refine Th hK ?_ (fun hHeld => ?_)
         ·exact ⟨(HKc.out.alloc _).c0, (HKc.out.alloc _).c1⟩
         clear hK K; obtain ⟨gb, hgb⟩ : ∃ g, g = v7.heap.size := ⟨_, rfl⟩; obtain ⟨v8, hv8⟩ : ∃ W, W = v7.alloc (.cells #[.slice none 0 0, .slice none 0 0, .slice none 0 0] 34) := ⟨_, rfl⟩
         have hb9 : Below v7.heap.size v7 v8 := by rw [hv8]; exact Dt.box_below _ _ _
         have hvgb : v3.heap.size ≤ gb := by rw [hgb]; exact HBV.out.size
         have hwgb : w.heap.size ≤ gb := by rw [hgb]; exact HKc.out.below.size
         have hnpb : p ≠ gb := by have h := World.block_lt_of_cell? v7 _ HKc.out.c0; dsimp only at h; omega
         have hne : ga ≠ gb := by have h := HFa.out.1; omega
         have hne2 : gb ≠ ga := hne.symm
         have b0 : v8.cell? ⟨gb, 0, none⟩ = some (.slice none 0 0) := by rw [hv8, hgb]; go_simp
         have b1 : v8.cell? ⟨gb, 1, none⟩ = some (.slice none 0 0) := by rw [hv8, hgb]; go_simp
         have b2 : v8.cell? ⟨gb, 2, none⟩ = some (.slice none 0 0) := by rw [hv8, hgb]; go_simp
         have HRa := Lib.hid (HRa.out.mono (ok' := fun b => v3.heap.size ≤ b ∧ b ≠ ga ∧ b ≠ gb) (fun b hb hlt => ⟨hb.1, hb.2, (by omega)⟩)); have HRb := Lib.hid (HRb.out.mono (ok' := fun b => v3.heap.size ≤ b ∧ b ≠ ga ∧ b ≠ gb) (fun b hb hlt => ⟨hb.1, hb.2, (by omega)⟩)); have HKc := Lib.hid (HKc.out.later hb9); have R := Lib.hid (RdT.later R.out hb9); have HBV := Lib.hid (HBV.out.trans (hb9.mono HBV.out.size)); have HRa := Lib.hid (HRa.out.later hb9); have HZa := Lib.hid (HZa.out.later hb9); have HFa := Lib.hid (HFa.out.later hb9); have HRb := Lib.hid (HRb.out.later hb9); have HZb : Hid (Kept [(⟨gb, 0, none⟩, .slice none 0 0), (⟨gb, 1, none⟩, .slice none 0 0), (⟨gb, 2, none⟩, .slice none 0 0)] v3 v8) := (((Kept.nil_of HBV.out).cons_of b2).cons_of b1).cons_of b0; have HFb : Hid (Free gb v8) := ⟨by rw [hv8, hgb]; simp, fun j => by rw [hv8, hgb]; go_simp⟩; (try rw [← hv8] at hHeld); rw [← hv8]
         rw [← hgb]; clear hgb hv8 hb9 b0 b1 b2; have z0 := HZa.out.c0; have m0 := HFa.out.2 0; have z1 := HZa.out.c1; have m1 := HFa.out.2 1; have z2 := HZa.out.c2; have m2 := HFa.out.2 2; have z3 := HZb.out.c0; have m3 := HFb.out.2 0; have z4 := HZb.out.c1; have m4 := HFb.out.2 1; have z5 := HZb.out.c2; have m5 := HFb.out.2 2; refine Tc 6 (fun K hK => ?_); go_simp; refine Th hK ?_ (fun hHeld2 => ?_)
         ·(try dsimp only)
          have h9 := HKc.out
          have h9 := h9.set (a := ⟨ga, 0, none⟩) hwga (fun x hx => by simp at hx; rcases hx with rfl | rfl <;> (dsimp only; omega)) (.slice Ae ne ce)
          have h9 := h9.set (a := ⟨ga, 1, none⟩) hwga (fun x hx => by simp at hx; rcases hx with rfl | rfl <;> (dsimp only; omega)) (.slice Ak nk ck)
          have h9 := h9.set (a := ⟨ga, 2, none⟩) hwga (fun x hx => by simp at hx; rcases hx with rfl | rfl <;> (dsimp only; omega)) (.slice Ba m9 da)
          exact ⟨h9.c0, h9.c1⟩
         clear hK K hHeld; have hHeld := hHeld2; clear hHeld2; refine Tc 7 (fun K hK => ?_); go_simp; refine Th hK ?_ (fun hHeld2 => ?_)
         ·(try dsimp only)
          have h9 := HKc.out
          have h9 := h9.set (a := ⟨ga, 0, none⟩) hwga (fun x hx => by simp at hx; rcases hx with rfl | rfl <;> (dsimp only; omega)) (.slice Ae ne ce)
          have h9 := h9.set (a := ⟨ga, 1, none⟩) hwga (fun x hx => by simp at hx; rcases hx with rfl | rfl <;> (dsimp only; omega)) (.slice Ak nk ck)
          have h9 := h9.set (a := ⟨ga, 2, none⟩) hwga (fun x hx => by simp at hx; rcases hx with rfl | rfl <;> (dsimp only; omega)) (.slice Ba m9 da)
          have h9 := h9.set (a := ⟨gb, 0, none⟩) hwgb (fun x hx => by simp at hx; rcases hx with rfl | rfl <;> (dsimp only; omega)) (.slice Ae ne ce)
          have h9 := h9.set (a := ⟨gb, 1, none⟩) hwgb (fun x hx => by simp at hx; rcases hx with rfl | rfl <;> (dsimp only; omega)) (.slice Ak nk ck)
          have h9 := h9.set (a := ⟨gb, 2, none⟩) hwgb (fun x hx => by simp at hx; rcases hx with rfl | rfl <;> (dsimp only; omega)) (.slice Bb m9 db)
          exact ⟨h9.c0, h9.c1⟩
         clear hK K hHeld; have hHeld := hHeld2; clear hHeld2; refine wpAnyH_done (by kernel_rfl) ?_ _; clear hHeld
         have HMID : Hid (MidK u v3 ⟨Ae, ne, ce⟩ ⟨Ak, nk, ck⟩ m9 ga gb Ba Bb da db ((((((v8.setCell ⟨ga, 0, none⟩ (.slice Ae ne ce)).setCell ⟨ga, 1, none⟩ (.slice Ak nk ck)).setCell ⟨ga, 2, none⟩ (.slice Ba m9 da)).setCell ⟨gb, 0, none⟩ (.slice Ae ne ce)).setCell ⟨gb, 1, none⟩ (.slice Ak nk ck)).setCell ⟨gb, 2, none⟩ (.slice Bb m9 db))) := by
          obtain ⟨W9, hW9⟩ : ∃ W, W = ((((((v8.setCell ⟨ga, 0, none⟩ (.slice Ae ne ce)).setCell ⟨ga, 1, none⟩ (.slice Ak nk ck)).setCell ⟨ga, 2, none⟩ (.slice Ba m9 da)).setCell ⟨gb, 0, none⟩ (.slice Ae ne ce)).setCell ⟨gb, 1, none⟩ (.slice Ak nk ck)).setCell ⟨gb, 2, none⟩ (.slice Bb m9 db)) := ⟨_, rfl⟩; rw [← hW9]
          have hb : Below v3.heap.size v3 W9 := by
           rw [hW9]; exact (((((HBV.out.setCell (p := ⟨ga, 0, none⟩) hvga _).setCell (p := ⟨ga, 1, none⟩) hvga _).setCell (p := ⟨ga, 2, none⟩) hvga _).setCell (p := ⟨gb, 0, none⟩) hvgb _).setCell (p := ⟨gb, 1, none⟩) hvgb _).setCell (p := ⟨gb, 2, none⟩) hvgb _
          have hs : v8.heap.size ≤ W9.heap.size := by rw [hW9]; simp [World.setCell]
          have hk : ∀ b, b ≠ ga → b ≠ gb → W9.heap[b]? = v8.heap[b]? := fun b h1 h2 => by rw [hW9, cells3_at b h2, cells3_at b h1]
          refine ⟨hne, hvga, hvgb, ⟨Nat.lt_of_lt_of_le HFa.out.1 hs, fun j => by rw [hW9]; simp only [World.frozen?_setCell]; exact HFa.out.2 j⟩, ⟨Nat.lt_of_lt_of_le HFb.out.1 hs, fun j => by rw [hW9]; simp only [World.frozen?_setCell]; exact HFb.out.2 j⟩, HRa.out.keep hs (fun b hb _ => hk b hb.2.1 hb.2.2), HRb.out.keep hs (fun b hb _ => hk b hb.2.1 hb.2.2), ?_⟩
          refine ((((((Kept.nil_of hb).cons_of ?_).cons_of ?_).cons_of ?_).cons_of ?_).cons_of ?_).cons_of ?_ <;> (rw [hW9]; go_simp)
         clear z0 z1 z2 z3 z4 z5 m0 m1 m2 m3 m4 m5; go_wp2_with fail; go_meet; exact ⟨ga, gb, Ba, Bb, da, db, rfl, rfl, HMID.out⟩
        ·go_simp
         clear hHeld; refine Th hK ?_ (fun hHeld => ?_)
         ·exact ⟨(HKc.out.alloc _).c0, (HKc.out.alloc _).c1⟩
         clear hK K; obtain ⟨gb, hgb⟩ : ∃ g, g = v6.heap.size := ⟨_, rfl⟩; obtain ⟨v7, hv7⟩ : ∃ W, W = v6.alloc (.cells #[.slice none 0 0, .slice none 0 0, .slice none 0 0] 34) := ⟨_, rfl⟩
         have hb9 : Below v6.heap.size v6 v7 := by rw [hv7]; exact Dt.box_below _ _ _
         have hvgb : v3.heap.size ≤ gb := by rw [hgb]; exact HBV.out.size
         have hwgb : w.heap.size ≤ gb := by rw [hgb]; exact HKc.out.below.size
         have hnpb : p ≠ gb := by have h := World.block_lt_of_cell? v6 _ HKc.out.c0; dsimp only at h; omega
         have hne : ga ≠ gb := by have h := HFa.out.1; omega
         have hne2 : gb ≠ ga := hne.symm
         have b0 : v7.cell? ⟨gb, 0, none⟩ = some (.slice none 0 0) := by rw [hv7, hgb]; go_simp
         have b1 : v7.cell? ⟨gb, 1, none⟩ = some (.slice none 0 0) := by rw [hv7, hgb]; go_simp
         have b2 : v7.cell? ⟨gb, 2, none⟩ = some (.slice none 0 0) := by rw [hv7, hgb]; go_simp
         have HRa := Lib.hid (HRa.out.mono (ok' := fun b => v3.heap.size ≤ b ∧ b ≠ ga ∧ b ≠ gb) (fun b hb hlt => ⟨hb.1, hb.2, (by omega)⟩)); have HKc := Lib.hid (HKc.out.later hb9); have R := Lib.hid (RdT.later R.out hb9); have HBV := Lib.hid (HBV.out.trans (hb9.mono HBV.out.size)); have HRa := Lib.hid (HRa.out.later hb9); have HZa := Lib.hid (HZa.out.later hb9); have HFa := Lib.hid (HFa.out.later hb9); have HZb : Hid (Kept [(⟨gb, 0, none⟩, .slice none 0 0), (⟨gb, 1, none⟩, .slice none 0 0), (⟨gb, 2, none⟩, .slice none 0 0)] v3 v7) := (((Kept.nil_of HBV.out).cons_of b2).cons_of b1).cons_of b0; have HFb : Hid (Free gb v7) := ⟨by rw [hv7, hgb]; simp, fun j => by rw [hv7, hgb]; go_simp⟩; (try rw [← hv7] at hHeld); rw [← hv7]; rw [← hgb]; clear hgb hv7 hb9 b0 b1 b2; refine Tc 3 (fun K hK => ?_); go_simp; (go_at_call 10; refine (refknown_any t Ae Ak ne nk ce ck u m9 v7 HT.out (by have := N.out; omega) R.out HU.out.1 HU.out.2.1 (by have := HU.out.2.2; omega)).mono ?_)
         rintro e v8 ⟨Bb, db, rfl, hro, hb9⟩; have HRb : Hid (RO v8 (fun b => v3.heap.size ≤ b ∧ b ≠ ga ∧ b ≠ gb) 3 Bb m9 db (spsC u)) := hro.mono fun b hb _ => ⟨Nat.le_trans HBV.out.size hb, (by have h := HFa.out.1; omega), (by have h := HFb.out.1; omega)⟩; clear hro; have HKc := Lib.hid (HKc.out.later hb9); have R := Lib.hid (RdT.later R.out hb9); have HBV := Lib.hid (HBV.out.trans (hb9.mono HBV.out.size)); have HRa := Lib.hid (HRa.out.later hb9); have HZa := Lib.hid (HZa.out.later hb9); have HFa := Lib.hid (HFa.out.later hb9); have HZb := Lib.hid (HZb.out.later hb9); have HFb := Lib.hid (HFb.out.later hb9); clear hb9; have z0 := HZa.out.c0; have m0 := HFa.out.2 0; have z1 := HZa.out.c1; have m1 := HFa.out.2 1; have z2 := HZa.out.c2; have m2 := HFa.out.2 2; have z3 := HZb.out.c0; have m3 := HFb.out.2 0; have z4 := HZb.out.c1; have m4 := HFb.out.2 1; have z5 := HZb.out.c2; have m5 := HFb.out.2 2
         clear hHeld; refine Th hK ?_ (fun hHeld => ?_)
         ·exact ⟨HKc.out.c0, HKc.out.c1⟩
         clear hK K; refine Tc 6 (fun K hK => ?_); go_simp; refine Th hK ?_ (fun hHeld2 => ?_)
         ·(try dsimp only)
          have h9 := HKc.out
          have h9 := h9.set (a := ⟨ga, 0, none⟩) hwga (fun x hx => by simp at hx; rcases hx with rfl | rfl <;> (dsimp only; omega)) (.slice Ae ne ce)
          have h9 := h9.set (a := ⟨ga, 1, none⟩) hwga (fun x hx => by simp at hx; rcases hx with rfl | rfl <;> (dsimp only; omega)) (.slice Ak nk ck)
          have h9 := h9.set (a := ⟨ga, 2, none⟩) hwga (fun x hx => by simp at hx; rcases hx with rfl | rfl <;> (dsimp only; omega)) (.slice Ba m9 da)
          exact ⟨h9.c0, h9.c1⟩
         clear hK K hHeld; have hHeld := hHeld2; clear hHeld2; refine Tc 7 (fun K hK => ?_); go_simp; refine Th hK ?_ (fun hHeld2 => ?_)
         ·(try dsimp only)
          have h9 := HKc.out
          have h9 := h9.set (a := ⟨ga, 0, none⟩) hwga (fun x hx => by simp at hx; rcases hx with rfl | rfl <;> (dsimp only; omega)) (.slice Ae ne ce)
          have h9 := h9.set (a := ⟨ga, 1, none⟩) hwga (fun x hx => by simp at hx; rcases hx with rfl | rfl <;> (dsimp only; omega)) (.slice Ak nk ck)
          have h9 := h9.set (a := ⟨ga, 2, none⟩) hwga (fun x hx => by simp at hx; rcases hx with rfl | rfl <;> (dsimp only; omega)) (.slice Ba m9 da)
          have h9 := h9.set (a := ⟨gb, 0, none⟩) hwgb (fun x hx => by simp at hx; rcases hx with rfl | rfl <;> (dsimp only; omega)) (.slice Ae ne ce)
          have h9 := h9.set (a := ⟨gb, 1, none⟩) hwgb (fun x hx => by simp at hx; rcases hx with rfl | rfl <;> (dsimp only; omega)) (.slice Ak nk ck)
          have h9 := h9.set (a := ⟨gb, 2, none⟩) hwgb (fun x hx => by simp at hx; rcases hx with rfl | rfl <;> (dsimp only; omega)) (.slice Bb m9 db)
          exact ⟨h9.c0, h9.c1⟩
         clear hK K hHeld; have hHeld := hHeld2; clear hHeld2; refine wpAnyH_done (by kernel_rfl) ?_ _; clear hHeld
         have HMID : Hid (MidK u v3 ⟨Ae, ne, ce⟩ ⟨Ak, nk, ck⟩ m9 ga gb Ba Bb da db ((((((v8.setCell ⟨ga, 0, none⟩ (.slice Ae ne ce)).setCell ⟨ga, 1, none⟩ (.slice Ak nk ck)).setCell ⟨ga, 2, none⟩ (.slice Ba m9 da)).setCell ⟨gb, 0, none⟩ (.slice Ae ne ce)).setCell ⟨gb, 1, none⟩ (.slice Ak nk ck)).setCell ⟨gb, 2, none⟩ (.slice Bb m9 db))) := by
          obtain ⟨W9, hW9⟩ : ∃ W, W = ((((((v8.setCell ⟨ga, 0, none⟩ (.slice Ae ne ce)).setCell ⟨ga, 1, none⟩ (.slice Ak nk ck)).setCell ⟨ga, 2, none⟩ (.slice Ba m9 da)).setCell ⟨gb, 0, none⟩ (.slice Ae ne ce)).setCell ⟨gb, 1, none⟩ (.slice Ak nk ck)).setCell ⟨gb, 2, none⟩ (.slice Bb m9 db)) := ⟨_, rfl⟩; rw [← hW9]
          have hb : Below v3.heap.size v3 W9 := by
           rw [hW9]; exact (((((HBV.out.setCell (p := ⟨ga, 0, none⟩) hvga _).setCell (p := ⟨ga, 1, none⟩) hvga _).setCell (p := ⟨ga, 2, none⟩) hvga _).setCell (p := ⟨gb, 0, none⟩) hvgb _).setCell (p := ⟨gb, 1, none⟩) hvgb _).setCell (p := ⟨gb, 2, none⟩) hvgb _
          have hs : v8.heap.size ≤ W9.heap.size := by rw [hW9]; simp [World.setCell]
          have hk : ∀ b, b ≠ ga → b ≠ gb → W9.heap[b]? = v8.heap[b]? := fun b h1 h2 => by rw [hW9, cells3_at b h2, cells3_at b h1]
          refine ⟨hne, hvga, hvgb, ⟨Nat.lt_of_lt_of_le HFa.out.1 hs, fun j => by rw [hW9]; simp only [World.frozen?_setCell]; exact HFa.out.2 j⟩, ⟨Nat.lt_of_lt_of_le HFb.out.1 hs, fun j => by rw [hW9]; simp only [World.frozen?_setCell]; exact HFb.out.2 j⟩, HRa.out.keep hs (fun b hb _ => hk b hb.2.1 hb.2.2), HRb.out.keep hs (fun b hb _ => hk b hb.2.1 hb.2.2), ?_⟩
          refine ((((((Kept.nil_of hb).cons_of ?_).cons_of ?_).cons_of ?_).cons_of ?_).cons_of ?_).cons_of ?_ <;> (rw [hW9]; go_simp)
         clear z0 z1 z2 z3 z4 z5 m0 m1 m2 m3 m4 m5; go_wp2_with fail; go_meet; exact ⟨ga, gb, Ba, Bb, da, db, rfl, rfl, HMID.out⟩
       ·go_simp
        clear hHeld; refine Th hK ?_ (fun hHeld => ?_)
        ·exact ⟨(HKc.out.alloc _).c0, (HKc.out.alloc _).c1⟩
        clear hK K; obtain ⟨gb, hgb⟩ : ∃ g, g = v5.heap.size := ⟨_, rfl⟩; obtain ⟨v6, hv6⟩ : ∃ W, W = v5.alloc (.cells #[.slice none 0 0, .slice none 0 0, .slice none 0 0] 34) := ⟨_, rfl⟩
        have hb9 : Below v5.heap.size v5 v6 := by rw [hv6]; exact Dt.box_below _ _ _
        have hvgb : v3.heap.size ≤ gb := by rw [hgb]; exact HBV.out.size
        have hwgb : w.heap.size ≤ gb := by rw [hgb]; exact HKc.out.below.size
        have hnpb : p ≠ gb := by have h := World.block_lt_of_cell? v5 _ HKc.out.c0; dsimp only at h; omega
        have b0 : v6.cell? ⟨gb, 0, none⟩ = some (.slice none 0 0) := by rw [hv6, hgb]; go_simp
        have b1 : v6.cell? ⟨gb, 1, none⟩ = some (.slice none 0 0) := by rw [hv6, hgb]; go_simp
        have b2 : v6.cell? ⟨gb, 2, none⟩ = some (.slice none 0 0) := by rw [hv6, hgb]; go_simp
        have HRa := Lib.hid (HRa.out.mono (ok' := fun b => v3.heap.size ≤ b ∧ b ≠ gb) (fun b hb hlt => ⟨hb, (by omega)⟩)); have HKc := Lib.hid (HKc.out.later hb9); have R := Lib.hid (RdT.later R.out hb9); have HBV := Lib.hid (HBV.out.trans (hb9.mono HBV.out.size)); have HRa := Lib.hid (HRa.out.later hb9); have HZb : Hid (Kept [(⟨gb, 0, none⟩, .slice none 0 0), (⟨gb, 1, none⟩, .slice none 0 0), (⟨gb, 2, none⟩, .slice none 0 0)] v3 v6) := (((Kept.nil_of HBV.out).cons_of b2).cons_of b1).cons_of b0; have HFb : Hid (Free gb v6) := ⟨by rw [hv6, hgb]; simp, fun j => by rw [hv6, hgb]; go_simp⟩; (try rw [← hv6] at hHeld); rw [← hv6]; rw [← hgb]; clear hgb hv6 hb9 b0 b1 b2; refine wpAnyH_ready (rs := [3, 4]) (by kernel_rfl) (by simp) ?_; refine AllReadyH.cons (o := ⟨some 45, _, _, _, _, _⟩) rfl (fun K hK => ?_) (AllReadyH.cons (o := ⟨some 5, _, _, _, _, _⟩) rfl (fun K hK => ?_) (AllReadyH.nil))
        ·go_simp
         (go_at_call 10; refine (refknown_any t Ae Ak ne nk ce ck u m9 v6 HT.out (by have := N.out; omega) R.out HU.out.1 HU.out.2.1 (by have := HU.out.2.2; omega)).mono ?_); rintro e v7 ⟨Bb, db, rfl, hro, hb9⟩; have HRb : Hid (RO v7 (fun b => v3.heap.size ≤ b ∧ b ≠ gb) 3 Bb m9 db (spsC u)) := hro.mono fun b hb _ => ⟨Nat.le_trans HBV.out.size hb, (by have h := HFb.out.1; omega)⟩; clear hro; have HKc := Lib.hid (HKc.out.later hb9); have R := Lib.hid (RdT.later R.out hb9); have HBV := Lib.hid (HBV.out.trans (hb9.mono HBV.out.size)); have HRa := Lib.hid (HRa.out.later hb9); have HZb := Lib.hid (HZb.out.later hb9); have HFb := Lib.hid (HFb.out.later hb9); clear hb9; clear hHeld; refine Th hK ?_ (fun hHeld => ?_)
         ·exact ⟨HKc.out.c0, HKc.out.c1⟩
         clear hK K; refine Tc 4 (fun K hK => ?_); go_simp; clear hHeld; refine Th hK ?_ (fun hHeld => ?_)
         ·exact ⟨(HKc.out.alloc _).c0, (HKc.out.alloc _).c1⟩
         clear hK K; obtain ⟨ga, hga⟩ : ∃ g, g = v7.heap.size := ⟨_, rfl⟩; obtain ⟨v8, hv8⟩ : ∃ W, W = v7.alloc (.cells #[.slice none 0 0, .slice none 0 0, .slice none 0 0] 34) := ⟨_, rfl⟩
         have hb9 : Below v7.heap.size v7 v8 := by rw [hv8]; exact Dt.box_below _ _ _
         have hvga : v3.heap.size ≤ ga := by rw [hga]; exact HBV.out.size
         have hwga : w.heap.size ≤ ga := by rw [hga]; exact HKc.out.below.size
         have hnpa : p ≠ ga := by have h := World.block_lt_of_cell? v7 _ HKc.out.c0; dsimp only at h; omega
         have hne : ga ≠ gb := by have h := HFb.out.1; omega
         have hne2 : gb ≠ ga := hne.symm
         have b0 : v8.cell? ⟨ga, 0, none⟩ = some (.slice none 0 0) := by rw [hv8, hga]; go_simp
         have b1 : v8.cell? ⟨ga, 1, none⟩ = some (.slice none 0 0) := by rw [hv8, hga]; go_simp
         have b2 : v8.cell? ⟨ga, 2, none⟩ = some (.slice none 0 0) := by rw [hv8, hga]; go_simp
         have HRa := Lib.hid (HRa.out.mono (ok' := fun b => v3.heap.size ≤ b ∧ b ≠ ga ∧ b ≠ gb) (fun b hb hlt => ⟨hb.1, (by omega), hb.2⟩)); have HRb := Lib.hid (HRb.out.mono (ok' := fun b => v3.heap.size ≤ b ∧ b ≠ ga ∧ b ≠ gb) (fun b hb hlt => ⟨hb.1, (by omega), hb.2⟩)); have HKc := Lib.hid (HKc.out.later hb9); have R := Lib.hid (RdT.later R.out hb9); have HBV := Lib.hid (HBV.out.trans (hb9.mono HBV.out.size)); have HRa := Lib.hid (HRa.out.later hb9); have HZb := Lib.hid (HZb.out.later hb9); have HFb := Lib.hid (HFb.out.later hb9); have HRb := Lib.hid (HRb.out.later hb9); have HZa : Hid (Kept [(⟨ga, 0, none⟩, .slice none 0 0), (⟨ga, 1, none⟩, .slice none 0 0), (⟨ga, 2, none⟩, .slice none 0 0)] v3 v8) := (((Kept.nil_of HBV.out).cons_of b2).cons_of b1).cons_of b0; have HFa : Hid (Free ga v8) := ⟨by rw [hv8, hga]; simp, fun j => by rw [hv8, hga]; go_simp⟩; (try rw [← hv8] at hHeld); rw [← hv8]
         rw [← hga]; clear hga hv8 hb9 b0 b1 b2; have z0 := HZa.out.c0; have m0 := HFa.out.2 0; have z1 := HZa.out.c1; have m1 := HFa.out.2 1; have z2 := HZa.out.c2; have m2 := HFa.out.2 2; have z3 := HZb.out.c0; have m3 := HFb.out.2 0; have z4 := HZb.out.c1; have m4 := HFb.out.2 1; have z5 := HZb.out.c2; have m5 := HFb.out.2 2; refine Tc 6 (fun K hK => ?_); go_simp; refine Th hK ?_ (fun hHeld2 => ?_)
         ·(try dsimp only)
          have h9 := HKc.out
          have h9 := h9.set (a := ⟨ga, 0, none⟩) hwga (fun x hx => by simp at hx; rcases hx with rfl | rfl <;> (dsimp only; omega)) (.slice Ae ne ce)
          have h9 := h9.set (a := ⟨ga, 1, none⟩) hwga (fun x hx => by simp at hx; rcases hx with rfl | rfl <;> (dsimp only; omega)) (.slice Ak nk ck)
          have h9 := h9.set (a := ⟨ga, 2, none⟩) hwga (fun x hx => by simp at hx; rcases hx with rfl | rfl <;> (dsimp only; omega)) (.slice Ba m9 da)
          exact ⟨h9.c0, h9.c1⟩
         clear hK K hHeld; have hHeld := hHeld2; clear hHeld2; refine Tc 7 (fun K hK => ?_); go_simp; refine Th hK ?_ (fun hHeld2 => ?_)
         ·(try dsimp only)
          have h9 := HKc.out
          have h9 := h9.set (a := ⟨ga, 0, none⟩) hwga (fun x hx => by simp at hx; rcases hx with rfl | rfl <;> (dsimp only; omega)) (.slice Ae ne ce)
          have h9 := h9.set (a := ⟨ga, 1, none⟩) hwga (fun x hx => by simp at hx; rcases hx with rfl | rfl <;> (dsimp only; omega)) (.slice Ak nk ck)
          have h9 := h9.set (a := ⟨ga, 2, none⟩) hwga (fun x hx => by simp at hx; rcases hx with rfl | rfl <;> (dsimp only; omega)) (.slice Ba m9 da)
          have h9 := h9.set (a := ⟨gb, 0, none⟩) hwgb (fun x hx => by simp at hx; rcases hx with rfl | rfl <;> (dsimp only; omega)) (.slice Ae ne ce)
          have h9 := h9.set (a := ⟨gb, 1, none⟩) hwgb (fun x hx => by simp at hx; rcases hx with rfl | rfl <;> (dsimp only; omega)) (.slice Ak nk ck)
          have h9 := h9.set (a := ⟨gb, 2, none⟩) hwgb (fun x hx => by simp at hx; rcases hx with rfl | rfl <;> (dsimp only; omega)) (.slice Bb m9 db)
          exact ⟨h9.c0, h9.c1⟩
         clear hK K hHeld; have hHeld := hHeld2; clear hHeld2; refine wpAnyH_done (by kernel_rfl) ?_ _; clear hHeld
         have HMID : Hid (MidK u v3 ⟨Ae, ne, ce⟩ ⟨Ak, nk, ck⟩ m9 ga gb Ba Bb da db ((((((v8.setCell ⟨ga, 0, none⟩ (.slice Ae ne ce)).setCell ⟨ga, 1, none⟩ (.slice Ak nk ck)).setCell ⟨ga, 2, none⟩ (.slice Ba m9 da)).setCell ⟨gb, 0, none⟩ (.slice Ae ne ce)).setCell ⟨gb, 1, none⟩ (.slice Ak nk ck)).setCell ⟨gb, 2, none⟩ (.slice Bb m9 db))) := by
          obtain ⟨W9, hW9⟩ : ∃ W, W = ((((((v8.setCell ⟨ga, 0, none⟩ (.slice Ae ne ce)).setCell ⟨ga, 1, none⟩ (.slice Ak nk ck)).setCell ⟨ga, 2, none⟩ (.slice Ba m9 da)).setCell ⟨gb, 0, none⟩ (.slice Ae ne ce)).setCell ⟨gb, 1, none⟩ (.slice Ak nk ck)).setCell ⟨gb, 2, none⟩ (.slice Bb m9 db)) := ⟨_, rfl⟩; rw [← hW9]
          have hb : Below v3.heap.size v3 W9 := by
           rw [hW9]; exact (((((HBV.out.setCell (p := ⟨ga, 0, none⟩) hvga _).setCell (p := ⟨ga, 1, none⟩) hvga _).setCell (p := ⟨ga, 2, none⟩) hvga _).setCell (p := ⟨gb, 0, none⟩) hvgb _).setCell (p := ⟨gb, 1, none⟩) hvgb _).setCell (p := ⟨gb, 2, none⟩) hvgb _
          have hs : v8.heap.size ≤ W9.heap.size := by rw [hW9]; simp [World.setCell]
          have hk : ∀ b, b ≠ ga → b ≠ gb → W9.heap[b]? = v8.heap[b]? := fun b h1 h2 => by rw [hW9, cells3_at b h2, cells3_at b h1]
          refine ⟨hne, hvga, hvgb, ⟨Nat.lt_of_lt_of_le HFa.out.1 hs, fun j => by rw [hW9]; simp only [World.frozen?_setCell]; exact HFa.out.2 j⟩, ⟨Nat.lt_of_lt_of_le HFb.out.1 hs, fun j => by rw [hW9]; simp only [World.frozen?_setCell]; exact HFb.out.2 j⟩, HRa.out.keep hs (fun b hb _ => hk b hb.2.1 hb.2.2), HRb.out.keep hs (fun b hb _ => hk b hb.2.1 hb.2.2), ?_⟩
          refine ((((((Kept.nil_of hb).cons_of ?_).cons_of ?_).cons_of ?_).cons_of ?_).cons_of ?_).cons_of ?_ <;> (rw [hW9]; go_simp)
         clear z0 z1 z2 z3 z4 z5 m0 m1 m2 m3 m4 m5; go_wp2_with fail; go_meet; exact ⟨ga, gb, Ba, Bb, da, db, rfl, rfl, HMID.out⟩
        ·go_simp
         clear hHeld; refine Th hK ?_ (fun hHeld => ?_)
         ·exact ⟨(HKc.out.alloc _).c0, (HKc.out.alloc _).c1⟩
         clear hK K; obtain ⟨ga, hga⟩ : ∃ g, g = v6.heap.size := ⟨_, rfl⟩; obtain ⟨v7, hv7⟩ : ∃ W, W = v6.alloc (.cells #[.slice none 0 0, .slice none 0 0, .slice none 0 0] 34) := ⟨_, rfl⟩
         have hb9 : Below v6.heap.size v6 v7 := by rw [hv7]; exact Dt.box_below _ _ _
         have hvga : v3.heap.size ≤ ga := by rw [hga]; exact HBV.out.size
         have hwga : w.heap.size ≤ ga := by rw [hga]; exact HKc.out.below.size
         have hnpa : p ≠ ga := by have h := World.block_lt_of_cell? v6 _ HKc.out.c0; dsimp only at h; omega
         have hne : ga ≠ gb := by have h := HFb.out.1; omega
         have hne2 : gb ≠ ga := hne.symm
         have b0 : v7.cell? ⟨ga, 0, none⟩ = some (.slice none 0 0) := by rw [hv7, hga]; go_simp
         have b1 : v7.cell? ⟨ga, 1, none⟩ = some (.slice none 0 0) := by rw [hv7, hga]; go_simp
         have b2 : v7.cell? ⟨ga, 2, none⟩ = some (.slice none 0 0) := by rw [hv7, hga]; go_simp
         have HRa := Lib.hid (HRa.out.mono (ok' := fun b => v3.heap.size ≤ b ∧ b ≠ ga ∧ b ≠ gb) (fun b hb hlt => ⟨hb.1, (by omega), hb.2⟩)); have HKc := Lib.hid (HKc.out.later hb9); have R := Lib.hid (RdT.later R.out hb9); have HBV := Lib.hid (HBV.out.trans (hb9.mono HBV.out.size)); have HRa := Lib.hid (HRa.out.later hb9); have HZb := Lib.hid (HZb.out.later hb9); have HFb := Lib.hid (HFb.out.later hb9); have HZa : Hid (Kept [(⟨ga, 0, none⟩, .slice none 0 0), (⟨ga, 1, none⟩, .slice none 0 0), (⟨ga, 2, none⟩, .slice none 0 0)] v3 v7) := (((Kept.nil_of HBV.out).cons_of b2).cons_of b1).cons_of b0; have HFa : Hid (Free ga v7) := ⟨by rw [hv7, hga]; simp, fun j => by rw [hv7, hga]; go_simp⟩; (try rw [← hv7] at hHeld); rw [← hv7]; rw [← hga]; clear hga hv7 hb9 b0 b1 b2; refine Tc 3 (fun K hK => ?_); go_simp; (go_at_call 10; refine (refknown_any t Ae Ak ne nk ce ck u m9 v7 HT.out (by have := N.out; omega) R.out HU.out.1 HU.out.2.1 (by have := HU.out.2.2; omega)).mono ?_)
         rintro e v8 ⟨Bb, db, rfl, hro, hb9⟩; have HRb : Hid (RO v8 (fun b => v3.heap.size ≤ b ∧ b ≠ ga ∧ b ≠ gb) 3 Bb m9 db (spsC u)) := hro.mono fun b hb _ => ⟨Nat.le_trans HBV.out.size hb, (by have h := HFa.out.1; omega), (by have h := HFb.out.1; omega)⟩; clear hro; have HKc := Lib.hid (HKc.out.later hb9); have R := Lib.hid (RdT.later R.out hb9); have HBV := Lib.hid (HBV.out.trans (hb9.mono HBV.out.size)); have HRa := Lib.hid (HRa.out.later hb9); have HZb := Lib.hid (HZb.out.later hb9); have HFb := Lib.hid (HFb.out.later hb9); have HZa := Lib.hid (HZa.out.later hb9); have HFa := Lib.hid (HFa.out.later hb9); clear hb9; have z0 := HZa.out.c0; have m0 := HFa.out.2 0; have z1 := HZa.out.c1; have m1 := HFa.out.2 1; have z2 := HZa.out.c2; have m2 := HFa.out.2 2; have z3 := HZb.out.c0; have m3 := HFb.out.2 0; have z4 := HZb.out.c1; have m4 := HFb.out.2 1; have z5 := HZb.out.c2; have m5 := HFb.out.2 2
         clear hHeld; refine Th hK ?_ (fun hHeld => ?_)
         ·exact ⟨HKc.out.c0, HKc.out.c1⟩
         clear hK K; refine Tc 6 (fun K hK => ?_); go_simp; refine Th hK ?_ (fun hHeld2 => ?_)
         ·(try dsimp only)
          have h9 := HKc.out
          have h9 := h9.set (a := ⟨ga, 0, none⟩) hwga (fun x hx => by simp at hx; rcases hx with rfl | rfl <;> (dsimp only; omega)) (.slice Ae ne ce)
          have h9 := h9.set (a := ⟨ga, 1, none⟩) hwga (fun x hx => by simp at hx; rcases hx with rfl | rfl <;> (dsimp only; omega)) (.slice Ak nk ck)
          have h9 := h9.set (a := ⟨ga, 2, none⟩) hwga (fun x hx => by simp at hx; rcases hx with rfl | rfl <;> (dsimp only; omega)) (.slice Ba m9 da)
          exact ⟨h9.c0, h9.c1⟩
         clear hK K hHeld; have hHeld := hHeld2; clear hHeld2; refine Tc 7 (fun K hK => ?_); go_simp; refine Th hK ?_ (fun hHeld2 => ?_)
         ·(try dsimp only)
          have h9 := HKc.out
          have h9 := h9.set (a := ⟨ga, 0, none⟩) hwga (fun x hx => by simp at hx; rcases hx with rfl | rfl <;> (dsimp only; omega)) (.slice Ae ne ce)
          have h9 := h9.set (a := ⟨ga, 1, none⟩) hwga (fun x hx => by simp at hx; rcases hx with rfl | rfl <;> (dsimp only; omega)) (.slice Ak nk ck)
          have h9 := h9.set (a := ⟨ga, 2, none⟩) hwga (fun x hx => by simp at hx; rcases hx with rfl | rfl <;> (dsimp only; omega)) (.slice Ba m9 da)
          have h9 := h9.set (a := ⟨gb, 0, none⟩) hwgb (fun x hx => by simp at hx; rcases hx with rfl | rfl <;> (dsimp only; omega)) (.slice Ae ne ce)
          have h9 := h9.set (a := ⟨gb, 1, none⟩) hwgb (fun x hx => by simp at hx; rcases hx with rfl | rfl <;> (dsimp only; omega)) (.slice Ak nk ck)
          have h9 := h9.set (a := ⟨gb, 2, none⟩) hwgb (fun x hx => by simp at hx; rcases hx with rfl | rfl <;> (dsimp only; omega)) (.slice Bb m9 db)
          exact ⟨h9.c0, h9.c1⟩
         clear hK K hHeld; have hHeld := hHeld2; clear hHeld2; refine wpAnyH_done (by kernel_rfl) ?_ _; clear hHeld
         have HMID : Hid (MidK u v3 ⟨Ae, ne, ce⟩ ⟨Ak, nk, ck⟩ m9 ga gb Ba Bb da db ((((((v8.setCell ⟨ga, 0, none⟩ (.slice Ae ne ce)).setCell ⟨ga, 1, none⟩ (.slice Ak nk ck)).setCell ⟨ga, 2, none⟩ (.slice Ba m9 da)).setCell ⟨gb, 0, none⟩ (.slice Ae ne ce)).setCell ⟨gb, 1, none⟩ (.slice Ak nk ck)).setCell ⟨gb, 2, none⟩ (.slice Bb m9 db))) := by
          obtain ⟨W9, hW9⟩ : ∃ W, W = ((((((v8.setCell ⟨ga, 0, none⟩ (.slice Ae ne ce)).setCell ⟨ga, 1, none⟩ (.slice Ak nk ck)).setCell ⟨ga, 2, none⟩ (.slice Ba m9 da)).setCell ⟨gb, 0, none⟩ (.slice Ae ne ce)).setCell ⟨gb, 1, none⟩ (.slice Ak nk ck)).setCell ⟨gb, 2, none⟩ (.slice Bb m9 db)) := ⟨_, rfl⟩; rw [← hW9]
          have hb : Below v3.heap.size v3 W9 := by
           rw [hW9]; exact (((((HBV.out.setCell (p := ⟨ga, 0, none⟩) hvga _).setCell (p := ⟨ga, 1, none⟩) hvga _).setCell (p := ⟨ga, 2, none⟩) hvga _).setCell (p := ⟨gb, 0, none⟩) hvgb _).setCell (p := ⟨gb, 1, none⟩) hvgb _).setCell (p := ⟨gb, 2, none⟩) hvgb _
          have hs : v8.heap.size ≤ W9.heap.size := by rw [hW9]; simp [World.setCell]
          have hk : ∀ b, b ≠ ga → b ≠ gb → W9.heap[b]? = v8.heap[b]? := fun b h1 h2 => by rw [hW9, cells3_at b h2, cells3_at b h1]
          refine ⟨hne, hvga, hvgb, ⟨Nat.lt_of_lt_of_le HFa.out.1 hs, fun j => by rw [hW9]; simp only [World.frozen?_setCell]; exact HFa.out.2 j⟩, ⟨Nat.lt_of_lt_of_le HFb.out.1 hs, fun j => by rw [hW9]; simp only [World.frozen?_setCell]; exact HFb.out.2 j⟩, HRa.out.keep hs (fun b hb _ => hk b hb.2.1 hb.2.2), HRb.out.keep hs (fun b hb _ => hk b hb.2.1 hb.2.2), ?_⟩
          refine ((((((Kept.nil_of hb).cons_of ?_).cons_of ?_).cons_of ?_).cons_of ?_).cons_of ?_).cons_of ?_ <;> (rw [hW9]; go_simp)
         clear z0 z1 z2 z3 z4 z5 m0 m1 m2 m3 m4 m5; go_wp2_with fail; go_meet; exact ⟨ga, gb, Ba, Bb, da, db, rfl, rfl, HMID.out⟩
      ·go_simp
       clear hHeld; refine Th hK ?_ (fun hHeld => ?_)
       ·exact ⟨(HKc.out.alloc _).c0, (HKc.out.alloc _).c1⟩
       clear hK K; obtain ⟨ga, hga⟩ : ∃ g, g = v4.heap.size := ⟨_, rfl⟩; obtain ⟨v5, hv5⟩ : ∃ W, W = v4.alloc (.cells #[.slice none 0 0, .slice none 0 0, .slice none 0 0] 34) := ⟨_, rfl⟩
       have hb9 : Below v4.heap.size v4 v5 := by rw [hv5]; exact Dt.box_below _ _ _
       have hvga : v3.heap.size ≤ ga := by rw [hga]; exact HBV.out.size
       have hwga : w.heap.size ≤ ga := by rw [hga]; exact HKc.out.below.size
       have hnpa : p ≠ ga := by have h := World.block_lt_of_cell? v4 _ HKc.out.c0; dsimp only at h; omega
       have b0 : v5.cell? ⟨ga, 0, none⟩ = some (.slice none 0 0) := by rw [hv5, hga]; go_simp
       have b1 : v5.cell? ⟨ga, 1, none⟩ = some (.slice none 0 0) := by rw [hv5, hga]; go_simp
       have b2 : v5.cell? ⟨ga, 2, none⟩ = some (.slice none 0 0) := by rw [hv5, hga]; go_simp
       have HKc := Lib.hid (HKc.out.later hb9); have R := Lib.hid (RdT.later R.out hb9); have HBV := Lib.hid (HBV.out.trans (hb9.mono HBV.out.size)); have HZa : Hid (Kept [(⟨ga, 0, none⟩, .slice none 0 0), (⟨ga, 1, none⟩, .slice none 0 0), (⟨ga, 2, none⟩, .slice none 0 0)] v3 v5) := (((Kept.nil_of HBV.out).cons_of b2).cons_of b1).cons_of b0; have HFa : Hid (Free ga v5) := ⟨by rw [hv5, hga]; simp, fun j => by rw [hv5, hga]; go_simp⟩; (try rw [← hv5] at hHeld); rw [← hv5]; rw [← hga]; clear hga hv5 hb9 b0 b1 b2; refine wpAnyH_ready (rs := [1, 5]) (by kernel_rfl) (by simp) ?_; refine AllReadyH.cons (o := ⟨some 43, _, _, _, _, _⟩) rfl (fun K hK => ?_) (AllReadyH.cons (o := ⟨some 6, _, _, _, _, _⟩) rfl (fun K hK => ?_) (AllReadyH.nil))
       ·go_simp
        (go_at_call 10; refine (refknown_any t Ae Ak ne nk ce ck u m9 v5 HT.out (by have := N.out; omega) R.out HU.out.1 HU.out.2.1 (by have := HU.out.2.2; omega)).mono ?_); rintro e v6 ⟨Ba, da, rfl, hro, hb9⟩; have HRa : Hid (RO v6 (fun b => v3.heap.size ≤ b ∧ b ≠ ga) 3 Ba m9 da (spsC u)) := hro.mono fun b hb _ => ⟨Nat.le_trans HBV.out.size hb, (by have h := HFa.out.1; omega)⟩; clear hro; have HKc := Lib.hid (HKc.out.later hb9); have R := Lib.hid (RdT.later R.out hb9); have HBV := Lib.hid (HBV.out.trans (hb9.mono HBV.out.size)); have HZa := Lib.hid (HZa.out.later hb9); have HFa := Lib.hid (HFa.out.later hb9); clear hb9; clear hHeld; refine Th hK ?_ (fun hHeld => ?_)
        ·exact ⟨HKc.out.c0, HKc.out.c1⟩
        clear hK K; refine wpAnyH_ready (rs := [3, 5]) (by kernel_rfl) (by simp) ?_; refine AllReadyH.cons (o := ⟨some 45, _, _, _, _, _⟩) rfl (fun K hK => ?_) (AllReadyH.cons (o := ⟨some 6, _, _, _, _, _⟩) rfl (fun K hK => ?_) (AllReadyH.nil))
        ·go_simp
         (go_at_call 10; refine (refknown_any t Ae Ak ne nk ce ck u m9 v6 HT.out (by have := N.out; omega) R.out HU.out.1 HU.out.2.1 (by have := HU.out.2.2; omega)).mono ?_); rintro e v7 ⟨Bb, db, rfl, hro, hb9⟩; have HRb : Hid (RO v7 (fun b => v3.heap.size ≤ b ∧ b ≠ ga) 3 Bb m9 db (spsC u)) := hro.mono fun b hb _ => ⟨Nat.le_trans HBV.out.size hb, (by have h := HFa.out.1; omega)⟩; clear hro; have HKc := Lib.hid (HKc.out.later hb9); have R := Lib.hid (RdT.later R.out hb9); have HBV := Lib.hid (HBV.out.trans (hb9.mono HBV.out.size)); have HZa := Lib.hid (HZa.out.later hb9); have HFa := Lib.hid (HFa.out.later hb9); have HRa := Lib.hid (HRa.out.later hb9); clear hb9; clear hHeld; refine Th hK ?_ (fun hHeld => ?_)
         ·exact ⟨HKc.out.c0, HKc.out.c1⟩
         clear hK K; refine Tc 5 (fun K hK => ?_); go_simp; clear hHeld; refine Th hK ?_ (fun hHeld => ?_)
         ·exact ⟨(HKc.out.alloc _).c0, (HKc.out.alloc _).c1⟩
         clear hK K; obtain ⟨gb, hgb⟩ : ∃ g, g = v7.heap.size := ⟨_, rfl⟩; obtain ⟨v8, hv8⟩ : ∃ W, W = v7.alloc (.cells #[.slice none 0 0, .slice none 0 0, .slice none 0 0] 34) := ⟨_, rfl⟩
         have hb9 : Below v7.heap.size v7 v8 := by rw [hv8]; exact Dt.box_below _ _ _
         have hvgb : v3.heap.size ≤ gb := by rw [hgb]; exact HBV.out.size
         have hwgb : w.heap.size ≤ gb := by rw [hgb]; exact HKc.out.below.size
         have hnpb : p ≠ gb := by have h := World.block_lt_of_cell? v7 _ HKc.out.c0; dsimp only at h; omega
         have hne : ga ≠ gb := by have h := HFa.out.1; omega
         have hne2 : gb ≠ ga := hne.symm
         have b0 : v8.cell? ⟨gb, 0, none⟩ = some (.slice none 0 0) := by rw [hv8, hgb]; go_simp
         have b1 : v8.cell? ⟨gb, 1, none⟩ = some (.slice none 0 0) := by rw [hv8, hgb]; go_simp
         have b2 : v8.cell? ⟨gb, 2, none⟩ = some (.slice none 0 0) := by rw [hv8, hgb]; go_simp
         have HRa := Lib.hid (HRa.out.mono (ok' := fun b => v3.heap.size ≤ b ∧ b ≠ ga ∧ b ≠ gb) (fun b hb hlt => ⟨hb.1, hb.2, (by omega)⟩)); have HRb := Lib.hid (HRb.out.mono (ok' := fun b => v3.heap.size ≤ b ∧ b ≠ ga ∧ b ≠ gb) (fun b hb hlt => ⟨hb.1, hb.2, (by omega)⟩)); have HKc := Lib.hid (HKc.out.later hb9); have R := Lib.hid (RdT.later R.out hb9); have HBV := Lib.hid (HBV.out.trans (hb9.mono HBV.out.size)); have HZa := Lib.hid (HZa.out.later hb9); have HFa := Lib.hid (HFa.out.later hb9); have HRa := Lib.hid (HRa.out.later hb9); have HRb := Lib.hid (HRb.out.later hb9); have HZb : Hid (Kept [(⟨gb, 0, none⟩, .slice none 0 0), (⟨gb, 1, none⟩, .slice none 0 0), (⟨gb, 2, none⟩, .slice none 0 0)] v3 v8) := (((Kept.nil_of HBV.out).cons_of b2).cons_of b1).cons_of b0; have HFb : Hid (Free gb v8) := ⟨by rw [hv8, hgb]; simp, fun j => by rw [hv8, hgb]; go_simp⟩; (try rw [← hv8] at hHeld); rw [← hv8]
         rw [← hgb]; clear hgb hv8 hb9 b0 b1 b2; have z0 := HZa.out.c0; have m0 := HFa.out.2 0; have z1 := HZa.out.c1; have m1 := HFa.out.2 1; have z2 := HZa.out.c2; have m2 := HFa.out.2 2; have z3 := HZb.out.c0; have m3 := HFb.out.2 0; have z4 := HZb.out.c1; have m4 := HFb.out.2 1; have z5 := HZb.out.c2; have m5 := HFb.out.2 2; refine Tc 6 (fun K hK => ?_); go_simp; refine Th hK ?_ (fun hHeld2 => ?_)
         ·(try dsimp only)
          have h9 := HKc.out
          have h9 := h9.set (a := ⟨ga, 0, none⟩) hwga (fun x hx => by simp at hx; rcases hx with rfl | rfl <;> (dsimp only; omega)) (.slice Ae ne ce)
          have h9 := h9.set (a := ⟨ga, 1, none⟩) hwga (fun x hx => by simp at hx; rcases hx with rfl | rfl <;> (dsimp only; omega)) (.slice Ak nk ck)
          have h9 := h9.set (a := ⟨ga, 2, none⟩) hwga (fun x hx => by simp at hx; rcases hx with rfl | rfl <;> (dsimp only; omega)) (.slice Ba m9 da)
          exact ⟨h9.c0, h9.c1⟩
         clear hK K hHeld; have hHeld := hHeld2; clear hHeld2; refine Tc 7 (fun K hK => ?_); go_simp; refine Th hK ?_ (fun hHeld2 => ?_)
         ·(try dsimp only)
          have h9 := HKc.out
          have h9 := h9.set (a := ⟨ga, 0, none⟩) hwga (fun x hx => by simp at hx; rcases hx with rfl | rfl <;> (dsimp only; omega)) (.slice Ae ne ce)
          have h9 := h9.set (a := ⟨ga, 1, none⟩) hwga (fun x hx => by simp at hx; rcases hx with rfl | rfl <;> (dsimp only; omega)) (.slice Ak nk ck)
          have h9 := h9.set (a := ⟨ga, 2, none⟩) hwga (fun x hx => by simp at hx; rcases hx with rfl | rfl <;> (dsimp only; omega)) (.slice Ba m9 da)
          have h9 := h9.set (a := ⟨gb, 0, none⟩) hwgb (fun x hx => by simp at hx; rcases hx with rfl | rfl <;> (dsimp only; omega)) (.slice Ae ne ce)
          have h9 := h9.set (a := ⟨gb, 1, none⟩) hwgb (fun x hx => by simp at hx; rcases hx with rfl | rfl <;> (dsimp only; omega)) (.slice Ak nk ck)
          have h9 := h9.set (a := ⟨gb, 2, none⟩) hwgb (fun x hx => by simp at hx; rcases hx with rfl | rfl <;> (dsimp only; omega)) (.slice Bb m9 db)
          exact ⟨h9.c0, h9.c1⟩
         clear hK K hHeld; have hHeld := hHeld2; clear hHeld2; refine wpAnyH_done (by kernel_rfl) ?_ _; clear hHeld
         have HMID : Hid (MidK u v3 ⟨Ae, ne, ce⟩ ⟨Ak, nk, ck⟩ m9 ga gb Ba Bb da db ((((((v8.setCell ⟨ga, 0, none⟩ (.slice Ae ne ce)).setCell ⟨ga, 1, none⟩ (.slice Ak nk ck)).setCell ⟨ga, 2, none⟩ (.slice Ba m9 da)).setCell ⟨gb, 0, none⟩ (.slice Ae ne ce)).setCell ⟨gb, 1, none⟩ (.slice Ak nk ck)).setCell ⟨gb, 2, none⟩ (.slice Bb m9 db))) := by
          obtain ⟨W9, hW9⟩ : ∃ W, W = ((((((v8.setCell ⟨ga, 0, none⟩ (.slice Ae ne ce)).setCell ⟨ga, 1, none⟩ (.slice Ak nk ck)).setCell ⟨ga, 2, none⟩ (.slice Ba m9 da)).setCell ⟨gb, 0, none⟩ (.slice Ae ne ce)).setCell ⟨gb, 1, none⟩ (.slice Ak nk ck)).setCell ⟨gb, 2, none⟩ (.slice Bb m9 db)) := ⟨_, rfl⟩; rw [← hW9]
          have hb : Below v3.heap.size v3 W9 := by
           rw [hW9]; exact (((((HBV.out.setCell (p := ⟨ga, 0, none⟩) hvga _).setCell (p := ⟨ga, 1, none⟩) hvga _).setCell (p := ⟨ga, 2, none⟩) hvga _).setCell (p := ⟨gb, 0, none⟩) hvgb _).setCell (p := ⟨gb, 1, none⟩) hvgb _).setCell (p := ⟨gb, 2, none⟩) hvgb _
          have hs : v8.heap.size ≤ W9.heap.size := by rw [hW9]; simp [World.setCell]
          have hk : ∀ b, b ≠ ga → b ≠ gb → W9.heap[b]? = v8.heap[b]? := fun b h1 h2 => by rw [hW9, cells3_at b h2, cells3_at b h1]
          refine ⟨hne, hvga, hvgb, ⟨Nat.lt_of_lt_of_le HFa.out.1 hs, fun j => by rw [hW9]; simp only [World.frozen?_setCell]; exact HFa.out.2 j⟩, ⟨Nat.lt_of_lt_of_le HFb.out.1 hs, fun j => by rw [hW9]; simp only [World.frozen?_setCell]; exact HFb.out.2 j⟩, HRa.out.keep hs (fun b hb _ => hk b hb.2.1 hb.2.2), HRb.out.keep hs (fun b hb _ => hk b hb.2.1 hb.2.2), ?_⟩
          refine ((((((Kept.nil_of hb).cons_of ?_).cons_of ?_).cons_of ?_).cons_of ?_).cons_of ?_).cons_of ?_ <;> (rw [hW9]; go_simp)
         clear z0 z1 z2 z3 z4 z5 m0 m1 m2 m3 m4 m5; go_wp2_with fail; go_meet; exact ⟨ga, gb, Ba, Bb, da, db, rfl, rfl, HMID.out⟩
        ·go_simp
         clear hHeld; refine Th hK ?_ (fun hHeld => ?_)
         ·exact ⟨(HKc.out.alloc _).c0, (HKc.out.alloc _).c1⟩
         clear hK K; obtain ⟨gb, hgb⟩ : ∃ g, g = v6.heap.size := ⟨_, rfl⟩; obtain ⟨v7, hv7⟩ : ∃ W, W = v6.alloc (.cells #[.slice none 0 0, .slice none 0 0, .slice none 0 0] 34) := ⟨_, rfl⟩
         have hb9 : Below v6.heap.size v6 v7 := by rw [hv7]; exact Dt.box_below _ _ _
         have hvgb : v3.heap.size ≤ gb := by rw [hgb]; exact HBV.out.size
         have hwgb : w.heap.size ≤ gb := by rw [hgb]; exact HKc.out.below.size
         have hnpb : p ≠ gb := by have h := World.block_lt_of_cell? v6 _ HKc.out.c0; dsimp only at h; omega
         have hne : ga ≠ gb := by have h := HFa.out.1; omega
         have hne2 : gb ≠ ga := hne.symm
         have b0 : v7.cell? ⟨gb, 0, none⟩ = some (.slice none 0 0) := by rw [hv7, hgb]; go_simp
         have b1 : v7.cell? ⟨gb, 1, none⟩ = some (.slice none 0 0) := by rw [hv7, hgb]; go_simp
         have b2 : v7.cell? ⟨gb, 2, none⟩ = some (.slice none 0 0) := by rw [hv7, hgb]; go_simp
         have HRa := Lib.hid (HRa.out.mono (ok' := fun b => v3.heap.size ≤ b ∧ b ≠ ga ∧ b ≠ gb) (fun b hb hlt => ⟨hb.1, hb.2, (by omega)⟩)); have HKc := Lib.hid (HKc.out.later hb9); have R := Lib.hid (RdT.later R.out hb9); have HBV := Lib.hid (HBV.out.trans (hb9.mono HBV.out.size)); have HZa := Lib.hid (HZa.out.later hb9); have HFa := Lib.hid (HFa.out.later hb9); have HRa := Lib.hid (HRa.out.later hb9); have HZb : Hid (Kept [(⟨gb, 0, none⟩, .slice none 0 0), (⟨gb, 1, none⟩, .slice none 0 0), (⟨gb, 2, none⟩, .slice none 0 0)] v3 v7) := (((Kept.nil_of HBV.out).cons_of b2).cons_of b1).cons_of b0; have HFb : Hid (Free gb v7) := ⟨by rw [hv7, hgb]; simp, fun j => by rw [hv7, hgb]; go_simp⟩; (try rw [← hv7] at hHeld); rw [← hv7]; rw [← hgb]; clear hgb hv7 hb9 b0 b1 b2; refine Tc 3 (fun K hK => ?_); go_simp; (go_at_call 10; refine (refknown_any t Ae Ak ne nk ce ck u m9 v7 HT.out (by have := N.out; omega) R.out HU.out.1 HU.out.2.1 (by have := HU.out.2.2; omega)).mono ?_)
         rintro e v8 ⟨Bb, db, rfl, hro, hb9⟩; have HRb : Hid (RO v8 (fun b => v3.heap.size ≤ b ∧ b ≠ ga ∧ b ≠ gb) 3 Bb m9 db (spsC u)) := hro.mono fun b hb _ => ⟨Nat.le_trans HBV.out.size hb, (by have h := HFa.out.1; omega), (by have h := HFb.out.1; omega)⟩; clear hro; have HKc := Lib.hid (HKc.out.later hb9); have R := Lib.hid (RdT.later R.out hb9); have HBV := Lib.hid (HBV.out.trans (hb9.mono HBV.out.size)); have HZa := Lib.hid (HZa.out.later hb9); have HFa := Lib.hid (HFa.out.later hb9); have HRa := Lib.hid (HRa.out.later hb9); have HZb := Lib.hid (HZb.out.later hb9); have HFb := Lib.hid (HFb.out.later hb9); clear hb9; have z0 := HZa.out.c0; have m0 := HFa.out.2 0; have z1 := HZa.out.c1; have m1 := HFa.out.2 1; have z2 := HZa.out.c2; have m2 := HFa.out.2 2; have z3 := HZb.out.c0; have m3 := HFb.out.2 0; have z4 := HZb.out.c1; have m4 := HFb.out.2 1; have z5 := HZb.out.c2; have m5 := HFb.out.2 2
         clear hHeld; refine Th hK ?_ (fun hHeld => ?_)
         ·exact ⟨HKc.out.c0, HKc.out.c1⟩
         clear hK K; refine Tc 6 (fun K hK => ?_); go_simp; refine Th hK ?_ (fun hHeld2 => ?_)
         ·(try dsimp only)
          have h9 := HKc.out
          have h9 := h9.set (a := ⟨ga, 0, none⟩) hwga (fun x hx => by simp at hx; rcases hx with rfl | rfl <;> (dsimp only; omega)) (.slice Ae ne ce)
          have h9 := h9.set (a := ⟨ga, 1, none⟩) hwga (fun x hx => by simp at hx; rcases hx with rfl | rfl <;> (dsimp only; omega)) (.slice Ak nk ck)
          have h9 := h9.set (a := ⟨ga, 2, none⟩) hwga (fun x hx => by simp at hx; rcases hx with rfl | rfl <;> (dsimp only; omega)) (.slice Ba m9 da)
          exact ⟨h9.c0, h9.c1⟩
         clear hK K hHeld; have hHeld := hHeld2; clear hHeld2; refine Tc 7 (fun K hK => ?_); go_simp; refine Th hK ?_ (fun hHeld2 => ?_)
         ·(try dsimp only)
          have h9 := HKc.out
          have h9 := h9.set (a := ⟨ga, 0, none⟩) hwga (fun x hx => by simp at hx; rcases hx with rfl | rfl <;> (dsimp only; omega)) (.slice Ae ne ce)
          have h9 := h9.set (a := ⟨ga, 1, none⟩) hwga (fun x hx => by simp at hx; rcases hx with rfl | rfl <;> (dsimp only; omega)) (.slice Ak nk ck)
          have h9 := h9.set (a := ⟨ga, 2, none⟩) hwga (fun x hx => by simp at hx; rcases hx with rfl | rfl <;> (dsimp only; omega)) (.slice Ba m9 da)
          have h9 := h9.set (a := ⟨gb, 0, none⟩) hwgb (fun x hx => by simp at hx; rcases hx with rfl | rfl <;> (dsimp only; omega)) (.slice Ae ne ce)
          have h9 := h9.set (a := ⟨gb, 1, none⟩) hwgb (fun x hx => by simp at hx; rcases hx with rfl | rfl <;> (dsimp only; omega)) (.slice Ak nk ck)
          have h9 := h9.set (a := ⟨gb, 2, none⟩) hwgb (fun x hx => by simp at hx; rcases hx with rfl | rfl <;> (dsimp only; omega)) (.slice Bb m9 db)
          exact ⟨h9.c0, h9.c1⟩
         clear hK K hHeld; have hHeld := hHeld2; clear hHeld2; refine wpAnyH_done (by kernel_rfl) ?_ _; clear hHeld
         have HMID : Hid (MidK u v3 ⟨Ae, ne, ce⟩ ⟨Ak, nk, ck⟩ m9 ga gb Ba Bb da db ((((((v8.setCell ⟨ga, 0, none⟩ (.slice Ae ne ce)).setCell ⟨ga, 1, none⟩ (.slice Ak nk ck)).setCell ⟨ga, 2, none⟩ (.slice Ba m9 da)).setCell ⟨gb, 0, none⟩ (.slice Ae ne ce)).setCell ⟨gb, 1, none⟩ (.slice Ak nk ck)).setCell ⟨gb, 2, none⟩ (.slice Bb m9 db))) := by
          obtain ⟨W9, hW9⟩ : ∃ W, W = ((((((v8.setCell ⟨ga, 0, none⟩ (.slice Ae ne ce)).setCell ⟨ga, 1, none⟩ (.slice Ak nk ck)).setCell ⟨ga, 2, none⟩ (.slice Ba m9 da)).setCell ⟨gb, 0, none⟩ (.slice Ae ne ce)).setCell ⟨gb, 1, none⟩ (.slice Ak nk ck)).setCell ⟨gb, 2, none⟩ (.slice Bb m9 db)) := ⟨_, rfl⟩; rw [← hW9]
          have hb : Below v3.heap.size v3 W9 := by
           rw [hW9]; exact (((((HBV.out.setCell (p := ⟨ga, 0, none⟩) hvga _).setCell (p := ⟨ga, 1, none⟩) hvga _).setCell (p := ⟨ga, 2, none⟩) hvga _).setCell (p := ⟨gb, 0, none⟩) hvgb _).setCell (p := ⟨gb, 1, none⟩) hvgb _).setCell (p := ⟨gb, 2, none⟩) hvgb _
          have hs : v8.heap.size ≤ W9.heap.size := by rw [hW9]; simp [World.setCell]
          have hk : ∀ b, b ≠ ga → b ≠ gb → W9.heap[b]? = v8.heap[b]? := fun b h1 h2 => by rw [hW9, cells3_at b h2, cells3_at b h1]
          refine ⟨hne, hvga, hvgb, ⟨Nat.lt_of_lt_of_le HFa.out.1 hs, fun j => by rw [hW9]; simp only [World.frozen?_setCell]; exact HFa.out.2 j⟩, ⟨Nat.lt_of_lt_of_le HFb.out.1 hs, fun j => by rw [hW9]; simp only [World.frozen?_setCell]; exact HFb.out.2 j⟩, HRa.out.keep hs (fun b hb _ => hk b hb.2.1 hb.2.2), HRb.out.keep hs (fun b hb _ => hk b hb.2.1 hb.2.2), ?_⟩
          refine ((((((Kept.nil_of hb).cons_of ?_).cons_of ?_).cons_of ?_).cons_of ?_).cons_of ?_).cons_of ?_ <;> (rw [hW9]; go_simp)
         clear z0 z1 z2 z3 z4 z5 m0 m1 m2 m3 m4 m5; go_wp2_with fail; go_meet; exact ⟨ga, gb, Ba, Bb, da, db, rfl, rfl, HMID.out⟩
       ·go_simp
        clear hHeld; refine Th hK ?_ (fun hHeld => ?_)
        ·exact ⟨(HKc.out.alloc _).c0, (HKc.out.alloc _).c1⟩
        clear hK K; obtain ⟨gb, hgb⟩ : ∃ g, g = v5.heap.size := ⟨_, rfl⟩; obtain ⟨v6, hv6⟩ : ∃ W, W = v5.alloc (.cells #[.slice none 0 0, .slice none 0 0, .slice none 0 0] 34) := ⟨_, rfl⟩
        have hb9 : Below v5.heap.size v5 v6 := by rw [hv6]; exact Dt.box_below _ _ _
        have hvgb : v3.heap.size ≤ gb := by rw [hgb]; exact HBV.out.size
        have hwgb : w.heap.size ≤ gb := by rw [hgb]; exact HKc.out.below.size
        have hnpb : p ≠ gb := by have h := World.block_lt_of_cell? v5 _ HKc.out.c0; dsimp only at h; omega
        have hne : ga ≠ gb := by have h := HFa.out.1; omega
        have hne2 : gb ≠ ga := hne.symm
        have b0 : v6.cell? ⟨gb, 0, none⟩ = some (.slice none 0 0) := by rw [hv6, hgb]; go_simp
        have b1 : v6.cell? ⟨gb, 1, none⟩ = some (.slice none 0 0) := by rw [hv6, hgb]; go_simp
        have b2 : v6.cell? ⟨gb, 2, none⟩ = some (.slice none 0 0) := by rw [hv6, hgb]; go_simp
        have HKc := Lib.hid (HKc.out.later hb9); have R := Lib.hid (RdT.later R.out hb9); have HBV := Lib.hid (HBV.out.trans (hb9.mono HBV.out.size)); have HZa := Lib.hid (HZa.out.later hb9); have HFa := Lib.hid (HFa.out.later hb9); have HZb : Hid (Kept [(⟨gb, 0, none⟩, .slice none 0 0), (⟨gb, 1, none⟩, .slice none 0 0), (⟨gb, 2, none⟩, .slice none 0 0)] v3 v6) := (((Kept.nil_of HBV.out).cons_of b2).cons_of b1).cons_of b0; have HFb : Hid (Free gb v6) := ⟨by rw [hv6, hgb]; simp, fun j => by rw [hv6, hgb]; go_simp⟩; (try rw [← hv6] at hHeld); rw [← hv6]; rw [← hgb]; clear hgb hv6 hb9 b0 b1 b2; refine Tc 1 (fun K hK => ?_); go_simp; (go_at_call 10; refine (refknown_any t Ae Ak ne nk ce ck u m9 v6 HT.out (by have := N.out; omega) R.out HU.out.1 HU.out.2.1 (by have := HU.out.2.2; omega)).mono ?_); rintro e v7 ⟨Ba, da, rfl, hro, hb9⟩; have HRa : Hid (RO v7 (fun b => v3.heap.size ≤ b ∧ b ≠ ga ∧ b ≠ gb) 3 Ba m9 da (spsC u)) := hro.mono fun b hb _ => ⟨Nat.le_trans HBV.out.size hb, (by have h := HFa.out.1; omega), (by have h := HFb.out.1; omega)⟩
        clear hro; have HKc := Lib.hid (HKc.out.later hb9); have R := Lib.hid (RdT.later R.out hb9); have HBV := Lib.hid (HBV.out.trans (hb9.mono HBV.out.size)); have HZa := Lib.hid (HZa.out.later hb9); have HFa := Lib.hid (HFa.out.later hb9); have HZb := Lib.hid (HZb.out.later hb9); have HFb := Lib.hid (HFb.out.later hb9); clear hb9; clear hHeld; refine Th hK ?_ (fun hHeld => ?_)
        ·exact ⟨HKc.out.c0, HKc.out.c1⟩
        clear hK K; refine Tc 3 (fun K hK => ?_); go_simp; (go_at_call 10; refine (refknown_any t Ae Ak ne nk ce ck u m9 v7 HT.out (by have := N.out; omega) R.out HU.out.1 HU.out.2.1 (by have := HU.out.2.2; omega)).mono ?_); rintro e v8 ⟨Bb, db, rfl, hro, hb9⟩; have HRb : Hid (RO v8 (fun b => v3.heap.size ≤ b ∧ b ≠ ga ∧ b ≠ gb) 3 Bb m9 db (spsC u)) := hro.mono fun b hb _ => ⟨Nat.le_trans HBV.out.size hb, (by have h := HFa.out.1; omega), (by have h := HFb.out.1; omega)⟩; clear hro; have HKc := Lib.hid (HKc.out.later hb9); have R := Lib.hid (RdT.later R.out hb9); have HBV := Lib.hid (HBV.out.trans (hb9.mono HBV.out.size)); have HZa := Lib.hid (HZa.out.later hb9); have HFa := Lib.hid (HFa.out.later hb9); have HZb := Lib.hid (HZb.out.later hb9); have HFb := Lib.hid (HFb.out.later hb9); have HRa := Lib.hid (HRa.out.later hb9); clear hb9; have z0 := HZa.out.c0; have m0 := HFa.out.2 0
        have z1 := HZa.out.c1; have m1 := HFa.out.2 1; have z2 := HZa.out.c2; have m2 := HFa.out.2 2; have z3 := HZb.out.c0; have m3 := HFb.out.2 0; have z4 := HZb.out.c1; have m4 := HFb.out.2 1; have z5 := HZb.out.c2; have m5 := HFb.out.2 2; clear hHeld; refine Th hK ?_ (fun hHeld => ?_)
        ·exact ⟨HKc.out.c0, HKc.out.c1⟩
        clear hK K; refine Tc 6 (fun K hK => ?_); go_simp; refine Th hK ?_ (fun hHeld2 => ?_)
        ·(try dsimp only)
         have h9 := HKc.out
         have h9 := h9.set (a := ⟨ga, 0, none⟩) hwga (fun x hx => by simp at hx; rcases hx with rfl | rfl <;> (dsimp only; omega)) (.slice Ae ne ce)
         have h9 := h9.set (a := ⟨ga, 1, none⟩) hwga (fun x hx => by simp at hx; rcases hx with rfl | rfl <;> (dsimp only; omega)) (.slice Ak nk ck)
         have h9 := h9.set (a := ⟨ga, 2, none⟩) hwga (fun x hx => by simp at hx; rcases hx with rfl | rfl <;> (dsimp only; omega)) (.slice Ba m9 da)
         exact ⟨h9.c0, h9.c1⟩
        clear hK K hHeld; have hHeld := hHeld2; clear hHeld2; refine Tc 7 (fun K hK => ?_); go_simp; refine Th hK ?_ (fun hHeld2 => ?_)
        ·(try dsimp only)
         have h9 := HKc.out
         have h9 := h9.set (a := ⟨ga, 0, none⟩) hwga (fun x hx => by simp at hx; rcases hx with rfl | rfl <;> (dsimp only; omega)) (.slice Ae ne ce)
         have h9 := h9.set (a := ⟨ga, 1, none⟩) hwga (fun x hx => by simp at hx; rcases hx with rfl | rfl <;> (dsimp only; omega)) (.slice Ak nk ck)
         have h9 := h9.set (a := ⟨ga, 2, none⟩) hwga (fun x hx => by simp at hx; rcases hx with rfl | rfl <;> (dsimp only; omega)) (.slice Ba m9 da)
         have h9 := h9.set (a := ⟨gb, 0, none⟩) hwgb (fun x hx => by simp at hx; rcases hx with rfl | rfl <;> (dsimp only; omega)) (.slice Ae ne ce)
         have h9 := h9.set (a := ⟨gb, 1, none⟩) hwgb (fun x hx => by simp at hx; rcases hx with rfl | rfl <;> (dsimp only; omega)) (.slice Ak nk ck)
         have h9 := h9.set (a := ⟨gb, 2, none⟩) hwgb (fun x hx => by simp at hx; rcases hx with rfl | rfl <;> (dsimp only; omega)) (.slice Bb m9 db)
         exact ⟨h9.c0, h9.c1⟩
        clear hK K hHeld; have hHeld := hHeld2; clear hHeld2; refine wpAnyH_done (by kernel_rfl) ?_ _; clear hHeld
        have HMID : Hid (MidK u v3 ⟨Ae, ne, ce⟩ ⟨Ak, nk, ck⟩ m9 ga gb Ba Bb da db ((((((v8.setCell ⟨ga, 0, none⟩ (.slice Ae ne ce)).setCell ⟨ga, 1, none⟩ (.slice Ak nk ck)).setCell ⟨ga, 2, none⟩ (.slice Ba m9 da)).setCell ⟨gb, 0, none⟩ (.slice Ae ne ce)).setCell ⟨gb, 1, none⟩ (.slice Ak nk ck)).setCell ⟨gb, 2, none⟩ (.slice Bb m9 db))) := by
         obtain ⟨W9, hW9⟩ : ∃ W, W = ((((((v8.setCell ⟨ga, 0, none⟩ (.slice Ae ne ce)).setCell ⟨ga, 1, none⟩ (.slice Ak nk ck)).setCell ⟨ga, 2, none⟩ (.slice Ba m9 da)).setCell ⟨gb, 0, none⟩ (.slice Ae ne ce)).setCell ⟨gb, 1, none⟩ (.slice Ak nk ck)).setCell ⟨gb, 2, none⟩ (.slice Bb m9 db)) := ⟨_, rfl⟩; rw [← hW9]
         have hb : Below v3.heap.size v3 W9 := by
          rw [hW9]; exact (((((HBV.out.setCell (p := ⟨ga, 0, none⟩) hvga _).setCell (p := ⟨ga, 1, none⟩) hvga _).setCell (p := ⟨ga, 2, none⟩) hvga _).setCell (p := ⟨gb, 0, none⟩) hvgb _).setCell (p := ⟨gb, 1, none⟩) hvgb _).setCell (p := ⟨gb, 2, none⟩) hvgb _
         have hs : v8.heap.size ≤ W9.heap.size := by rw [hW9]; simp [World.setCell]
         have hk : ∀ b, b ≠ ga → b ≠ gb → W9.heap[b]? = v8.heap[b]? := fun b h1 h2 => by rw [hW9, cells3_at b h2, cells3_at b h1]
         refine ⟨hne, hvga, hvgb, ⟨Nat.lt_of_lt_of_le HFa.out.1 hs, fun j => by rw [hW9]; simp only [World.frozen?_setCell]; exact HFa.out.2 j⟩, ⟨Nat.lt_of_lt_of_le HFb.out.1 hs, fun j => by rw [hW9]; simp only [World.frozen?_setCell]; exact HFb.out.2 j⟩, HRa.out.keep hs (fun b hb _ => hk b hb.2.1 hb.2.2), HRb.out.keep hs (fun b hb _ => hk b hb.2.1 hb.2.2), ?_⟩
         refine ((((((Kept.nil_of hb).cons_of ?_).cons_of ?_).cons_of ?_).cons_of ?_).cons_of ?_).cons_of ?_ <;> (rw [hW9]; go_simp)
        clear z0 z1 z2 z3 z4 z5 m0 m1 m2 m3 m4 m5; go_wp2_with fail; go_meet; exact ⟨ga, gb, Ba, Bb, da, db, rfl, rfl, HMID.out⟩
      ·go_simp
       clear hHeld; refine Th hK ?_ (fun hHeld => ?_)
       ·exact ⟨(HKc.out.alloc _).c0, (HKc.out.alloc _).c1⟩
       clear hK K; obtain ⟨gb, hgb⟩ : ∃ g, g = v4.heap.size := ⟨_, rfl⟩; obtain ⟨v5, hv5⟩ : ∃ W, W = v4.alloc (.cells #[.slice none 0 0, .slice none 0 0, .slice none 0 0] 34) := ⟨_, rfl⟩
       have hb9 : Below v4.heap.size v4 v5 := by rw [hv5]; exact Dt.box_below _ _ _
       have hvgb : v3.heap.size ≤ gb := by rw [hgb]; exact HBV.out.size
       have hwgb : w.heap.size ≤ gb := by rw [hgb]; exact HKc.out.below.size
       have hnpb : p ≠ gb := by have h := World.block_lt_of_cell? v4 _ HKc.out.c0; dsimp only at h; omega
       have b0 : v5.cell? ⟨gb, 0, none⟩ = some (.slice none 0 0) := by rw [hv5, hgb]; go_simp
       have b1 : v5.cell? ⟨gb, 1, none⟩ = some (.slice none 0 0) := by rw [hv5, hgb]; go_simp
       have b2 : v5.cell? ⟨gb, 2, none⟩ = some (.slice none 0 0) := by rw [hv5, hgb]; go_simp
       have HKc := Lib.hid (HKc.out.later hb9); have R := Lib.hid (RdT.later R.out hb9); have HBV := Lib.hid (HBV.out.trans (hb9.mono HBV.out.size)); have HZb : Hid (Kept [(⟨gb, 0, none⟩, .slice none 0 0), (⟨gb, 1, none⟩, .slice none 0 0), (⟨gb, 2, none⟩, .slice none 0 0)] v3 v5) := (((Kept.nil_of HBV.out).cons_of b2).cons_of b1).cons_of b0; have HFb : Hid (Free gb v5) := ⟨by rw [hv5, hgb]; simp, fun j => by rw [hv5, hgb]; go_simp⟩; (try rw [← hv5] at hHeld); rw [← hv5]; rw [← hgb]; clear hgb hv5 hb9 b0 b1 b2; refine wpAnyH_ready (rs := [1, 4]) (by kernel_rfl) (by simp) ?_; refine AllReadyH.cons (o := ⟨some 43, _, _, _, _, _⟩) rfl (fun K hK => ?_) (AllReadyH.cons (o := ⟨some 5, _, _, _, _, _⟩) rfl (fun K hK => ?_) (AllReadyH.nil))
       ·go_simp
        (go_at_call 10; refine (refknown_any t Ae Ak ne nk ce ck u m9 v5 HT.out (by have := N.out; omega) R.out HU.out.1 HU.out.2.1 (by have := HU.out.2.2; omega)).mono ?_); rintro e v6 ⟨Ba, da, rfl, hro, hb9⟩; have HRa : Hid (RO v6 (fun b => v3.heap.size ≤ b ∧ b ≠ gb) 3 Ba m9 da (spsC u)) := hro.mono fun b hb _ => ⟨Nat.le_trans HBV.out.size hb, (by have h := HFb.out.1; omega)⟩; clear hro; have HKc := Lib.hid (HKc.out.later hb9); have R := Lib.hid (RdT.later R.out hb9); have HBV := Lib.hid (HBV.out.trans (hb9.mono HBV.out.size)); have HZb := Lib.hid (HZb.out.later hb9); have HFb := Lib.hid (HFb.out.later hb9); clear hb9; clear hHeld; refine Th hK ?_ (fun hHeld => ?_)
        ·exact ⟨HKc.out.c0, HKc.out.c1⟩
        clear hK K; refine wpAnyH_ready (rs := [3, 4]) (by kernel_rfl) (by simp) ?_; refine AllReadyH.cons (o := ⟨some 45, _, _, _, _, _⟩) rfl (fun K hK => ?_) (AllReadyH.cons (o := ⟨some 5, _, _, _, _, _⟩) rfl (fun K hK => ?_) (AllReadyH.nil))
        ·go_simp
         (go_at_call 10; refine (refknown_any t Ae Ak ne nk ce ck u m9 v6 HT.out (by have := N.out; omega) R.out HU.out.1 HU.out.2.1 (by have := HU.out.2.2; omega)).mono ?_); rintro e v7 ⟨Bb, db, rfl, hro, hb9⟩; have HRb : Hid (RO v7 (fun b => v3.heap.size ≤ b ∧ b ≠ gb) 3 Bb m9 db (spsC u)) := hro.mono fun b hb _ => ⟨Nat.le_trans HBV.out.size hb, (by have h := HFb.out.1; omega)⟩; clear hro; have HKc := Lib.hid (HKc.out.later hb9); have R := Lib.hid (RdT.later R.out hb9); have HBV := Lib.hid (HBV.out.trans (hb9.mono HBV.out.size)); have HZb := Lib.hid (HZb.out.later hb9); have HFb := Lib.hid (HFb.out.later hb9); have HRa := Lib.hid (HRa.out.later hb9); clear hb9; clear hHeld; refine Th hK ?_ (fun hHeld => ?_)
         ·exact ⟨HKc.out.c0, HKc.out.c1⟩
         clear hK K; refine Tc 4 (fun K hK => ?_); go_simp; clear hHeld; refine Th hK ?_ (fun hHeld => ?_)
         ·exact ⟨(HKc.out.alloc _).c0, (HKc.out.alloc _).c1⟩
         clear hK K; obtain ⟨ga, hga⟩ : ∃ g, g = v7.heap.size := ⟨_, rfl⟩; obtain ⟨v8, hv8⟩ : ∃ W, W = v7.alloc (.cells #[.slice none 0 0, .slice none 0 0, .slice none 0 0] 34) := ⟨_, rfl⟩
         have hb9 : Below v7.heap.size v7 v8 := by rw [hv8]; exact Dt.box_below _ _ _
         have hvga : v3.heap.size ≤ ga := by rw [hga]; exact HBV.out.size
         have hwga : w.heap.size ≤ ga := by rw [hga]; exact HKc.out.below.size
         have hnpa : p ≠ ga := by have h := World.block_lt_of_cell? v7 _ HKc.out.c0; dsimp only at h; omega
         have hne : ga ≠ gb := by have h := HFb.out.1; omega
         have hne2 : gb ≠ ga := hne.symm
         have b0 : v8.cell? ⟨ga, 0, none⟩ = some (.slice none 0 0) := by rw [hv8, hga]; go_simp
         have b1 : v8.cell? ⟨ga, 1, none⟩ = some (.slice none 0 0) := by rw [hv8, hga]; go_simp
         have b2 : v8.cell? ⟨ga, 2, none⟩ = some (.slice none 0 0) := by rw [hv8, hga]; go_simp
         have HRa := Lib.hid (HRa.out.mono (ok' := fun b => v3.heap.size ≤ b ∧ b ≠ ga ∧ b ≠ gb) (fun b hb hlt => ⟨hb.1, (by omega), hb.2⟩)); have HRb := Lib.hid (HRb.out.mono (ok' := fun b => v3.heap.size ≤ b ∧ b ≠ ga ∧ b ≠ gb) (fun b hb hlt => ⟨hb.1, (by omega), hb.2⟩)); have HKc := Lib.hid (HKc.out.later hb9); have R := Lib.hid (RdT.later R.out hb9); have HBV := Lib.hid (HBV.out.trans (hb9.mono HBV.out.size)); have HZb := Lib.hid (HZb.out.later hb9); have HFb := Lib.hid (HFb.out.later hb9); have HRa := Lib.hid (HRa.out.later hb9); have HRb := Lib.hid (HRb.out.later hb9); have HZa : Hid (Kept [(⟨ga, 0, none⟩, .slice none 0 0), (⟨ga, 1, none⟩, .slice none 0 0), (⟨ga, 2, none⟩, .slice none 0 0)] v3 v8) := (((Kept.nil_of HBV.out).cons_of b2).cons_of b1).cons_of b0; have HFa : Hid (Free ga v8) := ⟨by rw [hv8, hga]; simp, fun j => by rw [hv8, hga]; go_simp⟩; (try rw [← hv8] at hHeld); rw [← hv8]
         rw [← hga]; clear hga hv8 hb9 b0 b1 b2; have z0 := HZa.out.c0; have m0 := HFa.out.2 0; have z1 := HZa.out.c1; have m1 := HFa.out.2 1; have z2 := HZa.out.c2; have m2 := HFa.out.2 2; have z3 := HZb.out.c0; have m3 := HFb.out.2 0; have z4 := HZb.out.c1; have m4 := HFb.out.2 1; have z5 := HZb.out.c2; have m5 := HFb.out.2 2; refine Tc 6 (fun K hK => ?_); go_simp; refine Th hK ?_ (fun hHeld2 => ?_)
         ·(try dsimp only)
          have h9 := HKc.out
          have h9 := h9.set (a := ⟨ga, 0, none⟩) hwga (fun x hx => by simp at hx; rcases hx with rfl | rfl <;> (dsimp only; omega)) (.slice Ae ne ce)
          have h9 := h9.set (a := ⟨ga, 1, none⟩) hwga (fun x hx => by simp at hx; rcases hx with rfl | rfl <;> (dsimp only; omega)) (.slice Ak nk ck)
          have h9 := h9.set (a := ⟨ga, 2, none⟩) hwga (fun x hx => by simp at hx; rcases hx with rfl | rfl <;> (dsimp only; omega)) (.slice Ba m9 da)
          exact ⟨h9.c0, h9.c1⟩
         clear hK K hHeld; have hHeld := hHeld2; clear hHeld2; refine Tc 7 (fun K hK => ?_); go_simp; refine Th hK ?_ (fun hHeld2 => ?_)
         ·(try dsimp only)
          have h9 := HKc.out
          have h9 := h9.set (a := ⟨ga, 0, none⟩) hwga (fun x hx => by simp at hx; rcases hx with rfl | rfl <;> (dsimp only; omega)) (.slice Ae ne ce)
          have h9 := h9.set (a := ⟨ga, 1, none⟩) hwga (fun x hx => by simp at hx; rcases hx with rfl | rfl <;> (dsimp only; omega)) (.slice Ak nk ck)
          have h9 := h9.set (a := ⟨ga, 2, none⟩) hwga (fun x hx => by simp at hx; rcases hx with rfl | rfl <;> (dsimp only; omega)) (.slice Ba m9 da)
          have h9 := h9.set (a := ⟨gb, 0, none⟩) hwgb (fun x hx => by simp at hx; rcases hx with rfl | rfl <;> (dsimp only; omega)) (.slice Ae ne ce)
          have h9 := h9.set (a := ⟨gb, 1, none⟩) hwgb (fun x hx => by simp at hx; rcases hx with rfl | rfl <;> (dsimp only; omega)) (.slice Ak nk ck)
          have h9 := h9.set (a := ⟨gb, 2, none⟩) hwgb (fun x hx => by simp at hx; rcases hx with rfl | rfl <;> (dsimp only; omega)) (.slice Bb m9 db)
          exact ⟨h9.c0, h9.c1⟩
         clear hK K hHeld; have hHeld := hHeld2; clear hHeld2; refine wpAnyH_done (by kernel_rfl) ?_ _; clear hHeld
         have HMID : Hid (MidK u v3 ⟨Ae, ne, ce⟩ ⟨Ak, nk, ck⟩ m9 ga gb Ba Bb da db ((((((v8.setCell ⟨ga, 0, none⟩ (.slice Ae ne ce)).setCell ⟨ga, 1, none⟩ (.slice Ak nk ck)).setCell ⟨ga, 2, none⟩ (.slice Ba m9 da)).setCell ⟨gb, 0, none⟩ (.slice Ae ne ce)).setCell ⟨gb, 1, none⟩ (.slice Ak nk ck)).setCell ⟨gb, 2, none⟩ (.slice Bb m9 db))) := by
          obtain ⟨W9, hW9⟩ : ∃ W, W = ((((((v8.setCell ⟨ga, 0, none⟩ (.slice Ae ne ce)).setCell ⟨ga, 1, none⟩ (.slice Ak nk ck)).setCell ⟨ga, 2, none⟩ (.slice Ba m9 da)).setCell ⟨gb, 0, none⟩ (.slice Ae ne ce)).setCell ⟨gb, 1, none⟩ (.slice Ak nk ck)).setCell ⟨gb, 2, none⟩ (.slice Bb m9 db)) := ⟨_, rfl⟩; rw [← hW9]
          have hb : Below v3.heap.size v3 W9 := by
           rw [hW9]; exact (((((HBV.out.setCell (p := ⟨ga, 0, none⟩) hvga _).setCell (p := ⟨ga, 1, none⟩) hvga _).setCell (p := ⟨ga, 2, none⟩) hvga _).setCell (p := ⟨gb, 0, none⟩) hvgb _).setCell (p := ⟨gb, 1, none⟩) hvgb _).setCell (p := ⟨gb, 2, none⟩) hvgb _
          have hs : v8.heap.size ≤ W9.heap.size := by rw [hW9]; simp [World.setCell]
          have hk : ∀ b, b ≠ ga → b ≠ gb → W9.heap[b]? = v8.heap[b]? := fun b h1 h2 => by rw [hW9, cells3_at b h2, cells3_at b h1]
          refine ⟨hne, hvga, hvgb, ⟨Nat.lt_of_lt_of_le HFa.out.1 hs, fun j => by rw [hW9]; simp only [World.frozen?_setCell]; exact HFa.out.2 j⟩, ⟨Nat.lt_of_lt_of_le HFb.out.1 hs, fun j => by rw [hW9]; simp only [World.frozen?_setCell]; exact HFb.out.2 j⟩, HRa.out.keep hs (fun b hb _ => hk b hb.2.1 hb.2.2), HRb.out.keep hs (fun b hb _ => hk b hb.2.1 hb.2.2), ?_⟩
          refine ((((((Kept.nil_of hb).cons_of ?_).cons_of ?_).cons_of ?_).cons_of ?_).cons_of ?_).cons_of ?_ <;> (rw [hW9]; go_simp)
         clear z0 z1 z2 z3 z4 z5 m0 m1 m2 m3 m4 m5; go_wp2_with fail; go_meet; exact ⟨ga, gb, Ba, Bb, da, db, rfl, rfl, HMID.out⟩
        ·go_simp
         clear hHeld; refine Th hK ?_ (fun hHeld => ?_)
         ·exact ⟨(HKc.out.alloc _).c0, (HKc.out.alloc _).c1⟩
         clear hK K; obtain ⟨ga, hga⟩ : ∃ g, g = v6.heap.size := ⟨_, rfl⟩; obtain ⟨v7, hv7⟩ : ∃ W, W = v6.alloc (.cells #[.slice none 0 0, .slice none 0 0, .slice none 0 0] 34) := ⟨_, rfl⟩
         have hb9 : Below v6.heap.size v6 v7 := by rw [hv7]; exact Dt.box_below _ _ _
         have hvga : v3.heap.size ≤ ga := by rw [hga]; exact HBV.out.size
         have hwga : w.heap.size ≤ ga := by rw [hga]; exact HKc.out.below.size
         have hnpa : p ≠ ga := by have h := World.block_lt_of_cell? v6 _ HKc.out.c0; dsimp only at h; omega
         have hne : ga ≠ gb := by have h := HFb.out.1; omega
         have hne2 : gb ≠ ga := hne.symm
         have b0 : v7.cell? ⟨ga, 0, none⟩ = some (.slice none 0 0) := by rw [hv7, hga]; go_simp
         have b1 : v7.cell? ⟨ga, 1, none⟩ = some (.slice none 0 0) := by rw [hv7, hga]; go_simp
         have b2 : v7.cell? ⟨ga, 2, none⟩ = some (.slice none 0 0) := by rw [hv7, hga]; go_simp
         have HRa := Lib.hid (HRa.out.mono (ok' := fun b => v3.heap.size ≤ b ∧ b ≠ ga ∧ b ≠ gb) (fun b hb hlt => ⟨hb.1, (by omega), hb.2⟩)); have HKc := Lib.hid (HKc.out.later hb9); have R := Lib.hid (RdT.later R.out hb9); have HBV := Lib.hid (HBV.out.trans (hb9.mono HBV.out.size)); have HZb := Lib.hid (HZb.out.later hb9); have HFb := Lib.hid (HFb.out.later hb9); have HRa := Lib.hid (HRa.out.later hb9); have HZa : Hid (Kept [(⟨ga, 0, none⟩, .slice none 0 0), (⟨ga, 1, none⟩, .slice none 0 0), (⟨ga, 2, none⟩, .slice none 0 0)] v3 v7) := (((Kept.nil_of HBV.out).cons_of b2).cons_of b1).cons_of b0; have HFa : Hid (Free ga v7) := ⟨by rw [hv7, hga]; simp, fun j => by rw [hv7, hga]; go_simp⟩; (try rw [← hv7] at hHeld); rw [← hv7]; rw [← hga]; clear hga hv7 hb9 b0 b1 b2; refine Tc 3 (fun K hK => ?_); go_simp; (go_at_call 10; refine (refknown_any t Ae Ak ne nk ce ck u m9 v7 HT.out (by have := N.out; omega) R.out HU.out.1 HU.out.2.1 (by have := HU.out.2.2; omega)).mono ?_)
         rintro e v8 ⟨Bb, db, rfl, hro, hb9⟩; have HRb : Hid (RO v8 (fun b => v3.heap.size ≤ b ∧ b ≠ ga ∧ b ≠ gb) 3 Bb m9 db (spsC u)) := hro.mono fun b hb _ => ⟨Nat.le_trans HBV.out.size hb, (by have h := HFa.out.1; omega), (by have h := HFb.out.1; omega)⟩; clear hro; have HKc := Lib.hid (HKc.out.later hb9); have R := Lib.hid (RdT.later R.out hb9); have HBV := Lib.hid (HBV.out.trans (hb9.mono HBV.out.size)); have HZb := Lib.hid (HZb.out.later hb9); have HFb := Lib.hid (HFb.out.later hb9); have HRa := Lib.hid (HRa.out.later hb9); have HZa := Lib.hid (HZa.out.later hb9); have HFa := Lib.hid (HFa.out.later hb9); clear hb9; have z0 := HZa.out.c0; have m0 := HFa.out.2 0; have z1 := HZa.out.c1; have m1 := HFa.out.2 1; have z2 := HZa.out.c2; have m2 := HFa.out.2 2; have z3 := HZb.out.c0; have m3 := HFb.out.2 0; have z4 := HZb.out.c1; have m4 := HFb.out.2 1; have z5 := HZb.out.c2; have m5 := HFb.out.2 2
         clear hHeld; refine Th hK ?_ (fun hHeld => ?_)
         ·exact ⟨HKc.out.c0, HKc.out.c1⟩
         clear hK K; refine Tc 6 (fun K hK => ?_); go_simp; refine Th hK ?_ (fun hHeld2 => ?_)
         ·(try dsimp only)
          have h9 := HKc.out
          have h9 := h9.set (a := ⟨ga, 0, none⟩) hwga (fun x hx => by simp at hx; rcases hx with rfl | rfl <;> (dsimp only; omega)) (.slice Ae ne ce)
          have h9 := h9.set (a := ⟨ga, 1, none⟩) hwga (fun x hx => by simp at hx; rcases hx with rfl | rfl <;> (dsimp only; omega)) (.slice Ak nk ck)
          have h9 := h9.set (a := ⟨ga, 2, none⟩) hwga (fun x hx => by simp at hx; rcases hx with rfl | rfl <;> (dsimp only; omega)) (.slice Ba m9 da)
          exact ⟨h9.c0, h9.c1⟩
         clear hK K hHeld; have hHeld := hHeld2; clear hHeld2; refine Tc 7 (fun K hK => ?_); go_simp; refine Th hK ?_ (fun hHeld2 => ?_)
         ·(try dsimp only)
          have h9 := HKc.out
          have h9 := h9.set (a := ⟨ga, 0, none⟩) hwga (fun x hx => by simp at hx; rcases hx with rfl | rfl <;> (dsimp only; omega)) (.slice Ae ne ce)
          have h9 := h9.set (a := ⟨ga, 1, none⟩) hwga (fun x hx => by simp at hx; rcases hx with rfl | rfl <;> (dsimp only; omega)) (.slice Ak nk ck)
          have h9 := h9.set (a := ⟨ga, 2, none⟩) hwga (fun x hx => by simp at hx; rcases hx with rfl | rfl <;> (dsimp only; omega)) (.slice Ba m9 da)
          have h9 := h9.set (a := ⟨gb, 0, none⟩) hwgb (fun x hx => by simp at hx; rcases hx with rfl | rfl <;> (dsimp only; omega)) (.slice Ae ne ce)
          have h9 := h9.set (a := ⟨gb, 1, none⟩) hwgb (fun x hx => by simp at hx; rcases hx with rfl | rfl <;> (dsimp only; omega)) (.slice Ak nk ck)
          have h9 := h9.set (a := ⟨gb, 2, none⟩) hwgb (fun x hx => by simp at hx; rcases hx with rfl | rfl <;> (dsimp only; omega)) (.slice Bb m9 db)
          exact ⟨h9.c0, h9.c1⟩
         clear hK K hHeld; have hHeld := hHeld2; clear hHeld2; refine wpAnyH_done (by kernel_rfl) ?_ _; clear hHeld
         have HMID : Hid (MidK u v3 ⟨Ae, ne, ce⟩ ⟨Ak, nk, ck⟩ m9 ga gb Ba Bb da db ((((((v8.setCell ⟨ga, 0, none⟩ (.slice Ae ne ce)).setCell ⟨ga, 1, none⟩ (.slice Ak nk ck)).setCell ⟨ga, 2, none⟩ (.slice Ba m9 da)).setCell ⟨gb, 0, none⟩ (.slice Ae ne ce)).setCell ⟨gb, 1, none⟩ (.slice Ak nk ck)).setCell ⟨gb, 2, none⟩ (.slice Bb m9 db))) := by
          obtain ⟨W9, hW9⟩ : ∃ W, W = ((((((v8.setCell ⟨ga, 0, none⟩ (.slice Ae ne ce)).setCell ⟨ga, 1, none⟩ (.slice Ak nk ck)).setCell ⟨ga, 2, none⟩ (.slice Ba m9 da)).setCell ⟨gb, 0, none⟩ (.slice Ae ne ce)).setCell ⟨gb, 1, none⟩ (.slice Ak nk ck)).setCell ⟨gb, 2, none⟩ (.slice Bb m9 db)) := ⟨_, rfl⟩; rw [← hW9]
          have hb : Below v3.heap.size v3 W9 := by
           rw [hW9]; exact (((((HBV.out.setCell (p := ⟨ga, 0, none⟩) hvga _).setCell (p := ⟨ga, 1, none⟩) hvga _).setCell (p := ⟨ga, 2, none⟩) hvga _).setCell (p := ⟨gb, 0, none⟩) hvgb _).setCell (p := ⟨gb, 1, none⟩) hvgb _).setCell (p := ⟨gb, 2, none⟩) hvgb _
          have hs : v8.heap.size ≤ W9.heap.size := by rw [hW9]; simp [World.setCell]
          have hk : ∀ b, b ≠ ga → b ≠ gb → W9.heap[b]? = v8.heap[b]? := fun b h1 h2 => by rw [hW9, cells3_at b h2, cells3_at b h1]
          refine ⟨hne, hvga, hvgb, ⟨Nat.lt_of_lt_of_le HFa.out.1 hs, fun j => by rw [hW9]; simp only [World.frozen?_setCell]; exact HFa.out.2 j⟩, ⟨Nat.lt_of_lt_of_le HFb.out.1 hs, fun j => by rw [hW9]; simp only [World.frozen?_setCell]; exact HFb.out.2 j⟩, HRa.out.keep hs (fun b hb _ => hk b hb.2.1 hb.2.2), HRb.out.keep hs (fun b hb _ => hk b hb.2.1 hb.2.2), ?_⟩
          refine ((((((Kept.nil_of hb).cons_of ?_).cons_of ?_).cons_of ?_).cons_of ?_).cons_of ?_).cons_of ?_ <;> (rw [hW9]; go_simp)
         clear z0 z1 z2 z3 z4 z5 m0 m1 m2 m3 m4 m5; go_wp2_with fail; go_meet; exact ⟨ga, gb, Ba, Bb, da, db, rfl, rfl, HMID.out⟩
       ·go_simp
        clear hHeld; refine Th hK ?_ (fun hHeld => ?_)
        ·exact ⟨(HKc.out.alloc _).c0, (HKc.out.alloc _).c1⟩
        clear hK K; obtain ⟨ga, hga⟩ : ∃ g, g = v5.heap.size := ⟨_, rfl⟩; obtain ⟨v6, hv6⟩ : ∃ W, W = v5.alloc (.cells #[.slice none 0 0, .slice none 0 0, .slice none 0 0] 34) := ⟨_, rfl⟩
        have hb9 : Below v5.heap.size v5 v6 := by rw [hv6]; exact Dt.box_below _ _ _
        have hvga : v3.heap.size ≤ ga := by rw [hga]; exact HBV.out.size
        have hwga : w.heap.size ≤ ga := by rw [hga]; exact HKc.out.below.size
        have hnpa : p ≠ ga := by have h := World.block_lt_of_cell? v5 _ HKc.out.c0; dsimp only at h; omega
        have hne : ga ≠ gb := by have h := HFb.out.1; omega
        have hne2 : gb ≠ ga := hne.symm
        have b0 : v6.cell? ⟨ga, 0, none⟩ = some (.slice none 0 0) := by rw [hv6, hga]; go_simp
        have b1 : v6.cell? ⟨ga, 1, none⟩ = some (.slice none 0 0) := by rw [hv6, hga]; go_simp
        have b2 : v6.cell? ⟨ga, 2, none⟩ = some (.slice none 0 0) := by rw [hv6, hga]; go_simp
        have HKc := Lib.hid (HKc.out.later hb9); have R := Lib.hid (RdT.later R.out hb9); have HBV := Lib.hid (HBV.out.trans (hb9.mono HBV.out.size)); have HZb := Lib.hid (HZb.out.later hb9); have HFb := Lib.hid (HFb.out.later hb9); have HZa : Hid (Kept [(⟨ga, 0, none⟩, .slice none 0 0), (⟨ga, 1, none⟩, .slice none 0 0), (⟨ga, 2, none⟩, .slice none 0 0)] v3 v6) := (((Kept.nil_of HBV.out).cons_of b2).cons_of b1).cons_of b0; have HFa : Hid (Free ga v6) := ⟨by rw [hv6, hga]; simp, fun j => by rw [hv6, hga]; go_simp⟩; (try rw [← hv6] at hHeld); rw [← hv6]; rw [← hga]; clear hga hv6 hb9 b0 b1 b2; refine Tc 1 (fun K hK => ?_); go_simp; (go_at_call 10; refine (refknown_any t Ae Ak ne nk ce ck u m9 v6 HT.out (by have := N.out; omega) R.out HU.out.1 HU.out.2.1 (by have := HU.out.2.2; omega)).mono ?_); rintro e v7 ⟨Ba, da, rfl, hro, hb9⟩; have HRa : Hid (RO v7 (fun b => v3.heap.size ≤ b ∧ b ≠ ga ∧ b ≠ gb) 3 Ba m9 da (spsC u)) := hro.mono fun b hb _ => ⟨Nat.le_trans HBV.out.size hb, (by have h := HFa.out.1; omega), (by have h := HFb.out.1; omega)⟩
        clear hro; have HKc := Lib.hid (HKc.out.later hb9); have R := Lib.hid (RdT.later R.out hb9); have HBV := Lib.hid (HBV.out.trans (hb9.mono HBV.out.size)); have HZb := Lib.hid (HZb.out.later hb9); have HFb := Lib.hid (HFb.out.later hb9); have HZa := Lib.hid (HZa.out.later hb9); have HFa := Lib.hid (HFa.out.later hb9); clear hb9; clear hHeld; refine Th hK ?_ (fun hHeld => ?_)
        ·exact ⟨HKc.out.c0, HKc.out.c1⟩
        clear hK K; refine Tc 3 (fun K hK => ?_); go_simp; (go_at_call 10; refine (refknown_any t Ae Ak ne nk ce ck u m9 v7 HT.out (by have := N.out; omega) R.out HU.out.1 HU.out.2.1 (by have := HU.out.2.2; omega)).mono ?_); rintro e v8 ⟨Bb, db, rfl, hro, hb9⟩; have HRb : Hid (RO v8 (fun b => v3.heap.size ≤ b ∧ b ≠ ga ∧ b ≠ gb) 3 Bb m9 db (spsC u)) := hro.mono fun b hb _ => ⟨Nat.le_trans HBV.out.size hb, (by have h := HFa.out.1; omega), (by have h := HFb.out.1; omega)⟩; clear hro; have HKc := Lib.hid (HKc.out.later hb9); have R := Lib.hid (RdT.later R.out hb9); have HBV := Lib.hid (HBV.out.trans (hb9.mono HBV.out.size)); have HZb := Lib.hid (HZb.out.later hb9); have HFb := Lib.hid (HFb.out.later hb9); have HZa := Lib.hid (HZa.out.later hb9); have HFa := Lib.hid (HFa.out.later hb9); have HRa := Lib.hid (HRa.out.later hb9); clear hb9; have z0 := HZa.out.c0; have m0 := HFa.out.2 0
        have z1 := HZa.out.c1; have m1 := HFa.out.2 1; have z2 := HZa.out.c2; have m2 := HFa.out.2 2; have z3 := HZb.out.c0; have m3 := HFb.out.2 0; have z4 := HZb.out.c1; have m4 := HFb.out.2 1; have z5 := HZb.out.c2; have m5 := HFb.out.2 2; clear hHeld; refine Th hK ?_ (fun hHeld => ?_)
        ·exact ⟨HKc.out.c0, HKc.out.c1⟩
        clear hK K; refine Tc 6 (fun K hK => ?_); go_simp; refine Th hK ?_ (fun hHeld2 => ?_)
        ·(try dsimp only)
         have h9 := HKc.out
         have h9 := h9.set (a := ⟨ga, 0, none⟩) hwga (fun x hx => by simp at hx; rcases hx with rfl | rfl <;> (dsimp only; omega)) (.slice Ae ne ce)
         have h9 := h9.set (a := ⟨ga, 1, none⟩) hwga (fun x hx => by simp at hx; rcases hx with rfl | rfl <;> (dsimp only; omega)) (.slice Ak nk ck)
         have h9 := h9.set (a := ⟨ga, 2, none⟩) hwga (fun x hx => by simp at hx; rcases hx with rfl | rfl <;> (dsimp only; omega)) (.slice Ba m9 da)
         exact ⟨h9.c0, h9.c1⟩
        clear hK K hHeld; have hHeld := hHeld2; clear hHeld2; refine Tc 7 (fun K hK => ?_); go_simp; refine Th hK ?_ (fun hHeld2 => ?_)
        ·(try dsimp only)
         have h9 := HKc.out
         have h9 := h9.set (a := ⟨ga, 0, none⟩) hwga (fun x hx => by simp at hx; rcases hx with rfl | rfl <;> (dsimp only; omega)) (.slice Ae ne ce)
         have h9 := h9.set (a := ⟨ga, 1, none⟩) hwga (fun x hx => by simp at hx; rcases hx with rfl | rfl <;> (dsimp only; omega)) (.slice Ak nk ck)
         have h9 := h9.set (a := ⟨ga, 2, none⟩) hwga (fun x hx => by simp at hx; rcases hx with rfl | rfl <;> (dsimp only; omega)) (.slice Ba m9 da)
         have h9 := h9.set (a := ⟨gb, 0, none⟩) hwgb (fun x hx => by simp at hx; rcases hx with rfl | rfl <;> (dsimp only; omega)) (.slice Ae ne ce)
         have h9 := h9.set (a := ⟨gb, 1, none⟩) hwgb (fun x hx => by simp at hx; rcases hx with rfl | rfl <;> (dsimp only; omega)) (.slice Ak nk ck)
         have h9 := h9.set (a := ⟨gb, 2, none⟩) hwgb (fun x hx => by simp at hx; rcases hx with rfl | rfl <;> (dsimp only; omega)) (.slice Bb m9 db)
         exact ⟨h9.c0, h9.c1⟩
        clear hK K hHeld; have hHeld := hHeld2; clear hHeld2; refine wpAnyH_done (by kernel_rfl) ?_ _; clear hHeld
        have HMID : Hid (MidK u v3 ⟨Ae, ne, ce⟩ ⟨Ak, nk, ck⟩ m9 ga gb Ba Bb da db ((((((v8.setCell ⟨ga, 0, none⟩ (.slice Ae ne ce)).setCell ⟨ga, 1, none⟩ (.slice Ak nk ck)).setCell ⟨ga, 2, none⟩ (.slice Ba m9 da)).setCell ⟨gb, 0, none⟩ (.slice Ae ne ce)).setCell ⟨gb, 1, none⟩ (.slice Ak nk ck)).setCell ⟨gb, 2, none⟩ (.slice Bb m9 db))) := by
         obtain ⟨W9, hW9⟩ : ∃ W, W = ((((((v8.setCell ⟨ga, 0, none⟩ (.slice Ae ne ce)).setCell ⟨ga, 1, none⟩ (.slice Ak nk ck)).setCell ⟨ga, 2, none⟩ (.slice Ba m9 da)).setCell ⟨gb, 0, none⟩ (.slice Ae ne ce)).setCell ⟨gb, 1, none⟩ (.slice Ak nk ck)).setCell ⟨gb, 2, none⟩ (.slice Bb m9 db)) := ⟨_, rfl⟩; rw [← hW9]
         have hb : Below v3.heap.size v3 W9 := by
          rw [hW9]; exact (((((HBV.out.setCell (p := ⟨ga, 0, none⟩) hvga _).setCell (p := ⟨ga, 1, none⟩) hvga _).setCell (p := ⟨ga, 2, none⟩) hvga _).setCell (p := ⟨gb, 0, none⟩) hvgb _).setCell (p := ⟨gb, 1, none⟩) hvgb _).setCell (p := ⟨gb, 2, none⟩) hvgb _
         have hs : v8.heap.size ≤ W9.heap.size := by rw [hW9]; simp [World.setCell]
         have hk : ∀ b, b ≠ ga → b ≠ gb → W9.heap[b]? = v8.heap[b]? := fun b h1 h2 => by rw [hW9, cells3_at b h2, cells3_at b h1]
         refine ⟨hne, hvga, hvgb, ⟨Nat.lt_of_lt_of_le HFa.out.1 hs, fun j => by rw [hW9]; simp only [World.frozen?_setCell]; exact HFa.out.2 j⟩, ⟨Nat.lt_of_lt_of_le HFb.out.1 hs, fun j => by rw [hW9]; simp only [World.frozen?_setCell]; exact HFb.out.2 j⟩, HRa.out.keep hs (fun b hb _ => hk b hb.2.1 hb.2.2), HRb.out.keep hs (fun b hb _ => hk b hb.2.1 hb.2.2), ?_⟩
         refine ((((((Kept.nil_of hb).cons_of ?_).cons_of ?_).cons_of ?_).cons_of ?_).cons_of ?_).cons_of ?_ <;> (rw [hW9]; go_simp)
        clear z0 z1 z2 z3 z4 z5 m0 m1 m2 m3 m4 m5; go_wp2_with fail; go_meet; exact ⟨ga, gb, Ba, Bb, da, db, rfl, rfl, HMID.out⟩
     case rest =>
      obtain ⟨wck, hwck⟩ : ∃ W, W = wc := ⟨_, rfl⟩; subst hwck; obtain ⟨ga, gb, Ba, Bb, da, db, rfl, rfl, hmid⟩ := hcut; have hmk := hmid.out; have hb9 := hmk.cells.below; have hwv := HKc.out.below; have HKc := Lib.hid (HKc.out.later hb9); have R := Lib.hid (RdT.later R.out hb9); have HGG : Hid (ga ≠ gb ∧ w.heap.size ≤ ga ∧ w.heap.size ≤ gb) := ⟨hmk.ne, Nat.le_trans hwv.size hmk.la, Nat.le_trans hwv.size hmk.lb⟩
      have hgw : ∀ b, G2 ga gb b → w.heap.size ≤ b := by
       rintro b (rfl | rfl)
       ·exact HGG.out.2.1
       ·exact HGG.out.2.2
      have FA := Lib.hid hmk.fa; have FB := Lib.hid hmk.fb; have RA : Hid (Firm (G2 ga gb) wck ⟨(t, u), ⟨Ae, ne, ce⟩, ⟨Ak, nk, ck⟩, ⟨Ba, m9, da⟩⟩) := Firm.of_tree HR0.out (hwv.trans (hb9.mono hwv.size)) HU.out.2.1 hmk.ra hgw (fun b hb _ h => by rcases h with h | h; exact hb.2.1 h; exact hb.2.2 h); have RB : Hid (Firm (G2 ga gb) wck ⟨(t, u), ⟨Ae, ne, ce⟩, ⟨Ak, nk, ck⟩, ⟨Bb, m9, db⟩⟩) := Firm.of_tree HR0.out (hwv.trans (hb9.mono hwv.size)) HU.out.2.1 hmk.rb hgw (fun b hb _ h => by rcases h with h | h; exact hb.2.1 h; exact hb.2.2 h); have HKc : Hid (Kept [(⟨ga, 0, none⟩, .slice Ae ne ce), (⟨ga, 1, none⟩, .slice Ak nk ck), (⟨ga, 2, none⟩, .slice Ba m9 da), (⟨gb, 0, none⟩, .slice Ae ne ce), (⟨gb, 1, none⟩, .slice Ak nk ck), (⟨gb, 2, none⟩, .slice Bb m9 db), (⟨p, 0, none⟩, .slice Ae ne ce), (⟨p, 1, none⟩, .slice Ak nk ck)] w wck) := ((((((HKc.out.cons_of hmk.cells.c5).cons_of hmk.cells.c4).cons_of hmk.cells.c3).cons_of hmk.cells.c2).cons_of hmk.cells.c1).cons_of hmk.cells.c0)
      clear hmid hmk hb9 hwv hgw; have c0 := HKc.out.c0; have c1 := HKc.out.c1; have c2 := HKc.out.c2; have c3 := HKc.out.c3; have c4 := HKc.out.c4; have c5 := HKc.out.c5; have c6 := HKc.out.c6; have c7 := HKc.out.c7; go_wp2_with fail; refine (refsum_any t Ae Ak ne nk ce ck wck sv HT.out HSV.out (by have := N.out; omega) R.out).mono ?_; rintro e v4 ⟨rfl, hb9⟩; have HKc := Lib.hid (HKc.out.later hb9); have R := Lib.hid (RdT.later R.out hb9); have FA := Lib.hid (FA.out.later hb9); have FB := Lib.hid (FB.out.later hb9); have RA := Lib.hid (RA.out.later hb9); have RB := Lib.hid (RB.out.later hb9); clear hb9; clear c0 c1 c2 c3 c4 c5 c6 c7; have FAB : Hid (ga < v4.heap.size ∧ gb < v4.heap.size) := ⟨FA.out.1, FB.out.1⟩; have c0 := HKc.out.c0; have c1 := HKc.out.c1; have c2 := HKc.out.c2; have c3 := HKc.out.c3; have c4 := HKc.out.c4; have c5 := HKc.out.c5; have c6 := HKc.out.c6; have c7 := HKc.out.c7
      go_wp2_with fail; clear c0 c1 c2 c3 c4 c5 c6 c7
      go_loopw [7, 8, 50] (fun s7 s8 i wr => ∃ (k : Nat) (Ab : Option Addr) (cb : Nat) (ps : List CP), k ≤ nl ∧ s7 = .int .i64 (sv + sumL li k) ∧ s8 = .slice Ab k cb ∧ i = .int .i64 k ∧ Hid (InvL v4 (t, u) li k Ab cb ps wr)) (fun _ _ i _ => nl - (intOf i).toNat)
      case atStart => exact ⟨0, none, 0, [], by omega, by rw [sumL_zero, Int.add_zero], rfl, rfl, InvL.zero _ _ _⟩
      case round =>
       obtain ⟨k, Ab, cb, ps, hk, rfl, rfl, rfl, HIL⟩ := hrel; obtain ⟨wo, hwo⟩ : ∃ W, W = wr := ⟨_, rfl⟩; subst hwo; have HKb := HKc; have hb9 := HIL.out.below; have HKc := Lib.hid (HKc.out.later hb9); have R := Lib.hid (RdT.later R.out hb9); have FA := Lib.hid (FA.out.later hb9); have FB := Lib.hid (FB.out.later hb9); have RA := Lib.hid (RA.out.later hb9); have RB := Lib.hid (RB.out.later hb9); clear hb9
       by_cases hlt : k < nl
       ·have hkl : k < li.length := by rw [HLI.out]; exact hlt
        obtain ⟨bl, ol, hAl, hbl, hcl⟩ := HRI.out.at_ (by omega); subst hAl; obtain ⟨vk, hvk⟩ : ∃ v : Int, li[k] = v := ⟨_, rfl⟩; have hlc := hcl k (.int .i32 vk) (by rw [← hvk]; unfold i32C; rw [List.getElem?_map, List.getElem?_eq_getElem hkl]; rfl); have HLCW := Lib.hid hlc; have HBL := Lib.hid hbl; have hlo : w.heap.size ≤ v4.heap.size := HKb.out.below.size; have lc := (HKc.out.below.cell (p := ⟨bl, ol + k, none⟩) hbl).trans hlc; have HKc := Lib.hid (HKc.out.cons_of lc); have hvr := HBI.out _ (List.getElem_mem hkl); rw [hvk] at hvr; have HVK := Lib.hid hvk; have HVR : Hid (-1099511627776 ≤ vk ∧ vk ≤ 1099511627776) := ⟨by omega, by omega⟩
        have fcv : IntKind.i64.wrap vk = vk := by rw [IntKind.wrap_i64]; omega
        obtain ⟨ca, hca⟩ : ∃ z, cA k = z := ⟨_, rfl⟩; obtain ⟨cn, hcn⟩ : ∃ z, cN k = z := ⟨_, rfl⟩; have HCA := Lib.hid hca; have HCN := Lib.hid hcn
        have frem : Int.tmod (k : Int) 4 = ca := by
         rw [← hca]; unfold cA; rw [Int.tmod_eq_emod_of_nonneg (by omega)]; omega
        have fsub : IntKind.i64.wrap (1099511627776 - (k : Int)) = cn := by
         rw [← hcn]; unfold cN; rw [IntKind.wrap_i64]; omega
        clear hcl hlc lc hvk hca hcn; obtain ⟨gd, hgd⟩ : ∃ g, g = wo.heap.size := ⟨_, rfl⟩; obtain ⟨v101, hv101⟩ : ∃ W, W = wo.alloc (.cells #[.int .i64 ca, .int .i64 cn] 27) := ⟨_, rfl⟩
        have hb9 : Below wo.heap.size wo v101 := by rw [hv101]; exact Dt.box_below _ _ _
        have b0 : v101.cell? ⟨gd, 0, none⟩ = some (.int .i64 ca) := by rw [hv101, hgd]; go_simp
        have b1 : v101.cell? ⟨gd, 1, none⟩ = some (.int .i64 cn) := by rw [hv101, hgd]; go_simp
        have HKc := Lib.hid (HKc.out.later hb9); have R := Lib.hid (RdT.later R.out hb9); have FA := Lib.hid (FA.out.later hb9); have FB := Lib.hid (FB.out.later hb9); have RA := Lib.hid (RA.out.later hb9); have RB := Lib.hid (RB.out.later hb9); have HIL := Lib.hid (HIL.out.later hb9); clear hb9; have HKc := Lib.hid ((HKc.out.cons_of b1).cons_of b0); have Hgd := Lib.hid hgd; have Hv101 := Lib.hid hv101; clear hgd hv101 b0 b1; obtain ⟨yc, hyc9⟩ : ∃ yc, checkB t ca cn = yc := ⟨_, rfl⟩; have HYC := Lib.hid hyc9; clear hyc9; have c0 := HKc.out.c0; have c1 := HKc.out.c1; have c2 := HKc.out.c2; have c3 := HKc.out.c3; have c4 := HKc.out.c4; have c5 := HKc.out.c5; have c6 := HKc.out.c6; have c7 := HKc.out.c7; have c8 := HKc.out.t8.c0; have c9 := HKc.out.t8.c1; have c10 := HKc.out.t8.c2; rw [Hv101.out] at c0 c1 c2 c3 c4 c5 c6 c7 c8 c9 c10; rw [Hgd.out] at c0 c1; go_wp2_with fail; rw [← Hgd.out, ← Hv101.out]
        refine (refcheck_any t Ae Ak ne nk ce ck ca cn v101 yc HYC.out L.out (by have := N.out; omega) R.out).mono ?_; rintro e v102 ⟨rfl, hb9⟩; have HKc := Lib.hid (HKc.out.later hb9); have R := Lib.hid (RdT.later R.out hb9); have FA := Lib.hid (FA.out.later hb9); have FB := Lib.hid (FB.out.later hb9); have RA := Lib.hid (RA.out.later hb9); have RB := Lib.hid (RB.out.later hb9); have HIL := Lib.hid (HIL.out.later hb9); clear hb9; clear c0 c1 c2 c3 c4 c5 c6 c7 c8 c9 c10
        cases yc with
        | false =>
         have c0 := HKc.out.c0; have c1 := HKc.out.c1; have c2 := HKc.out.c2; have c3 := HKc.out.c3; have c4 := HKc.out.c4; have c5 := HKc.out.c5; have c6 := HKc.out.c6; have c7 := HKc.out.c7; have c8 := HKc.out.t8.c0; have c9 := HKc.out.t8.c1; have c10 := HKc.out.t8.c2; go_wp2_with fail; go_ret; exact ⟨by first | rfl | simp, HKc.out.below⟩
        | true =>
         have HDD : Hid (Dt.rightB ca cn = true) := (check_iff.1 HYC.out).2.1; have HE : Hid (RightE ⟨ca, cn, ⟨#[]⟩, vk⟩) := cnt_e HDD.out HVR.out
         have HNO : Hid (hasC u ca cn = false) := by unfold Hid; rw [has_dl HT.out HU.out.1, decide_eq_false (check_iff.1 HYC.out).2.2]
         have HOL : Hid (∀ b, (Value.slice Ab k cb).ownBlock = some b → b < v102.heap.size) := fun b hb => (HIL.out.row.row.lt b hb).2; have HVB : Hid (v4.heap.size ≤ v102.heap.size) := HIL.out.below.size; have c0 := HKc.out.c0; have c1 := HKc.out.c1; have c2 := HKc.out.c2; have c3 := HKc.out.c3; have c4 := HKc.out.c4; have c5 := HKc.out.c5; have c6 := HKc.out.c6; have c7 := HKc.out.c7; have c8 := HKc.out.t8.c0; have c9 := HKc.out.t8.c1; have c10 := HKc.out.t8.c2; go_wp2_with fail; clear c0 c1 c2 c3 c4 c5 c6 c7 c8 c9 c10
         go_cut [11, 12] (fun s9 e9 wx => ∃ (g9 : Nat) (p9 : CP), s9 = .pointer (some ⟨g9, 0, none⟩) ∧ e9 = .int .i64 0 ∧ Hid (MidF v102 g9 p9 wx) ∧ Hid (p9.k = oneK ⟨ca, cn, ⟨#[]⟩, vk⟩ ∧ p9.c.n ≤ 4))
         case first =>
          refine wp_region_held_drew (S := fun W => W.cell? ⟨gd, 0, none⟩ = some (.int .i64 ca) ∧ W.cell? ⟨gd, 1, none⟩ = some (.int .i64 cn) ∧ W.cell? ⟨bl, ol + k, none⟩ = some (.int .i32 vk) ∧ W.cell? ⟨ga, 0, none⟩ = some (.slice Ae ne ce) ∧ W.cell? ⟨ga, 1, none⟩ = some (.slice Ak nk ck) ∧ W.cell? ⟨ga, 2, none⟩ = some (.slice Ba m9 da) ∧ W.cell? ⟨gb, 0, none⟩ = some (.slice Ae ne ce) ∧ W.cell? ⟨gb, 1, none⟩ = some (.slice Ak nk ck) ∧ W.cell? ⟨gb, 2, none⟩ = some (.slice Bb m9 db) ∧ W.cell? ⟨p, 0, none⟩ = some (.slice Ae ne ce) ∧ W.cell? ⟨p, 1, none⟩ = some (.slice Ak nk ck)) (by kernel_rfl) (by have h9 := HKc.out.drew; exact ⟨h9.c0, h9.c1, h9.c2, h9.c3, h9.c4, h9.c5, h9.c6, h9.c7, h9.t8.c0, h9.t8.c1, h9.t8.c2⟩) (fun hHeld => ?_); obtain ⟨v103, hv103⟩ : ∃ v, v = v102.drew := ⟨_, rfl⟩
          have hb9 : Below v102.heap.size v102 v103 := by rw [hv103]; exact (Below.refl _ _).drew
          have HKc := Lib.hid (HKc.out.later hb9); have R := Lib.hid (RdT.later R.out hb9); have FA := Lib.hid (FA.out.later hb9); have FB := Lib.hid (FB.out.later hb9); have RA := Lib.hid (RA.out.later hb9); have RB := Lib.hid (RB.out.later hb9); have HIL := Lib.hid (HIL.out.later hb9); clear hb9; have HBV9 : Hid (v102.drew = v103) := hv103.symm; rw [← hv103] at hHeld ⊢; clear hv103
          have HBV : Hid (Below v102.heap.size v102 v103) := by unfold Hid; rw [← HBV9.out]; exact (Below.refl _ _).drew
          clear HBV9; refine Tk 0 63 ?_; refine Tk 1 64 ?_; refine Tk 2 65 ?_; refine Tk 3 66 ?_; refine Tk 4 67 ?_; refine Tk 5 68 ?_; refine Tk 6 69 ?_; refine wpAnyH_ready (rs := [7, 11]) (by kernel_rfl) (by simp) ?_; refine AllReadyH.cons (o := ⟨some 70, _, _, _, _, _⟩) rfl (fun K hK => ?_) (AllReadyH.cons (o := ⟨some 11, _, _, _, _, _⟩) rfl (fun K hK => ?_) (AllReadyH.nil))
          ·go_simp
           (go_at_call 8; refine (inc_any t Ae Ak ne nk ce ck vk ca cn v103 L.out (by have := N.out; omega) R.out).mono ?_); rintro e v104 ⟨kx, zx, Xe, xe1, xe2, Xk, xk1, xk2, Xc, xc1, xc2, rfl, how, hz, hb9⟩; obtain ⟨rfl, hk1, hna⟩ := hz.out.1 (inc_yes HYC.out HVR.out HLL.out); have HP : Hid (kx = oneK ⟨ca, cn, ⟨#[]⟩, vk⟩ ∧ xc1 ≤ 4) := ⟨hk1, hna⟩; have how := how.out; have HN : Hid (NoC v104 (fun b => v102.heap.size ≤ b) ⟨kx, ⟨Xe, xe1, xe2⟩, ⟨Xk, xk1, xk2⟩, ⟨Xc, xc1, xc2⟩⟩) := NoC.of_own how (fun b hb _ => Nat.le_trans HBV.out.size hb); clear how; clear hz hk1 hna; have HKc := Lib.hid (HKc.out.later hb9); have R := Lib.hid (RdT.later R.out hb9); have FA := Lib.hid (FA.out.later hb9); have FB := Lib.hid (FB.out.later hb9); have RA := Lib.hid (RA.out.later hb9); have RB := Lib.hid (RB.out.later hb9); have HIL := Lib.hid (HIL.out.later hb9); have HBV := Lib.hid (HBV.out.trans (hb9.mono HBV.out.size))
           clear hb9; clear hHeld; refine Th hK ?_ (fun hHeld => ?_)
           ·exact ⟨HKc.out.c0, HKc.out.c1, HKc.out.c2, HKc.out.c3, HKc.out.c4, HKc.out.c5, HKc.out.c6, HKc.out.c7, HKc.out.t8.c0, HKc.out.t8.c1, HKc.out.t8.c2⟩
           clear hK K; refine Tk 8 62 ?_; refine Tk 9 71 ?_; refine Tk 10 72 ?_; refine Tc 11 (fun K hK => ?_); go_simp; clear hHeld; refine Th hK ?_ (fun hHeld => ?_)
           ·exact ⟨(HKc.out.alloc _).c0, (HKc.out.alloc _).c1, (HKc.out.alloc _).c2, (HKc.out.alloc _).c3, (HKc.out.alloc _).c4, (HKc.out.alloc _).c5, (HKc.out.alloc _).c6, (HKc.out.alloc _).c7, (HKc.out.alloc _).t8.c0, (HKc.out.alloc _).t8.c1, (HKc.out.alloc _).t8.c2⟩
           clear hK K; obtain ⟨gx, hgx⟩ : ∃ g, g = v104.heap.size := ⟨_, rfl⟩; obtain ⟨v105, hv105⟩ : ∃ W, W = v104.alloc (.cells #[.slice none 0 0, .slice none 0 0, .slice none 0 0] 34) := ⟨_, rfl⟩
           have hb9 : Below v104.heap.size v104 v105 := by rw [hv105]; exact Dt.box_below _ _ _
           have hvg : v102.heap.size ≤ gx := by rw [hgx]; exact HBV.out.size
           have hwg : w.heap.size ≤ gx := by rw [hgx]; exact HKc.out.below.size
           have hngd : gd ≠ gx := by have h := World.block_lt_of_cell? v104 _ HKc.out.c0; dsimp only at h; omega
           have hnbl : bl ≠ gx := by have h := World.block_lt_of_cell? v104 _ HKc.out.c2; dsimp only at h; omega
           have hnga : ga ≠ gx := by have h := World.block_lt_of_cell? v104 _ HKc.out.c3; dsimp only at h; omega
           have hngb : gb ≠ gx := by have h := World.block_lt_of_cell? v104 _ HKc.out.c6; dsimp only at h; omega
           have hnp : p ≠ gx := by have h := World.block_lt_of_cell? v104 _ HKc.out.t8.c1; dsimp only at h; omega
           have b0 : v105.cell? ⟨gx, 0, none⟩ = some (.slice none 0 0) := by rw [hv105, hgx]; go_simp
           have b1 : v105.cell? ⟨gx, 1, none⟩ = some (.slice none 0 0) := by rw [hv105, hgx]; go_simp
           have b2 : v105.cell? ⟨gx, 2, none⟩ = some (.slice none 0 0) := by rw [hv105, hgx]; go_simp
           have HN := Lib.hid (HN.out.mono (ok' := fun b => v102.heap.size ≤ b ∧ b ≠ gx) (fun b hb hlt => ⟨hb, by omega⟩)); have HKc := Lib.hid (HKc.out.later hb9); have R := Lib.hid (RdT.later R.out hb9); have FA := Lib.hid (FA.out.later hb9); have FB := Lib.hid (FB.out.later hb9); have RA := Lib.hid (RA.out.later hb9); have RB := Lib.hid (RB.out.later hb9); have HIL := Lib.hid (HIL.out.later hb9); have HBV := Lib.hid (HBV.out.trans (hb9.mono HBV.out.size)); have HN := Lib.hid (HN.out.later hb9); have HZ : Hid (Kept [(⟨gx, 0, none⟩, .slice none 0 0), (⟨gx, 1, none⟩, .slice none 0 0), (⟨gx, 2, none⟩, .slice none 0 0)] v102 v105) := (((Kept.nil_of HBV.out).cons_of b2).cons_of b1).cons_of b0; have HF : Hid (Free gx v105) := ⟨by rw [hv105, hgx]; simp, fun j => by rw [hv105, hgx]; go_simp⟩; have hlt9 : gx < v105.heap.size := HF.out.1; (try rw [← hv105] at hHeld); rw [← hv105]; rw [← hgx]; clear hgx hv105 hb9 b0 b1 b2
           have z0 := HZ.out.c0; have z1 := HZ.out.c1; have z2 := HZ.out.c2; have m0 := HF.out.2 0; have m1 := HF.out.2 1; have m2 := HF.out.2 2; refine Tc 12 (fun K hK => ?_); go_simp; refine Th hK ?_ (fun hHeld2 => ?_)
           ·(try dsimp only)
            have h9 := HKc.out
            have h9 := h9.set (a := ⟨gx, 0, none⟩) hwg (fun x hx => by simp at hx; rcases hx with rfl | rfl | rfl | rfl | rfl | rfl | rfl | rfl | rfl | rfl | rfl <;> (dsimp only; omega)) (.slice Xe xe1 xe2)
            have h9 := h9.set (a := ⟨gx, 1, none⟩) hwg (fun x hx => by simp at hx; rcases hx with rfl | rfl | rfl | rfl | rfl | rfl | rfl | rfl | rfl | rfl | rfl <;> (dsimp only; omega)) (.slice Xk xk1 xk2)
            have h9 := h9.set (a := ⟨gx, 2, none⟩) hwg (fun x hx => by simp at hx; rcases hx with rfl | rfl | rfl | rfl | rfl | rfl | rfl | rfl | rfl | rfl | rfl <;> (dsimp only; omega)) (.slice Xc xc1 xc2)
            exact ⟨h9.c0, h9.c1, h9.c2, h9.c3, h9.c4, h9.c5, h9.c6, h9.c7, h9.t8.c0, h9.t8.c1, h9.t8.c2⟩
           clear hK K hHeld; have hHeld := hHeld2; clear hHeld2; refine Tk 13 12 ?_; refine wpAnyH_done (by kernel_rfl) ?_ _; clear hHeld
           have HMID : Hid (MidF v102 gx ⟨kx, ⟨Xe, xe1, xe2⟩, ⟨Xk, xk1, xk2⟩, ⟨Xc, xc1, xc2⟩⟩ (((v105.setCell ⟨gx, 0, none⟩ (.slice Xe xe1 xe2)).setCell ⟨gx, 1, none⟩ (.slice Xk xk1 xk2)).setCell ⟨gx, 2, none⟩ (.slice Xc xc1 xc2))) := by
            obtain ⟨W9, hW9⟩ : ∃ W, W = (((v105.setCell ⟨gx, 0, none⟩ (.slice Xe xe1 xe2)).setCell ⟨gx, 1, none⟩ (.slice Xk xk1 xk2)).setCell ⟨gx, 2, none⟩ (.slice Xc xc1 xc2)) := ⟨_, rfl⟩; rw [← hW9]
            have hb : Below v102.heap.size v102 W9 := by
             rw [hW9]; exact (((HBV.out.setCell (p := ⟨gx, 0, none⟩) hvg _).setCell (p := ⟨gx, 1, none⟩) hvg _).setCell (p := ⟨gx, 2, none⟩) hvg _)
            refine ⟨hvg, HN.out.keep (by rw [hW9, cells3]; exact Nat.le_refl _) (fun b hb _ => by rw [hW9]; exact cells3_at b hb.2), ?_⟩
            refine (((Kept.nil_of hb).cons_of ?_).cons_of ?_).cons_of ?_ <;> (rw [hW9]; go_simp)
           clear z0 z1 z2 m0 m1 m2; go_wp2_with fail; go_meet; exact ⟨gx, ⟨kx, ⟨Xe, xe1, xe2⟩, ⟨Xk, xk1, xk2⟩, ⟨Xc, xc1, xc2⟩⟩, rfl, rfl, HMID.out, HP.out⟩
          ·go_simp
           clear hHeld; refine Th hK ?_ (fun hHeld => ?_)
           ·exact ⟨(HKc.out.alloc _).c0, (HKc.out.alloc _).c1, (HKc.out.alloc _).c2, (HKc.out.alloc _).c3, (HKc.out.alloc _).c4, (HKc.out.alloc _).c5, (HKc.out.alloc _).c6, (HKc.out.alloc _).c7, (HKc.out.alloc _).t8.c0, (HKc.out.alloc _).t8.c1, (HKc.out.alloc _).t8.c2⟩
           clear hK K; obtain ⟨gx, hgx⟩ : ∃ g, g = v103.heap.size := ⟨_, rfl⟩; obtain ⟨v104, hv104⟩ : ∃ W, W = v103.alloc (.cells #[.slice none 0 0, .slice none 0 0, .slice none 0 0] 34) := ⟨_, rfl⟩
           have hb9 : Below v103.heap.size v103 v104 := by rw [hv104]; exact Dt.box_below _ _ _
           have hvg : v102.heap.size ≤ gx := by rw [hgx]; exact HBV.out.size
           have hwg : w.heap.size ≤ gx := by rw [hgx]; exact HKc.out.below.size
           have hngd : gd ≠ gx := by have h := World.block_lt_of_cell? v103 _ HKc.out.c0; dsimp only at h; omega
           have hnbl : bl ≠ gx := by have h := World.block_lt_of_cell? v103 _ HKc.out.c2; dsimp only at h; omega
           have hnga : ga ≠ gx := by have h := World.block_lt_of_cell? v103 _ HKc.out.c3; dsimp only at h; omega
           have hngb : gb ≠ gx := by have h := World.block_lt_of_cell? v103 _ HKc.out.c6; dsimp only at h; omega
           have hnp : p ≠ gx := by have h := World.block_lt_of_cell? v103 _ HKc.out.t8.c1; dsimp only at h; omega
           have b0 : v104.cell? ⟨gx, 0, none⟩ = some (.slice none 0 0) := by rw [hv104, hgx]; go_simp
           have b1 : v104.cell? ⟨gx, 1, none⟩ = some (.slice none 0 0) := by rw [hv104, hgx]; go_simp
           have b2 : v104.cell? ⟨gx, 2, none⟩ = some (.slice none 0 0) := by rw [hv104, hgx]; go_simp
           have HKc := Lib.hid (HKc.out.later hb9); have R := Lib.hid (RdT.later R.out hb9); have FA := Lib.hid (FA.out.later hb9); have FB := Lib.hid (FB.out.later hb9); have RA := Lib.hid (RA.out.later hb9); have RB := Lib.hid (RB.out.later hb9); have HIL := Lib.hid (HIL.out.later hb9); have HBV := Lib.hid (HBV.out.trans (hb9.mono HBV.out.size)); have HZ : Hid (Kept [(⟨gx, 0, none⟩, .slice none 0 0), (⟨gx, 1, none⟩, .slice none 0 0), (⟨gx, 2, none⟩, .slice none 0 0)] v102 v104) := (((Kept.nil_of HBV.out).cons_of b2).cons_of b1).cons_of b0; have HF : Hid (Free gx v104) := ⟨by rw [hv104, hgx]; simp, fun j => by rw [hv104, hgx]; go_simp⟩; have hlt9 : gx < v104.heap.size := HF.out.1; (try rw [← hv104] at hHeld); rw [← hv104]; rw [← hgx]; clear hgx hv104 hb9 b0 b1 b2; refine Tc 7 (fun K hK => ?_); go_simp; (go_at_call 8; refine (inc_any t Ae Ak ne nk ce ck vk ca cn v104 L.out (by have := N.out; omega) R.out).mono ?_)
           rintro e v105 ⟨kx, zx, Xe, xe1, xe2, Xk, xk1, xk2, Xc, xc1, xc2, rfl, how, hz, hb9⟩; obtain ⟨rfl, hk1, hna⟩ := hz.out.1 (inc_yes HYC.out HVR.out HLL.out); have HP : Hid (kx = oneK ⟨ca, cn, ⟨#[]⟩, vk⟩ ∧ xc1 ≤ 4) := ⟨hk1, hna⟩; have how := how.out; have HN : Hid (NoC v105 (fun b => v102.heap.size ≤ b ∧ b ≠ gx) ⟨kx, ⟨Xe, xe1, xe2⟩, ⟨Xk, xk1, xk2⟩, ⟨Xc, xc1, xc2⟩⟩) := NoC.of_own how (fun b hb _ => ⟨Nat.le_trans HBV.out.size hb, by have h := HF.out.1; omega⟩); clear how; clear hz hk1 hna; have HKc := Lib.hid (HKc.out.later hb9); have R := Lib.hid (RdT.later R.out hb9); have FA := Lib.hid (FA.out.later hb9); have FB := Lib.hid (FB.out.later hb9); have RA := Lib.hid (RA.out.later hb9); have RB := Lib.hid (RB.out.later hb9); have HIL := Lib.hid (HIL.out.later hb9); have HBV := Lib.hid (HBV.out.trans (hb9.mono HBV.out.size)); have HZ := Lib.hid (HZ.out.later hb9); have HF := Lib.hid (HF.out.later hb9)
           clear hb9; have z0 := HZ.out.c0; have z1 := HZ.out.c1; have z2 := HZ.out.c2; have m0 := HF.out.2 0; have m1 := HF.out.2 1; have m2 := HF.out.2 2; clear hHeld; refine Th hK ?_ (fun hHeld => ?_)
           ·exact ⟨HKc.out.c0, HKc.out.c1, HKc.out.c2, HKc.out.c3, HKc.out.c4, HKc.out.c5, HKc.out.c6, HKc.out.c7, HKc.out.t8.c0, HKc.out.t8.c1, HKc.out.t8.c2⟩
           clear hK K; refine Tk 8 62 ?_; refine Tk 9 71 ?_; refine Tk 10 72 ?_; refine Tc 12 (fun K hK => ?_); go_simp; refine Th hK ?_ (fun hHeld2 => ?_)
           ·(try dsimp only)
            have h9 := HKc.out
            have h9 := h9.set (a := ⟨gx, 0, none⟩) hwg (fun x hx => by simp at hx; rcases hx with rfl | rfl | rfl | rfl | rfl | rfl | rfl | rfl | rfl | rfl | rfl <;> (dsimp only; omega)) (.slice Xe xe1 xe2)
            have h9 := h9.set (a := ⟨gx, 1, none⟩) hwg (fun x hx => by simp at hx; rcases hx with rfl | rfl | rfl | rfl | rfl | rfl | rfl | rfl | rfl | rfl | rfl <;> (dsimp only; omega)) (.slice Xk xk1 xk2)
            have h9 := h9.set (a := ⟨gx, 2, none⟩) hwg (fun x hx => by simp at hx; rcases hx with rfl | rfl | rfl | rfl | rfl | rfl | rfl | rfl | rfl | rfl | rfl <;> (dsimp only; omega)) (.slice Xc xc1 xc2)
            exact ⟨h9.c0, h9.c1, h9.c2, h9.c3, h9.c4, h9.c5, h9.c6, h9.c7, h9.t8.c0, h9.t8.c1, h9.t8.c2⟩
           clear hK K hHeld; have hHeld := hHeld2; clear hHeld2; refine Tk 13 12 ?_; refine wpAnyH_done (by kernel_rfl) ?_ _; clear hHeld
           have HMID : Hid (MidF v102 gx ⟨kx, ⟨Xe, xe1, xe2⟩, ⟨Xk, xk1, xk2⟩, ⟨Xc, xc1, xc2⟩⟩ (((v105.setCell ⟨gx, 0, none⟩ (.slice Xe xe1 xe2)).setCell ⟨gx, 1, none⟩ (.slice Xk xk1 xk2)).setCell ⟨gx, 2, none⟩ (.slice Xc xc1 xc2))) := by
            obtain ⟨W9, hW9⟩ : ∃ W, W = (((v105.setCell ⟨gx, 0, none⟩ (.slice Xe xe1 xe2)).setCell ⟨gx, 1, none⟩ (.slice Xk xk1 xk2)).setCell ⟨gx, 2, none⟩ (.slice Xc xc1 xc2)) := ⟨_, rfl⟩; rw [← hW9]
            have hb : Below v102.heap.size v102 W9 := by
             rw [hW9]; exact (((HBV.out.setCell (p := ⟨gx, 0, none⟩) hvg _).setCell (p := ⟨gx, 1, none⟩) hvg _).setCell (p := ⟨gx, 2, none⟩) hvg _)
            refine ⟨hvg, HN.out.keep (by rw [hW9, cells3]; exact Nat.le_refl _) (fun b hb _ => by rw [hW9]; exact cells3_at b hb.2), ?_⟩
            refine (((Kept.nil_of hb).cons_of ?_).cons_of ?_).cons_of ?_ <;> (rw [hW9]; go_simp)
           clear z0 z1 z2 m0 m1 m2; go_wp2_with fail; go_meet; exact ⟨gx, ⟨kx, ⟨Xe, xe1, xe2⟩, ⟨Xk, xk1, xk2⟩, ⟨Xc, xc1, xc2⟩⟩, rfl, rfl, HMID.out, HP.out⟩
         case rest =>
          obtain ⟨wcgx, hwcgx⟩ : ∃ W, W = wc := ⟨_, rfl⟩; subst hwcgx; obtain ⟨gx, ⟨kx, ⟨Xe, xe1, xe2⟩, ⟨Xk, xk1, xk2⟩, ⟨Xc, xc1, xc2⟩⟩, rfl, rfl, hmid, hprop⟩ := hcut; obtain ⟨hgl, hnp, hkp⟩ := hmid.out; have hb9 := hkp.below; have HKc := Lib.hid (HKc.out.later hb9); have R := Lib.hid (RdT.later R.out hb9); have FA := Lib.hid (FA.out.later hb9); have FB := Lib.hid (FB.out.later hb9); have RA := Lib.hid (RA.out.later hb9); have RB := Lib.hid (RB.out.later hb9); have HIL := Lib.hid (HIL.out.later hb9); clear hb9; have HX : Hid (NoC wcgx (fun b => v102.heap.size ≤ b ∧ b ≠ gx) ⟨kx, ⟨Xe, xe1, xe2⟩, ⟨Xk, xk1, xk2⟩, ⟨Xc, xc1, xc2⟩⟩) := hnp; have RX := Lib.hid hnp.rd; have HXL : Hid (v102.heap.size ≤ gx) := hgl; have PX : Hid (kx = oneK ⟨ca, cn, ⟨#[]⟩, vk⟩ ∧ xc1 ≤ 4) := hprop.out; have HKc : Hid (Kept [(⟨gx, 0, none⟩, .slice Xe xe1 xe2), (⟨gx, 1, none⟩, .slice Xk xk1 xk2), (⟨gx, 2, none⟩, .slice Xc xc1 xc2), (⟨gd, 0, none⟩, .int .i64 ca), (⟨gd, 1, none⟩, .int .i64 cn), (⟨bl, ol + k, none⟩, .int .i32 vk), (⟨ga, 0, none⟩, .slice Ae ne ce), (⟨ga, 1, none⟩, .slice Ak nk ck), (⟨ga, 2, none⟩, .slice Ba m9 da), (⟨gb, 0, none⟩, .slice Ae ne ce), (⟨gb, 1, none⟩, .slice Ak nk ck), (⟨gb, 2, none⟩, .slice Bb m9 db), (⟨p, 0, none⟩, .slice Ae ne ce), (⟨p, 1, none⟩, .slice Ak nk ck)] w wcgx) := (((HKc.out.cons_of hkp.c2).cons_of hkp.c1).cons_of hkp.c0)
          clear hmid hprop hnp hkp hgl; obtain ⟨Ab6, cb6, w6, h1, h2⟩ := HIL.out.push hkl (by omega) (v0 := v102) (g := gx) (p := ⟨kx, ⟨Xe, xe1, xe2⟩, ⟨Xk, xk1, xk2⟩, ⟨Xc, xc1, xc2⟩⟩) HOL.out HVB.out HX.out (by rw [PX.out.1, HCA.out, HCN.out, HVK.out]) PX.out.2 (by rw [HCA.out, HCN.out, HVK.out]; exact HE.out) (by rw [HCA.out, HCN.out]; exact HNO.out); dsimp only at h1; have Hrun := Lib.hid h1; have HIL6 := Lib.hid h2; have lc6 := ((HKb.out.below.trans (h2.below.mono hlo)).cell (p := ⟨bl, ol + k, none⟩) HBL.out).trans HLCW.out; clear h1 h2; obtain ⟨s1, hs1⟩ : ∃ s : Int, sv + sumL li k = s := ⟨_, rfl⟩
          have fw : IntKind.i64.wrap (s1 + vk) = sv + sumL li (k + 1) := by
           have h1 := sumL_bound (l := li) (fun x hx => by have := HBI.out x hx; omega) (k + 1) (by omega); have h2 := HSVB.out; have h3 := sumL_succ hkl; rw [HVK.out] at h3; rw [IntKind.wrap_i64]; omega
          obtain ⟨s2, hs2⟩ : ∃ s : Int, sv + sumL li (k + 1) = s := ⟨_, rfl⟩; rw [hs2] at fw; rw [hs1]; have HS2 := Lib.hid hs2; clear hs1 hs2; have c0 := HKc.out.c0; have c1 := HKc.out.c1; have c2 := HKc.out.c2; have c3 := HKc.out.c3; have c4 := HKc.out.c4; have c5 := HKc.out.c5; have c6 := HKc.out.c6; have c7 := HKc.out.c7; have c8 := HKc.out.t8.c0; have c9 := HKc.out.t8.c1; have c10 := HKc.out.t8.c2; have c11 := HKc.out.t8.c3; have c12 := HKc.out.t8.c4; have c13 := HKc.out.t8.c5; go_wp2_with (at_builtin; refine Lib.wpList_append_run _ rfl _ _ _ _ rfl _ _ rfl rfl _ _ Hrun.out ?_); go_roundw
          case rel => exact ⟨k + 1, Ab6, cb6, _, by omega, by rw [HS2.out], rfl, by go_num, HIL6.out⟩
          case measure => simp [intOf]; omega
       ·obtain rfl : k = nl := by omega
        obtain ⟨sw, hsw⟩ : ∃ s : Int, sv + sumL li k = s := ⟨_, rfl⟩; rw [hsw]; have HSW := Lib.hid hsw; clear hsw; obtain ⟨xs, hxs⟩ : ∃ xs, xs = ps.map CP.k := ⟨_, rfl⟩
        have HXL : Hid (xs.length = k) := by unfold Hid; rw [hxs, List.length_map, HIL.out.len]
        have HMD : Hid (Made (t, u) li xs) := by unfold Hid; rw [hxs]; exact HIL.out.made
        have HXI : Hid (∀ (j : Nat) (h : j < ps.length) (h2 : j < xs.length), xs[j] = ps[j].k) := fun j h h2 => by subst hxs; rw [List.getElem_map]
        have HXK : Hid (xs.length ≤ li.length) := by unfold Hid; rw [HXL.out, HLI.out]; exact Nat.le_refl _
        clear hxs
        have HM0 : Hid (InvM wo w ga gb (t, u) li xs 0 60 240 ⟨(t, u), ⟨Ae, ne, ce⟩, ⟨Ak, nk, ck⟩, ⟨Ba, m9, da⟩⟩ ⟨(t, u), ⟨Ae, ne, ce⟩, ⟨Ak, nk, ck⟩, ⟨Bb, m9, db⟩⟩ wo) := by
         have h1 := HKc.out; refine ⟨h1.below, Nat.le_refl _, fun _ _ _ => rfl, FA.out, FB.out, ?_, RA.out, RB.out, Fore.zero JT.out _ _, back_zero JT.out _, ⟨by have := N.out; show nodes t ≤ _; omega, by have := HU.out.2.2; show m9 ≤ _; omega⟩, ⟨by have := N.out; show nodes t ≤ _; omega, by have := HU.out.2.2; show m9 ≤ _; omega⟩⟩; exact ((((((Kept.nil_of h1.below).cons_of h1.c5).cons_of h1.c4).cons_of h1.c3).cons_of h1.c2).cons_of h1.c1).cons_of h1.c0
        have c0 := HKc.out.c0; have c1 := HKc.out.c1; have c2 := HKc.out.c2; have c3 := HKc.out.c3; have c4 := HKc.out.c4; have c5 := HKc.out.c5; have c6 := HKc.out.c6; have c7 := HKc.out.c7; go_wp2_with fail; clear c0 c1 c2 c3 c4 c5 c6 c7
        go_loopw [89] (fun i wr => ∃ (k2 : Nat) (pa pb : CP), k2 ≤ k ∧ i = .int .i64 k2 ∧ Hid (InvM wo w ga gb (t, u) li xs k2 60 240 pa pb wr)) (fun i _ => k - (intOf i).toNat)
        case atStart => exact ⟨0, _, _, by omega, rfl, HM0.out⟩
        case round =>
         obtain ⟨k2, pa, pb, hk2, rfl, HM⟩ := hrel; obtain ⟨wq, hwq⟩ : ∃ W, W = wr := ⟨_, rfl⟩; subst hwq; obtain ⟨kf, ⟨Fe, fe1, fe2⟩, ⟨Fk, fk1, fk2⟩, ⟨Fc, fc1, fc2⟩⟩ := pa; obtain ⟨kg, ⟨Ge, ge1, ge2⟩, ⟨Gk, gk1, gk2⟩, ⟨Gc, gc1, gc2⟩⟩ := pb; have HKc : Hid (Kept [(⟨ga, 0, none⟩, .slice Fe fe1 fe2), (⟨ga, 1, none⟩, .slice Fk fk1 fk2), (⟨ga, 2, none⟩, .slice Fc fc1 fc2), (⟨gb, 0, none⟩, .slice Ge ge1 ge2), (⟨gb, 1, none⟩, .slice Gk gk1 gk2), (⟨gb, 2, none⟩, .slice Gc gc1 gc2)] w wq) := HM.out.cells; have RF := Lib.hid HM.out.ra; have RG := Lib.hid HM.out.rb; have HNA := Lib.hid HM.out.na; have HNB := Lib.hid HM.out.nb; have JF := Lib.hid HM.out.fore.all.right; have JG := Lib.hid HM.out.back.right; clear HM0
         by_cases hlt2 : k2 < k
         ·have hkp : k2 < ps.length := by rw [HIL.out.len]; exact hlt2
          have hkq : k - 1 - k2 < ps.length := by rw [HIL.out.len]; omega
          obtain ⟨br, orr, hAb, hbr1, hbr2, hcr⟩ := HIL.out.cells (by omega); subst hAb; obtain ⟨q0, q1, q2⟩ := hcr k2 hkp; obtain ⟨r0, r1, r2⟩ := hcr (k - 1 - k2) hkq; obtain ⟨ey, hey⟩ := HIL.out.each _ (List.getElem_mem hkp); obtain ⟨ez, hez⟩ := HIL.out.each _ (List.getElem_mem hkq); have hxy := HXI.out k2 hkp (by rw [HXL.out]; exact hlt2); have hxz := HXI.out (k - 1 - k2) hkq (by rw [HXL.out]; omega); obtain ⟨py, hpy⟩ : ∃ p, p = ps[k2] := ⟨_, rfl⟩; obtain ⟨pz, hpz⟩ : ∃ p, p = ps[k - 1 - k2] := ⟨_, rfl⟩; rw [← hpy] at q0 q1 q2 ey hey hxy; rw [← hpz] at r0 r1 r2 ez hez hxz; obtain ⟨ky, ⟨Ye, ye1, ye2⟩, ⟨Yk, yk1, yk2⟩, ⟨Yc, yc1, yc2⟩⟩ := py; obtain ⟨kz, ⟨Ze, ze1, ze2⟩, ⟨Zk, zk1, zk2⟩, ⟨Zc, zc1, zc2⟩⟩ := pz; dsimp only at q0 q1 q2 r0 r1 r2 hey hez hxy hxz; have hgab : ga < v4.heap.size ∧ gb < v4.heap.size := ⟨FAB.out.1, FAB.out.2⟩
          have hng : ∀ b, v4.heap.size ≤ b → ¬ G2 ga gb b := by
           rintro b hb (rfl | rfl) <;> omega
          have hbs : wq.heap[br]? = wo.heap[br]? := HM.out.same br hbr2 (hng br hbr1); have q0 := (World.cell?_of_block (a := ⟨br, orr + k2 * 3, none⟩) hbs).trans q0; have q1 := (World.cell?_of_block (a := ⟨br, orr + k2 * 3 + 1, none⟩) hbs).trans q1; have q2 := (World.cell?_of_block (a := ⟨br, orr + k2 * 3 + 2, none⟩) hbs).trans q2; have r0 := (World.cell?_of_block (a := ⟨br, orr + (k - 1 - k2) * 3, none⟩) hbs).trans r0; have r1 := (World.cell?_of_block (a := ⟨br, orr + (k - 1 - k2) * 3 + 1, none⟩) hbs).trans r1; have r2 := (World.cell?_of_block (a := ⟨br, orr + (k - 1 - k2) * 3 + 2, none⟩) hbs).trans r2; have RY : Hid (Firm (G2 ga gb) wq ⟨ky, ⟨Ye, ye1, ye2⟩, ⟨Yk, yk1, yk2⟩, ⟨Yc, yc1, yc2⟩⟩) := (Firm.of_no ey (fun b hb _ => hng b hb.1)).keep HM.out.size HM.out.same; have RZ : Hid (Firm (G2 ga gb) wq ⟨kz, ⟨Ze, ze1, ze2⟩, ⟨Zk, zk1, zk2⟩, ⟨Zc, zc1, zc2⟩⟩) := (Firm.of_no ez (fun b hb _ => hng b hb.1)).keep HM.out.size HM.out.same
          have HXY := Lib.hid hxy; have HXZ := Lib.hid hxz; have HCY : Hid (yc1 ≤ 4) := hey; have HCZ : Hid (zc1 ≤ 4) := hez
          have JY : Hid (RK ky) := by
           have h := HMD.out.right HXK.out k2 (by rw [HXL.out]; exact hlt2); rw [HXY.out] at h; exact h
          have JZ : Hid (RK kz) := by
           have h := HMD.out.right HXK.out (k - 1 - k2) (by rw [HXL.out]; omega); rw [HXZ.out] at h; exact h
          have HNY : Hid (nodes ky.1 ≤ 1) := by
           obtain ⟨h, _, _⟩ := HMD.out.each k2 (by rw [HXL.out]; exact hlt2) (by rw [HLI.out]; exact hlt2); unfold Hid; rw [← HXY.out, h]; show nodes (oneT _) ≤ 1; rw [nodes_one]; exact Nat.le_refl _
          have HNZ : Hid (nodes kz.1 ≤ 1) := by
           obtain ⟨h, _, _⟩ := HMD.out.each (k - 1 - k2) (by rw [HXL.out]; omega) (by rw [HLI.out]; omega); unfold Hid; rw [← HXZ.out, h]; show nodes (oneT _) ≤ 1; rw [nodes_one]; exact Nat.le_refl _
          have HKc := Lib.hid ((((((HKc.out.cons_of r2).cons_of r1).cons_of r0).cons_of q2).cons_of q1).cons_of q0)
          have hwm1 : IntKind.i64.wrap ((k : Int) - 1) = (k : Int) - 1 := by rw [IntKind.wrap_i64]; omega
          have hwm2 : IntKind.i64.wrap ((k : Int) - 1 - (k2 : Int)) = ((k - 1 - k2 : Nat) : Int) := by rw [IntKind.wrap_i64]; omega
          have hgaq : ga < wq.heap.size := HM.out.fa.1; have hgbq : gb < wq.heap.size := HM.out.fb.1; have HGQ := Lib.hid (And.intro hgaq hgbq)
          have hkk9 : k - 1 - k2 < k := by omega
          clear hcr q0 q1 q2 r0 r1 r2 ey ez hey hez hxy hxz hpy hpz hbs hng hgab hgaq hgbq; have HBQ : Hid (Below wq.heap.size wq wq) := Below.refl _ _; have c0 := HKc.out.c0; have c1 := HKc.out.c1; have c2 := HKc.out.c2; have c3 := HKc.out.c3; have c4 := HKc.out.c4; have c5 := HKc.out.c5; have c6 := HKc.out.c6; have c7 := HKc.out.c7; have c8 := HKc.out.t8.c0; have c9 := HKc.out.t8.c1; have c10 := HKc.out.t8.c2; have c11 := HKc.out.t8.c3; go_wp2_with fail; clear c0 c1 c2 c3 c4 c5 c6 c7 c8 c9 c10 c11
          go_cut [14, 15] (fun s9 e9 wx => ∃ (g9 : Nat) (p9 : CP), s9 = .pointer (some ⟨g9, 0, none⟩) ∧ e9 = .int .i64 0 ∧ Hid (MidF wq g9 p9 wx) ∧ Hid (IsJ kf ky p9.k ∧ p9.c.n ≤ fc1 + yc1))
          case first =>
           refine wp_region_held_drew (S := fun W => W.cell? ⟨br, orr + k2 * 3, none⟩ = some (.slice Ye ye1 ye2) ∧ W.cell? ⟨br, orr + k2 * 3 + 1, none⟩ = some (.slice Yk yk1 yk2) ∧ W.cell? ⟨br, orr + k2 * 3 + 2, none⟩ = some (.slice Yc yc1 yc2) ∧ W.cell? ⟨br, orr + (k - 1 - k2) * 3, none⟩ = some (.slice Ze ze1 ze2) ∧ W.cell? ⟨br, orr + (k - 1 - k2) * 3 + 1, none⟩ = some (.slice Zk zk1 zk2) ∧ W.cell? ⟨br, orr + (k - 1 - k2) * 3 + 2, none⟩ = some (.slice Zc zc1 zc2) ∧ W.cell? ⟨ga, 0, none⟩ = some (.slice Fe fe1 fe2) ∧ W.cell? ⟨ga, 1, none⟩ = some (.slice Fk fk1 fk2) ∧ W.cell? ⟨ga, 2, none⟩ = some (.slice Fc fc1 fc2) ∧ W.cell? ⟨gb, 0, none⟩ = some (.slice Ge ge1 ge2) ∧ W.cell? ⟨gb, 1, none⟩ = some (.slice Gk gk1 gk2) ∧ W.cell? ⟨gb, 2, none⟩ = some (.slice Gc gc1 gc2)) (by kernel_rfl) (by have h9 := HKc.out.drew; exact ⟨h9.c0, h9.c1, h9.c2, h9.c3, h9.c4, h9.c5, h9.c6, h9.c7, h9.t8.c0, h9.t8.c1, h9.t8.c2, h9.t8.c3⟩) (fun hHeld => ?_)
           obtain ⟨v301, hv301⟩ : ∃ v, v = wq.drew := ⟨_, rfl⟩
           have hb9 : Below wq.heap.size wq v301 := by rw [hv301]; exact (Below.refl _ _).drew
           have HKc := Lib.hid (HKc.out.later hb9); have RF := Lib.hid (RF.out.later hb9); have RG := Lib.hid (RG.out.later hb9); have RY := Lib.hid (RY.out.later hb9); have RZ := Lib.hid (RZ.out.later hb9); have HBQ := Lib.hid (HBQ.out.trans (hb9.mono HBQ.out.size)); clear hb9; have HBV9 : Hid (wq.drew = v301) := hv301.symm; rw [← hv301] at hHeld ⊢; clear hv301
           have HBV : Hid (Below wq.heap.size wq v301) := by unfold Hid; rw [← HBV9.out]; exact (Below.refl _ _).drew
           clear HBV9; refine Tk 0 93 ?_; refine Tk 1 94 ?_; refine Tk 2 95 ?_; refine Tk 3 96 ?_; refine Tk 4 97 ?_; refine wpAnyH_ready (rs := [5, 9]) (by kernel_rfl) (by simp) ?_; refine AllReadyH.cons (o := ⟨some 98, _, _, _, _, _⟩) rfl (fun K hK => ?_) (AllReadyH.cons (o := ⟨some 14, _, _, _, _, _⟩) rfl (fun K hK => ?_) (AllReadyH.nil))
           ·go_simp
            (go_at_call 15; refine (joinE_any kf.1 ky.1 kf.2 ky.2 Fe Fk Fc Ye Yk Yc fe1 fk1 fe2 fk2 fc1 fc2 ye1 yk1 ye2 yk2 yc1 yc2 v301 (by have h := HNA.out.1; (try dsimp only at h); omega) RF.out.rd.len (by have h := HNA.out.2; (try dsimp only at h); omega) RF.out.rd.tree RF.out.rd.ctx (by have h := HNY.out; omega) RY.out.rd.len (by have h := HCY.out; omega) RY.out.rd.tree RY.out.rd.ctx).mono ?_); rintro e v302 ⟨kq, z9, hj, Qe, qe1, qe2, Qk, qk1, qk2, Qc, qc1, qc2, rfl, how, hb9⟩; obtain ⟨rfl, hjj, hjl⟩ := hj.1 ⟨JF.out, JY.out⟩
            have hjm : qc1 ≤ fc1 + yc1 := by rw [← how.len]; exact hjl
            have HP : Hid (IsJ kf ky kq ∧ qc1 ≤ fc1 + yc1) := ⟨hjj, hjm⟩; have HN : Hid (NoC v302 (fun b => wq.heap.size ≤ b) ⟨kq, ⟨Qe, qe1, qe2⟩, ⟨Qk, qk1, qk2⟩, ⟨Qc, qc1, qc2⟩⟩) := NoC.of_own how (fun b hb _ => Nat.le_trans HBV.out.size hb); clear how; clear hj hjj hjl hjm; have HKc := Lib.hid (HKc.out.later hb9); have RF := Lib.hid (RF.out.later hb9); have RG := Lib.hid (RG.out.later hb9); have RY := Lib.hid (RY.out.later hb9); have RZ := Lib.hid (RZ.out.later hb9); have HBQ := Lib.hid (HBQ.out.trans (hb9.mono HBQ.out.size)); have HBV := Lib.hid (HBV.out.trans (hb9.mono HBV.out.size)); clear hb9; clear hHeld; refine Th hK ?_ (fun hHeld => ?_)
            ·exact ⟨HKc.out.c0, HKc.out.c1, HKc.out.c2, HKc.out.c3, HKc.out.c4, HKc.out.c5, HKc.out.c6, HKc.out.c7, HKc.out.t8.c0, HKc.out.t8.c1, HKc.out.t8.c2, HKc.out.t8.c3⟩
            clear hK K; refine Tk 6 92 ?_; refine Tk 7 99 ?_; refine Tk 8 100 ?_; refine Tc 9 (fun K hK => ?_); go_simp; clear hHeld; refine Th hK ?_ (fun hHeld => ?_)
            ·exact ⟨(HKc.out.alloc _).c0, (HKc.out.alloc _).c1, (HKc.out.alloc _).c2, (HKc.out.alloc _).c3, (HKc.out.alloc _).c4, (HKc.out.alloc _).c5, (HKc.out.alloc _).c6, (HKc.out.alloc _).c7, (HKc.out.alloc _).t8.c0, (HKc.out.alloc _).t8.c1, (HKc.out.alloc _).t8.c2, (HKc.out.alloc _).t8.c3⟩
            clear hK K; obtain ⟨gq, hgq⟩ : ∃ g, g = v302.heap.size := ⟨_, rfl⟩; obtain ⟨v303, hv303⟩ : ∃ W, W = v302.alloc (.cells #[.slice none 0 0, .slice none 0 0, .slice none 0 0] 34) := ⟨_, rfl⟩
            have hb9 : Below v302.heap.size v302 v303 := by rw [hv303]; exact Dt.box_below _ _ _
            have hvg : wq.heap.size ≤ gq := by rw [hgq]; exact HBV.out.size
            have hwg : w.heap.size ≤ gq := by rw [hgq]; exact HKc.out.below.size
            have hnbr : br ≠ gq := by have h := World.block_lt_of_cell? v302 _ HKc.out.c0; dsimp only at h; omega
            have hnga : ga ≠ gq := by have h := World.block_lt_of_cell? v302 _ HKc.out.c6; dsimp only at h; omega
            have hngb : gb ≠ gq := by have h := World.block_lt_of_cell? v302 _ HKc.out.t8.c1; dsimp only at h; omega
            have b0 : v303.cell? ⟨gq, 0, none⟩ = some (.slice none 0 0) := by rw [hv303, hgq]; go_simp
            have b1 : v303.cell? ⟨gq, 1, none⟩ = some (.slice none 0 0) := by rw [hv303, hgq]; go_simp
            have b2 : v303.cell? ⟨gq, 2, none⟩ = some (.slice none 0 0) := by rw [hv303, hgq]; go_simp
            have HN := Lib.hid (HN.out.mono (ok' := fun b => wq.heap.size ≤ b ∧ b ≠ gq) (fun b hb hlt => ⟨hb, by omega⟩)); have HKc := Lib.hid (HKc.out.later hb9); have RF := Lib.hid (RF.out.later hb9); have RG := Lib.hid (RG.out.later hb9); have RY := Lib.hid (RY.out.later hb9); have RZ := Lib.hid (RZ.out.later hb9); have HBQ := Lib.hid (HBQ.out.trans (hb9.mono HBQ.out.size)); have HBV := Lib.hid (HBV.out.trans (hb9.mono HBV.out.size)); have HN := Lib.hid (HN.out.later hb9); have HZ : Hid (Kept [(⟨gq, 0, none⟩, .slice none 0 0), (⟨gq, 1, none⟩, .slice none 0 0), (⟨gq, 2, none⟩, .slice none 0 0)] wq v303) := (((Kept.nil_of HBV.out).cons_of b2).cons_of b1).cons_of b0; have HF : Hid (Free gq v303) := ⟨by rw [hv303, hgq]; simp, fun j => by rw [hv303, hgq]; go_simp⟩; have hlt9 : gq < v303.heap.size := HF.out.1; (try rw [← hv303] at hHeld); rw [← hv303]; rw [← hgq]; clear hgq hv303 hb9 b0 b1 b2
            have z0 := HZ.out.c0; have z1 := HZ.out.c1; have z2 := HZ.out.c2; have m0 := HF.out.2 0; have m1 := HF.out.2 1; have m2 := HF.out.2 2; refine Tc 10 (fun K hK => ?_); go_simp; refine Th hK ?_ (fun hHeld2 => ?_)
            ·(try dsimp only)
             have h9 := HKc.out
             have h9 := h9.set (a := ⟨gq, 0, none⟩) hwg (fun x hx => by simp at hx; rcases hx with rfl | rfl | rfl | rfl | rfl | rfl | rfl | rfl | rfl | rfl | rfl | rfl <;> (dsimp only; omega)) (.slice Qe qe1 qe2)
             have h9 := h9.set (a := ⟨gq, 1, none⟩) hwg (fun x hx => by simp at hx; rcases hx with rfl | rfl | rfl | rfl | rfl | rfl | rfl | rfl | rfl | rfl | rfl | rfl <;> (dsimp only; omega)) (.slice Qk qk1 qk2)
             have h9 := h9.set (a := ⟨gq, 2, none⟩) hwg (fun x hx => by simp at hx; rcases hx with rfl | rfl | rfl | rfl | rfl | rfl | rfl | rfl | rfl | rfl | rfl | rfl <;> (dsimp only; omega)) (.slice Qc qc1 qc2)
             exact ⟨h9.c0, h9.c1, h9.c2, h9.c3, h9.c4, h9.c5, h9.c6, h9.c7, h9.t8.c0, h9.t8.c1, h9.t8.c2, h9.t8.c3⟩
            clear hK K hHeld; have hHeld := hHeld2; clear hHeld2; refine Tk 11 15 ?_; refine wpAnyH_done (by kernel_rfl) ?_ _; clear hHeld
            have HMID : Hid (MidF wq gq ⟨kq, ⟨Qe, qe1, qe2⟩, ⟨Qk, qk1, qk2⟩, ⟨Qc, qc1, qc2⟩⟩ (((v303.setCell ⟨gq, 0, none⟩ (.slice Qe qe1 qe2)).setCell ⟨gq, 1, none⟩ (.slice Qk qk1 qk2)).setCell ⟨gq, 2, none⟩ (.slice Qc qc1 qc2))) := by
             obtain ⟨W9, hW9⟩ : ∃ W, W = (((v303.setCell ⟨gq, 0, none⟩ (.slice Qe qe1 qe2)).setCell ⟨gq, 1, none⟩ (.slice Qk qk1 qk2)).setCell ⟨gq, 2, none⟩ (.slice Qc qc1 qc2)) := ⟨_, rfl⟩; rw [← hW9]
             have hb : Below wq.heap.size wq W9 := by
              rw [hW9]; exact (((HBV.out.setCell (p := ⟨gq, 0, none⟩) hvg _).setCell (p := ⟨gq, 1, none⟩) hvg _).setCell (p := ⟨gq, 2, none⟩) hvg _)
             refine ⟨hvg, HN.out.keep (by rw [hW9, cells3]; exact Nat.le_refl _) (fun b hb _ => by rw [hW9]; exact cells3_at b hb.2), ?_⟩
             refine (((Kept.nil_of hb).cons_of ?_).cons_of ?_).cons_of ?_ <;> (rw [hW9]; go_simp)
            clear z0 z1 z2 m0 m1 m2; go_wp2_with fail; go_meet; exact ⟨gq, ⟨kq, ⟨Qe, qe1, qe2⟩, ⟨Qk, qk1, qk2⟩, ⟨Qc, qc1, qc2⟩⟩, rfl, rfl, HMID.out, HP.out⟩
           ·go_simp
            clear hHeld; refine Th hK ?_ (fun hHeld => ?_)
            ·exact ⟨(HKc.out.alloc _).c0, (HKc.out.alloc _).c1, (HKc.out.alloc _).c2, (HKc.out.alloc _).c3, (HKc.out.alloc _).c4, (HKc.out.alloc _).c5, (HKc.out.alloc _).c6, (HKc.out.alloc _).c7, (HKc.out.alloc _).t8.c0, (HKc.out.alloc _).t8.c1, (HKc.out.alloc _).t8.c2, (HKc.out.alloc _).t8.c3⟩
            clear hK K; obtain ⟨gq, hgq⟩ : ∃ g, g = v301.heap.size := ⟨_, rfl⟩; obtain ⟨v302, hv302⟩ : ∃ W, W = v301.alloc (.cells #[.slice none 0 0, .slice none 0 0, .slice none 0 0] 34) := ⟨_, rfl⟩
            have hb9 : Below v301.heap.size v301 v302 := by rw [hv302]; exact Dt.box_below _ _ _
            have hvg : wq.heap.size ≤ gq := by rw [hgq]; exact HBV.out.size
            have hwg : w.heap.size ≤ gq := by rw [hgq]; exact HKc.out.below.size
            have hnbr : br ≠ gq := by have h := World.block_lt_of_cell? v301 _ HKc.out.c0; dsimp only at h; omega
            have hnga : ga ≠ gq := by have h := World.block_lt_of_cell? v301 _ HKc.out.c6; dsimp only at h; omega
            have hngb : gb ≠ gq := by have h := World.block_lt_of_cell? v301 _ HKc.out.t8.c1; dsimp only at h; omega
            have b0 : v302.cell? ⟨gq, 0, none⟩ = some (.slice none 0 0) := by rw [hv302, hgq]; go_simp
            have b1 : v302.cell? ⟨gq, 1, none⟩ = some (.slice none 0 0) := by rw [hv302, hgq]; go_simp
            have b2 : v302.cell? ⟨gq, 2, none⟩ = some (.slice none 0 0) := by rw [hv302, hgq]; go_simp
            have HKc := Lib.hid (HKc.out.later hb9); have RF := Lib.hid (RF.out.later hb9); have RG := Lib.hid (RG.out.later hb9); have RY := Lib.hid (RY.out.later hb9); have RZ := Lib.hid (RZ.out.later hb9); have HBQ := Lib.hid (HBQ.out.trans (hb9.mono HBQ.out.size)); have HBV := Lib.hid (HBV.out.trans (hb9.mono HBV.out.size)); have HZ : Hid (Kept [(⟨gq, 0, none⟩, .slice none 0 0), (⟨gq, 1, none⟩, .slice none 0 0), (⟨gq, 2, none⟩, .slice none 0 0)] wq v302) := (((Kept.nil_of HBV.out).cons_of b2).cons_of b1).cons_of b0; have HF : Hid (Free gq v302) := ⟨by rw [hv302, hgq]; simp, fun j => by rw [hv302, hgq]; go_simp⟩; have hlt9 : gq < v302.heap.size := HF.out.1; (try rw [← hv302] at hHeld); rw [← hv302]; rw [← hgq]; clear hgq hv302 hb9 b0 b1 b2; refine Tc 5 (fun K hK => ?_); go_simp; (go_at_call 15; refine (joinE_any kf.1 ky.1 kf.2 ky.2 Fe Fk Fc Ye Yk Yc fe1 fk1 fe2 fk2 fc1 fc2 ye1 yk1 ye2 yk2 yc1 yc2 v302 (by have h := HNA.out.1; (try dsimp only at h); omega) RF.out.rd.len (by have h := HNA.out.2; (try dsimp only at h); omega) RF.out.rd.tree RF.out.rd.ctx (by have h := HNY.out; omega) RY.out.rd.len (by have h := HCY.out; omega) RY.out.rd.tree RY.out.rd.ctx).mono ?_)
            rintro e v303 ⟨kq, z9, hj, Qe, qe1, qe2, Qk, qk1, qk2, Qc, qc1, qc2, rfl, how, hb9⟩; obtain ⟨rfl, hjj, hjl⟩ := hj.1 ⟨JF.out, JY.out⟩
            have hjm : qc1 ≤ fc1 + yc1 := by rw [← how.len]; exact hjl
            have HP : Hid (IsJ kf ky kq ∧ qc1 ≤ fc1 + yc1) := ⟨hjj, hjm⟩; have HN : Hid (NoC v303 (fun b => wq.heap.size ≤ b ∧ b ≠ gq) ⟨kq, ⟨Qe, qe1, qe2⟩, ⟨Qk, qk1, qk2⟩, ⟨Qc, qc1, qc2⟩⟩) := NoC.of_own how (fun b hb _ => ⟨Nat.le_trans HBV.out.size hb, by have h := HF.out.1; omega⟩); clear how; clear hj hjj hjl hjm; have HKc := Lib.hid (HKc.out.later hb9); have RF := Lib.hid (RF.out.later hb9); have RG := Lib.hid (RG.out.later hb9); have RY := Lib.hid (RY.out.later hb9); have RZ := Lib.hid (RZ.out.later hb9); have HBQ := Lib.hid (HBQ.out.trans (hb9.mono HBQ.out.size)); have HBV := Lib.hid (HBV.out.trans (hb9.mono HBV.out.size)); have HZ := Lib.hid (HZ.out.later hb9); have HF := Lib.hid (HF.out.later hb9); clear hb9; have z0 := HZ.out.c0; have z1 := HZ.out.c1; have z2 := HZ.out.c2; have m0 := HF.out.2 0; have m1 := HF.out.2 1; have m2 := HF.out.2 2; clear hHeld; refine Th hK ?_ (fun hHeld => ?_)
            ·exact ⟨HKc.out.c0, HKc.out.c1, HKc.out.c2, HKc.out.c3, HKc.out.c4, HKc.out.c5, HKc.out.c6, HKc.out.c7, HKc.out.t8.c0, HKc.out.t8.c1, HKc.out.t8.c2, HKc.out.t8.c3⟩
            clear hK K; refine Tk 6 92 ?_; refine Tk 7 99 ?_; refine Tk 8 100 ?_; refine Tc 10 (fun K hK => ?_); go_simp; refine Th hK ?_ (fun hHeld2 => ?_)
            ·(try dsimp only)
             have h9 := HKc.out
             have h9 := h9.set (a := ⟨gq, 0, none⟩) hwg (fun x hx => by simp at hx; rcases hx with rfl | rfl | rfl | rfl | rfl | rfl | rfl | rfl | rfl | rfl | rfl | rfl <;> (dsimp only; omega)) (.slice Qe qe1 qe2)
             have h9 := h9.set (a := ⟨gq, 1, none⟩) hwg (fun x hx => by simp at hx; rcases hx with rfl | rfl | rfl | rfl | rfl | rfl | rfl | rfl | rfl | rfl | rfl | rfl <;> (dsimp only; omega)) (.slice Qk qk1 qk2)
             have h9 := h9.set (a := ⟨gq, 2, none⟩) hwg (fun x hx => by simp at hx; rcases hx with rfl | rfl | rfl | rfl | rfl | rfl | rfl | rfl | rfl | rfl | rfl | rfl <;> (dsimp only; omega)) (.slice Qc qc1 qc2)
             exact ⟨h9.c0, h9.c1, h9.c2, h9.c3, h9.c4, h9.c5, h9.c6, h9.c7, h9.t8.c0, h9.t8.c1, h9.t8.c2, h9.t8.c3⟩
            clear hK K hHeld; have hHeld := hHeld2; clear hHeld2; refine Tk 11 15 ?_; refine wpAnyH_done (by kernel_rfl) ?_ _; clear hHeld
            have HMID : Hid (MidF wq gq ⟨kq, ⟨Qe, qe1, qe2⟩, ⟨Qk, qk1, qk2⟩, ⟨Qc, qc1, qc2⟩⟩ (((v303.setCell ⟨gq, 0, none⟩ (.slice Qe qe1 qe2)).setCell ⟨gq, 1, none⟩ (.slice Qk qk1 qk2)).setCell ⟨gq, 2, none⟩ (.slice Qc qc1 qc2))) := by
             obtain ⟨W9, hW9⟩ : ∃ W, W = (((v303.setCell ⟨gq, 0, none⟩ (.slice Qe qe1 qe2)).setCell ⟨gq, 1, none⟩ (.slice Qk qk1 qk2)).setCell ⟨gq, 2, none⟩ (.slice Qc qc1 qc2)) := ⟨_, rfl⟩; rw [← hW9]
             have hb : Below wq.heap.size wq W9 := by
              rw [hW9]; exact (((HBV.out.setCell (p := ⟨gq, 0, none⟩) hvg _).setCell (p := ⟨gq, 1, none⟩) hvg _).setCell (p := ⟨gq, 2, none⟩) hvg _)
             refine ⟨hvg, HN.out.keep (by rw [hW9, cells3]; exact Nat.le_refl _) (fun b hb _ => by rw [hW9]; exact cells3_at b hb.2), ?_⟩
             refine (((Kept.nil_of hb).cons_of ?_).cons_of ?_).cons_of ?_ <;> (rw [hW9]; go_simp)
            clear z0 z1 z2 m0 m1 m2; go_wp2_with fail; go_meet; exact ⟨gq, ⟨kq, ⟨Qe, qe1, qe2⟩, ⟨Qk, qk1, qk2⟩, ⟨Qc, qc1, qc2⟩⟩, rfl, rfl, HMID.out, HP.out⟩
          case rest =>
           obtain ⟨wcgq, hwcgq⟩ : ∃ W, W = wc := ⟨_, rfl⟩; subst hwcgq; obtain ⟨gq, ⟨kq, ⟨Qe, qe1, qe2⟩, ⟨Qk, qk1, qk2⟩, ⟨Qc, qc1, qc2⟩⟩, rfl, rfl, hmid, hprop⟩ := hcut; obtain ⟨hgl, hnp, hkp⟩ := hmid.out; have hb9 := hkp.below; have HKc := Lib.hid (HKc.out.later hb9); have RF := Lib.hid (RF.out.later hb9); have RG := Lib.hid (RG.out.later hb9); have RY := Lib.hid (RY.out.later hb9); have RZ := Lib.hid (RZ.out.later hb9); have HBQ := Lib.hid (HBQ.out.trans (hb9.mono HBQ.out.size)); clear hb9; have HQ : Hid (NoC wcgq (fun b => wq.heap.size ≤ b ∧ b ≠ gq) ⟨kq, ⟨Qe, qe1, qe2⟩, ⟨Qk, qk1, qk2⟩, ⟨Qc, qc1, qc2⟩⟩) := hnp; have RQ := Lib.hid hnp.rd; have HQL : Hid (wq.heap.size ≤ gq) := hgl; have PQ : Hid (IsJ kf ky kq ∧ qc1 ≤ fc1 + yc1) := hprop.out; have HKc : Hid (Kept [(⟨gq, 0, none⟩, .slice Qe qe1 qe2), (⟨gq, 1, none⟩, .slice Qk qk1 qk2), (⟨gq, 2, none⟩, .slice Qc qc1 qc2), (⟨br, orr + k2 * 3, none⟩, .slice Ye ye1 ye2), (⟨br, orr + k2 * 3 + 1, none⟩, .slice Yk yk1 yk2), (⟨br, orr + k2 * 3 + 2, none⟩, .slice Yc yc1 yc2), (⟨br, orr + (k - 1 - k2) * 3, none⟩, .slice Ze ze1 ze2), (⟨br, orr + (k - 1 - k2) * 3 + 1, none⟩, .slice Zk zk1 zk2), (⟨br, orr + (k - 1 - k2) * 3 + 2, none⟩, .slice Zc zc1 zc2), (⟨ga, 0, none⟩, .slice Fe fe1 fe2), (⟨ga, 1, none⟩, .slice Fk fk1 fk2), (⟨ga, 2, none⟩, .slice Fc fc1 fc2), (⟨gb, 0, none⟩, .slice Ge ge1 ge2), (⟨gb, 1, none⟩, .slice Gk gk1 gk2), (⟨gb, 2, none⟩, .slice Gc gc1 gc2)] w wcgq) := (((HKc.out.cons_of hkp.c2).cons_of hkp.c1).cons_of hkp.c0)
           clear hmid hprop hnp hkp hgl; have HVQ : Hid (wq.heap.size ≤ wcgq.heap.size) := HBQ.out.size; have c0 := HKc.out.c0; have c1 := HKc.out.c1; have c2 := HKc.out.c2; have c3 := HKc.out.c3; have c4 := HKc.out.c4; have c5 := HKc.out.c5; have c6 := HKc.out.c6; have c7 := HKc.out.c7; have c8 := HKc.out.t8.c0; have c9 := HKc.out.t8.c1; have c10 := HKc.out.t8.c2; have c11 := HKc.out.t8.c3; have c12 := HKc.out.t8.c4; have c13 := HKc.out.t8.c5; have c14 := HKc.out.t8.c6; go_wp2_with fail; clear c0 c1 c2 c3 c4 c5 c6 c7 c8 c9 c10 c11 c12 c13 c14
           go_cut [16, 17] (fun s9 e9 wx => ∃ (g9 : Nat) (p9 : CP), s9 = .pointer (some ⟨g9, 0, none⟩) ∧ e9 = .int .i64 0 ∧ Hid (MidF wcgq g9 p9 wx) ∧ Hid (IsJ kz kg p9.k ∧ p9.c.n ≤ zc1 + gc1))
           case first =>
            refine wp_region_held_drew (S := fun W => W.cell? ⟨gq, 0, none⟩ = some (.slice Qe qe1 qe2) ∧ W.cell? ⟨gq, 1, none⟩ = some (.slice Qk qk1 qk2) ∧ W.cell? ⟨gq, 2, none⟩ = some (.slice Qc qc1 qc2) ∧ W.cell? ⟨br, orr + k2 * 3, none⟩ = some (.slice Ye ye1 ye2) ∧ W.cell? ⟨br, orr + k2 * 3 + 1, none⟩ = some (.slice Yk yk1 yk2) ∧ W.cell? ⟨br, orr + k2 * 3 + 2, none⟩ = some (.slice Yc yc1 yc2) ∧ W.cell? ⟨br, orr + (k - 1 - k2) * 3, none⟩ = some (.slice Ze ze1 ze2) ∧ W.cell? ⟨br, orr + (k - 1 - k2) * 3 + 1, none⟩ = some (.slice Zk zk1 zk2) ∧ W.cell? ⟨br, orr + (k - 1 - k2) * 3 + 2, none⟩ = some (.slice Zc zc1 zc2) ∧ W.cell? ⟨ga, 0, none⟩ = some (.slice Fe fe1 fe2) ∧ W.cell? ⟨ga, 1, none⟩ = some (.slice Fk fk1 fk2) ∧ W.cell? ⟨ga, 2, none⟩ = some (.slice Fc fc1 fc2) ∧ W.cell? ⟨gb, 0, none⟩ = some (.slice Ge ge1 ge2) ∧ W.cell? ⟨gb, 1, none⟩ = some (.slice Gk gk1 gk2) ∧ W.cell? ⟨gb, 2, none⟩ = some (.slice Gc gc1 gc2)) (by kernel_rfl) (by have h9 := HKc.out.drew; exact ⟨h9.c0, h9.c1, h9.c2, h9.c3, h9.c4, h9.c5, h9.c6, h9.c7, h9.t8.c0, h9.t8.c1, h9.t8.c2, h9.t8.c3, h9.t8.c4, h9.t8.c5, h9.t8.c6⟩) (fun hHeld => ?_)
            obtain ⟨v301, hv301⟩ : ∃ v, v = wcgq.drew := ⟨_, rfl⟩
            have hb9 : Below wcgq.heap.size wcgq v301 := by rw [hv301]; exact (Below.refl _ _).drew
            have HKc := Lib.hid (HKc.out.later hb9); have RF := Lib.hid (RF.out.later hb9); have RG := Lib.hid (RG.out.later hb9); have RY := Lib.hid (RY.out.later hb9); have RZ := Lib.hid (RZ.out.later hb9); have HBQ := Lib.hid (HBQ.out.trans (hb9.mono HBQ.out.size)); have RQ := Lib.hid (RQ.out.later hb9); have HQ := Lib.hid (HQ.out.later hb9); clear hb9; have HBV9 : Hid (wcgq.drew = v301) := hv301.symm; rw [← hv301] at hHeld ⊢; clear hv301
            have HBV : Hid (Below wcgq.heap.size wcgq v301) := by unfold Hid; rw [← HBV9.out]; exact (Below.refl _ _).drew
            clear HBV9; refine Tk 0 102 ?_; refine Tk 1 103 ?_; refine Tk 2 104 ?_; refine Tk 3 105 ?_; refine Tk 4 106 ?_; refine Tk 5 107 ?_; refine Tk 6 108 ?_; refine Tk 7 109 ?_; refine Tk 8 110 ?_; refine wpAnyH_ready (rs := [9, 13]) (by kernel_rfl) (by simp) ?_; refine AllReadyH.cons (o := ⟨some 111, _, _, _, _, _⟩) rfl (fun K hK => ?_) (AllReadyH.cons (o := ⟨some 16, _, _, _, _, _⟩) rfl (fun K hK => ?_) (AllReadyH.nil))
            ·go_simp
             (go_at_call 15; refine (joinE_any kz.1 kg.1 kz.2 kg.2 Ze Zk Zc Ge Gk Gc ze1 zk1 ze2 zk2 zc1 zc2 ge1 gk1 ge2 gk2 gc1 gc2 v301 (by have h := HNZ.out; omega) RZ.out.rd.len (by have h := HCZ.out; omega) RZ.out.rd.tree RZ.out.rd.ctx (by have h := HNB.out.1; (try dsimp only at h); omega) RG.out.rd.len (by have h := HNB.out.2; (try dsimp only at h); omega) RG.out.rd.tree RG.out.rd.ctx).mono ?_); rintro e v302 ⟨kr, z9, hj, Re, re1, re2, Rk, rk1, rk2, Rc, rc1, rc2, rfl, how, hb9⟩; obtain ⟨rfl, hjj, hjl⟩ := hj.1 ⟨JZ.out, JG.out⟩
             have hjm : rc1 ≤ zc1 + gc1 := by rw [← how.len]; exact hjl
             have HP : Hid (IsJ kz kg kr ∧ rc1 ≤ zc1 + gc1) := ⟨hjj, hjm⟩; have HN : Hid (NoC v302 (fun b => wcgq.heap.size ≤ b) ⟨kr, ⟨Re, re1, re2⟩, ⟨Rk, rk1, rk2⟩, ⟨Rc, rc1, rc2⟩⟩) := NoC.of_own how (fun b hb _ => Nat.le_trans HBV.out.size hb); clear how; clear hj hjj hjl hjm; have HKc := Lib.hid (HKc.out.later hb9); have RF := Lib.hid (RF.out.later hb9); have RG := Lib.hid (RG.out.later hb9); have RY := Lib.hid (RY.out.later hb9); have RZ := Lib.hid (RZ.out.later hb9); have HBQ := Lib.hid (HBQ.out.trans (hb9.mono HBQ.out.size)); have RQ := Lib.hid (RQ.out.later hb9); have HQ := Lib.hid (HQ.out.later hb9); have HBV := Lib.hid (HBV.out.trans (hb9.mono HBV.out.size)); clear hb9; clear hHeld; refine Th hK ?_ (fun hHeld => ?_)
             ·exact ⟨HKc.out.c0, HKc.out.c1, HKc.out.c2, HKc.out.c3, HKc.out.c4, HKc.out.c5, HKc.out.c6, HKc.out.c7, HKc.out.t8.c0, HKc.out.t8.c1, HKc.out.t8.c2, HKc.out.t8.c3, HKc.out.t8.c4, HKc.out.t8.c5, HKc.out.t8.c6⟩
             clear hK K; refine Tk 10 101 ?_; refine Tk 11 112 ?_; refine Tk 12 113 ?_; refine Tc 13 (fun K hK => ?_); go_simp; clear hHeld; refine Th hK ?_ (fun hHeld => ?_)
             ·exact ⟨(HKc.out.alloc _).c0, (HKc.out.alloc _).c1, (HKc.out.alloc _).c2, (HKc.out.alloc _).c3, (HKc.out.alloc _).c4, (HKc.out.alloc _).c5, (HKc.out.alloc _).c6, (HKc.out.alloc _).c7, (HKc.out.alloc _).t8.c0, (HKc.out.alloc _).t8.c1, (HKc.out.alloc _).t8.c2, (HKc.out.alloc _).t8.c3, (HKc.out.alloc _).t8.c4, (HKc.out.alloc _).t8.c5, (HKc.out.alloc _).t8.c6⟩
             clear hK K; obtain ⟨gr, hgr⟩ : ∃ g, g = v302.heap.size := ⟨_, rfl⟩; obtain ⟨v303, hv303⟩ : ∃ W, W = v302.alloc (.cells #[.slice none 0 0, .slice none 0 0, .slice none 0 0] 34) := ⟨_, rfl⟩
             have hb9 : Below v302.heap.size v302 v303 := by rw [hv303]; exact Dt.box_below _ _ _
             have hvg : wcgq.heap.size ≤ gr := by rw [hgr]; exact HBV.out.size
             have hwg : w.heap.size ≤ gr := by rw [hgr]; exact HKc.out.below.size
             have hngq : gq ≠ gr := by have h := World.block_lt_of_cell? v302 _ HKc.out.c0; dsimp only at h; omega
             have hnbr : br ≠ gr := by have h := World.block_lt_of_cell? v302 _ HKc.out.c3; dsimp only at h; omega
             have hnga : ga ≠ gr := by have h := World.block_lt_of_cell? v302 _ HKc.out.t8.c1; dsimp only at h; omega
             have hngb : gb ≠ gr := by have h := World.block_lt_of_cell? v302 _ HKc.out.t8.c4; dsimp only at h; omega
             have b0 : v303.cell? ⟨gr, 0, none⟩ = some (.slice none 0 0) := by rw [hv303, hgr]; go_simp
             have b1 : v303.cell? ⟨gr, 1, none⟩ = some (.slice none 0 0) := by rw [hv303, hgr]; go_simp
             have b2 : v303.cell? ⟨gr, 2, none⟩ = some (.slice none 0 0) := by rw [hv303, hgr]; go_simp
             have HN := Lib.hid (HN.out.mono (ok' := fun b => wcgq.heap.size ≤ b ∧ b ≠ gr) (fun b hb hlt => ⟨hb, by omega⟩)); have HKc := Lib.hid (HKc.out.later hb9); have RF := Lib.hid (RF.out.later hb9); have RG := Lib.hid (RG.out.later hb9); have RY := Lib.hid (RY.out.later hb9); have RZ := Lib.hid (RZ.out.later hb9); have HBQ := Lib.hid (HBQ.out.trans (hb9.mono HBQ.out.size)); have RQ := Lib.hid (RQ.out.later hb9); have HQ := Lib.hid (HQ.out.later hb9); have HBV := Lib.hid (HBV.out.trans (hb9.mono HBV.out.size)); have HN := Lib.hid (HN.out.later hb9); have HZ : Hid (Kept [(⟨gr, 0, none⟩, .slice none 0 0), (⟨gr, 1, none⟩, .slice none 0 0), (⟨gr, 2, none⟩, .slice none 0 0)] wcgq v303) := (((Kept.nil_of HBV.out).cons_of b2).cons_of b1).cons_of b0; have HF : Hid (Free gr v303) := ⟨by rw [hv303, hgr]; simp, fun j => by rw [hv303, hgr]; go_simp⟩; have hlt9 : gr < v303.heap.size := HF.out.1
             (try rw [← hv303] at hHeld); rw [← hv303]; rw [← hgr]; clear hgr hv303 hb9 b0 b1 b2; have z0 := HZ.out.c0; have z1 := HZ.out.c1; have z2 := HZ.out.c2; have m0 := HF.out.2 0; have m1 := HF.out.2 1; have m2 := HF.out.2 2; refine Tc 14 (fun K hK => ?_); go_simp; refine Th hK ?_ (fun hHeld2 => ?_)
             ·(try dsimp only)
              have h9 := HKc.out
              have h9 := h9.set (a := ⟨gr, 0, none⟩) hwg (fun x hx => by simp at hx; rcases hx with rfl | rfl | rfl | rfl | rfl | rfl | rfl | rfl | rfl | rfl | rfl | rfl | rfl | rfl | rfl <;> (dsimp only; omega)) (.slice Re re1 re2)
              have h9 := h9.set (a := ⟨gr, 1, none⟩) hwg (fun x hx => by simp at hx; rcases hx with rfl | rfl | rfl | rfl | rfl | rfl | rfl | rfl | rfl | rfl | rfl | rfl | rfl | rfl | rfl <;> (dsimp only; omega)) (.slice Rk rk1 rk2)
              have h9 := h9.set (a := ⟨gr, 2, none⟩) hwg (fun x hx => by simp at hx; rcases hx with rfl | rfl | rfl | rfl | rfl | rfl | rfl | rfl | rfl | rfl | rfl | rfl | rfl | rfl | rfl <;> (dsimp only; omega)) (.slice Rc rc1 rc2)
              exact ⟨h9.c0, h9.c1, h9.c2, h9.c3, h9.c4, h9.c5, h9.c6, h9.c7, h9.t8.c0, h9.t8.c1, h9.t8.c2, h9.t8.c3, h9.t8.c4, h9.t8.c5, h9.t8.c6⟩
             clear hK K hHeld; have hHeld := hHeld2; clear hHeld2; refine Tk 15 17 ?_; refine wpAnyH_done (by kernel_rfl) ?_ _; clear hHeld
             have HMID : Hid (MidF wcgq gr ⟨kr, ⟨Re, re1, re2⟩, ⟨Rk, rk1, rk2⟩, ⟨Rc, rc1, rc2⟩⟩ (((v303.setCell ⟨gr, 0, none⟩ (.slice Re re1 re2)).setCell ⟨gr, 1, none⟩ (.slice Rk rk1 rk2)).setCell ⟨gr, 2, none⟩ (.slice Rc rc1 rc2))) := by
              obtain ⟨W9, hW9⟩ : ∃ W, W = (((v303.setCell ⟨gr, 0, none⟩ (.slice Re re1 re2)).setCell ⟨gr, 1, none⟩ (.slice Rk rk1 rk2)).setCell ⟨gr, 2, none⟩ (.slice Rc rc1 rc2)) := ⟨_, rfl⟩; rw [← hW9]
              have hb : Below wcgq.heap.size wcgq W9 := by
               rw [hW9]; exact (((HBV.out.setCell (p := ⟨gr, 0, none⟩) hvg _).setCell (p := ⟨gr, 1, none⟩) hvg _).setCell (p := ⟨gr, 2, none⟩) hvg _)
              refine ⟨hvg, HN.out.keep (by rw [hW9, cells3]; exact Nat.le_refl _) (fun b hb _ => by rw [hW9]; exact cells3_at b hb.2), ?_⟩
              refine (((Kept.nil_of hb).cons_of ?_).cons_of ?_).cons_of ?_ <;> (rw [hW9]; go_simp)
             clear z0 z1 z2 m0 m1 m2; go_wp2_with fail; go_meet; exact ⟨gr, ⟨kr, ⟨Re, re1, re2⟩, ⟨Rk, rk1, rk2⟩, ⟨Rc, rc1, rc2⟩⟩, rfl, rfl, HMID.out, HP.out⟩
            ·go_simp
             clear hHeld; refine Th hK ?_ (fun hHeld => ?_)
             ·exact ⟨(HKc.out.alloc _).c0, (HKc.out.alloc _).c1, (HKc.out.alloc _).c2, (HKc.out.alloc _).c3, (HKc.out.alloc _).c4, (HKc.out.alloc _).c5, (HKc.out.alloc _).c6, (HKc.out.alloc _).c7, (HKc.out.alloc _).t8.c0, (HKc.out.alloc _).t8.c1, (HKc.out.alloc _).t8.c2, (HKc.out.alloc _).t8.c3, (HKc.out.alloc _).t8.c4, (HKc.out.alloc _).t8.c5, (HKc.out.alloc _).t8.c6⟩
             clear hK K; obtain ⟨gr, hgr⟩ : ∃ g, g = v301.heap.size := ⟨_, rfl⟩; obtain ⟨v302, hv302⟩ : ∃ W, W = v301.alloc (.cells #[.slice none 0 0, .slice none 0 0, .slice none 0 0] 34) := ⟨_, rfl⟩
             have hb9 : Below v301.heap.size v301 v302 := by rw [hv302]; exact Dt.box_below _ _ _
             have hvg : wcgq.heap.size ≤ gr := by rw [hgr]; exact HBV.out.size
             have hwg : w.heap.size ≤ gr := by rw [hgr]; exact HKc.out.below.size
             have hngq : gq ≠ gr := by have h := World.block_lt_of_cell? v301 _ HKc.out.c0; dsimp only at h; omega
             have hnbr : br ≠ gr := by have h := World.block_lt_of_cell? v301 _ HKc.out.c3; dsimp only at h; omega
             have hnga : ga ≠ gr := by have h := World.block_lt_of_cell? v301 _ HKc.out.t8.c1; dsimp only at h; omega
             have hngb : gb ≠ gr := by have h := World.block_lt_of_cell? v301 _ HKc.out.t8.c4; dsimp only at h; omega
             have b0 : v302.cell? ⟨gr, 0, none⟩ = some (.slice none 0 0) := by rw [hv302, hgr]; go_simp
             have b1 : v302.cell? ⟨gr, 1, none⟩ = some (.slice none 0 0) := by rw [hv302, hgr]; go_simp
             have b2 : v302.cell? ⟨gr, 2, none⟩ = some (.slice none 0 0) := by rw [hv302, hgr]; go_simp
             have HKc := Lib.hid (HKc.out.later hb9); have RF := Lib.hid (RF.out.later hb9); have RG := Lib.hid (RG.out.later hb9); have RY := Lib.hid (RY.out.later hb9); have RZ := Lib.hid (RZ.out.later hb9); have HBQ := Lib.hid (HBQ.out.trans (hb9.mono HBQ.out.size)); have RQ := Lib.hid (RQ.out.later hb9); have HQ := Lib.hid (HQ.out.later hb9); have HBV := Lib.hid (HBV.out.trans (hb9.mono HBV.out.size)); have HZ : Hid (Kept [(⟨gr, 0, none⟩, .slice none 0 0), (⟨gr, 1, none⟩, .slice none 0 0), (⟨gr, 2, none⟩, .slice none 0 0)] wcgq v302) := (((Kept.nil_of HBV.out).cons_of b2).cons_of b1).cons_of b0; have HF : Hid (Free gr v302) := ⟨by rw [hv302, hgr]; simp, fun j => by rw [hv302, hgr]; go_simp⟩; have hlt9 : gr < v302.heap.size := HF.out.1; (try rw [← hv302] at hHeld); rw [← hv302]; rw [← hgr]; clear hgr hv302 hb9 b0 b1 b2; refine Tc 9 (fun K hK => ?_); go_simp; (go_at_call 15; refine (joinE_any kz.1 kg.1 kz.2 kg.2 Ze Zk Zc Ge Gk Gc ze1 zk1 ze2 zk2 zc1 zc2 ge1 gk1 ge2 gk2 gc1 gc2 v302 (by have h := HNZ.out; omega) RZ.out.rd.len (by have h := HCZ.out; omega) RZ.out.rd.tree RZ.out.rd.ctx (by have h := HNB.out.1; (try dsimp only at h); omega) RG.out.rd.len (by have h := HNB.out.2; (try dsimp only at h); omega) RG.out.rd.tree RG.out.rd.ctx).mono ?_)
             rintro e v303 ⟨kr, z9, hj, Re, re1, re2, Rk, rk1, rk2, Rc, rc1, rc2, rfl, how, hb9⟩; obtain ⟨rfl, hjj, hjl⟩ := hj.1 ⟨JZ.out, JG.out⟩
             have hjm : rc1 ≤ zc1 + gc1 := by rw [← how.len]; exact hjl
             have HP : Hid (IsJ kz kg kr ∧ rc1 ≤ zc1 + gc1) := ⟨hjj, hjm⟩; have HN : Hid (NoC v303 (fun b => wcgq.heap.size ≤ b ∧ b ≠ gr) ⟨kr, ⟨Re, re1, re2⟩, ⟨Rk, rk1, rk2⟩, ⟨Rc, rc1, rc2⟩⟩) := NoC.of_own how (fun b hb _ => ⟨Nat.le_trans HBV.out.size hb, by have h := HF.out.1; omega⟩); clear how; clear hj hjj hjl hjm; have HKc := Lib.hid (HKc.out.later hb9); have RF := Lib.hid (RF.out.later hb9); have RG := Lib.hid (RG.out.later hb9); have RY := Lib.hid (RY.out.later hb9); have RZ := Lib.hid (RZ.out.later hb9); have HBQ := Lib.hid (HBQ.out.trans (hb9.mono HBQ.out.size)); have RQ := Lib.hid (RQ.out.later hb9); have HQ := Lib.hid (HQ.out.later hb9); have HBV := Lib.hid (HBV.out.trans (hb9.mono HBV.out.size)); have HZ := Lib.hid (HZ.out.later hb9); have HF := Lib.hid (HF.out.later hb9); clear hb9; have z0 := HZ.out.c0; have z1 := HZ.out.c1; have z2 := HZ.out.c2; have m0 := HF.out.2 0; have m1 := HF.out.2 1
             have m2 := HF.out.2 2; clear hHeld; refine Th hK ?_ (fun hHeld => ?_)
             ·exact ⟨HKc.out.c0, HKc.out.c1, HKc.out.c2, HKc.out.c3, HKc.out.c4, HKc.out.c5, HKc.out.c6, HKc.out.c7, HKc.out.t8.c0, HKc.out.t8.c1, HKc.out.t8.c2, HKc.out.t8.c3, HKc.out.t8.c4, HKc.out.t8.c5, HKc.out.t8.c6⟩
             clear hK K; refine Tk 10 101 ?_; refine Tk 11 112 ?_; refine Tk 12 113 ?_; refine Tc 14 (fun K hK => ?_); go_simp; refine Th hK ?_ (fun hHeld2 => ?_)
             ·(try dsimp only)
              have h9 := HKc.out
              have h9 := h9.set (a := ⟨gr, 0, none⟩) hwg (fun x hx => by simp at hx; rcases hx with rfl | rfl | rfl | rfl | rfl | rfl | rfl | rfl | rfl | rfl | rfl | rfl | rfl | rfl | rfl <;> (dsimp only; omega)) (.slice Re re1 re2)
              have h9 := h9.set (a := ⟨gr, 1, none⟩) hwg (fun x hx => by simp at hx; rcases hx with rfl | rfl | rfl | rfl | rfl | rfl | rfl | rfl | rfl | rfl | rfl | rfl | rfl | rfl | rfl <;> (dsimp only; omega)) (.slice Rk rk1 rk2)
              have h9 := h9.set (a := ⟨gr, 2, none⟩) hwg (fun x hx => by simp at hx; rcases hx with rfl | rfl | rfl | rfl | rfl | rfl | rfl | rfl | rfl | rfl | rfl | rfl | rfl | rfl | rfl <;> (dsimp only; omega)) (.slice Rc rc1 rc2)
              exact ⟨h9.c0, h9.c1, h9.c2, h9.c3, h9.c4, h9.c5, h9.c6, h9.c7, h9.t8.c0, h9.t8.c1, h9.t8.c2, h9.t8.c3, h9.t8.c4, h9.t8.c5, h9.t8.c6⟩
             clear hK K hHeld; have hHeld := hHeld2; clear hHeld2; refine Tk 15 17 ?_; refine wpAnyH_done (by kernel_rfl) ?_ _; clear hHeld
             have HMID : Hid (MidF wcgq gr ⟨kr, ⟨Re, re1, re2⟩, ⟨Rk, rk1, rk2⟩, ⟨Rc, rc1, rc2⟩⟩ (((v303.setCell ⟨gr, 0, none⟩ (.slice Re re1 re2)).setCell ⟨gr, 1, none⟩ (.slice Rk rk1 rk2)).setCell ⟨gr, 2, none⟩ (.slice Rc rc1 rc2))) := by
              obtain ⟨W9, hW9⟩ : ∃ W, W = (((v303.setCell ⟨gr, 0, none⟩ (.slice Re re1 re2)).setCell ⟨gr, 1, none⟩ (.slice Rk rk1 rk2)).setCell ⟨gr, 2, none⟩ (.slice Rc rc1 rc2)) := ⟨_, rfl⟩; rw [← hW9]
              have hb : Below wcgq.heap.size wcgq W9 := by
               rw [hW9]; exact (((HBV.out.setCell (p := ⟨gr, 0, none⟩) hvg _).setCell (p := ⟨gr, 1, none⟩) hvg _).setCell (p := ⟨gr, 2, none⟩) hvg _)
              refine ⟨hvg, HN.out.keep (by rw [hW9, cells3]; exact Nat.le_refl _) (fun b hb _ => by rw [hW9]; exact cells3_at b hb.2), ?_⟩
              refine (((Kept.nil_of hb).cons_of ?_).cons_of ?_).cons_of ?_ <;> (rw [hW9]; go_simp)
             clear z0 z1 z2 m0 m1 m2; go_wp2_with fail; go_meet; exact ⟨gr, ⟨kr, ⟨Re, re1, re2⟩, ⟨Rk, rk1, rk2⟩, ⟨Rc, rc1, rc2⟩⟩, rfl, rfl, HMID.out, HP.out⟩
           case rest =>
            obtain ⟨wcgr, hwcgr⟩ : ∃ W, W = wc := ⟨_, rfl⟩; subst hwcgr; obtain ⟨gr, ⟨kr, ⟨Re, re1, re2⟩, ⟨Rk, rk1, rk2⟩, ⟨Rc, rc1, rc2⟩⟩, rfl, rfl, hmid, hprop⟩ := hcut; obtain ⟨hgl, hnp, hkp⟩ := hmid.out; have hb9 := hkp.below; have HKc := Lib.hid (HKc.out.later hb9); have RF := Lib.hid (RF.out.later hb9); have RG := Lib.hid (RG.out.later hb9); have RY := Lib.hid (RY.out.later hb9); have RZ := Lib.hid (RZ.out.later hb9); have HBQ := Lib.hid (HBQ.out.trans (hb9.mono HBQ.out.size)); have RQ := Lib.hid (RQ.out.later hb9); have HQ := Lib.hid (HQ.out.later hb9); clear hb9; have HR : Hid (NoC wcgr (fun b => wcgq.heap.size ≤ b ∧ b ≠ gr) ⟨kr, ⟨Re, re1, re2⟩, ⟨Rk, rk1, rk2⟩, ⟨Rc, rc1, rc2⟩⟩) := hnp; have RR := Lib.hid hnp.rd; have HRL : Hid (wcgq.heap.size ≤ gr) := hgl; have PR : Hid (IsJ kz kg kr ∧ rc1 ≤ zc1 + gc1) := hprop.out; have HKc : Hid (Kept [(⟨gr, 0, none⟩, .slice Re re1 re2), (⟨gr, 1, none⟩, .slice Rk rk1 rk2), (⟨gr, 2, none⟩, .slice Rc rc1 rc2), (⟨gq, 0, none⟩, .slice Qe qe1 qe2), (⟨gq, 1, none⟩, .slice Qk qk1 qk2), (⟨gq, 2, none⟩, .slice Qc qc1 qc2), (⟨br, orr + k2 * 3, none⟩, .slice Ye ye1 ye2), (⟨br, orr + k2 * 3 + 1, none⟩, .slice Yk yk1 yk2), (⟨br, orr + k2 * 3 + 2, none⟩, .slice Yc yc1 yc2), (⟨br, orr + (k - 1 - k2) * 3, none⟩, .slice Ze ze1 ze2), (⟨br, orr + (k - 1 - k2) * 3 + 1, none⟩, .slice Zk zk1 zk2), (⟨br, orr + (k - 1 - k2) * 3 + 2, none⟩, .slice Zc zc1 zc2), (⟨ga, 0, none⟩, .slice Fe fe1 fe2), (⟨ga, 1, none⟩, .slice Fk fk1 fk2), (⟨ga, 2, none⟩, .slice Fc fc1 fc2), (⟨gb, 0, none⟩, .slice Ge ge1 ge2), (⟨gb, 1, none⟩, .slice Gk gk1 gk2), (⟨gb, 2, none⟩, .slice Gc gc1 gc2)] w wcgr) := (((HKc.out.cons_of hkp.c2).cons_of hkp.c1).cons_of hkp.c0)
            clear hmid hprop hnp hkp hgl
            have HFQ : Hid (Firm (G2 ga gb) wcgr ⟨kq, ⟨Qe, qe1, qe2⟩, ⟨Qk, qk1, qk2⟩, ⟨Qc, qc1, qc2⟩⟩) := Firm.of_no HQ.out (fun b hb _ h => by have h1 := HGQ.out; rcases h with h | h <;> omega)
            have HFR : Hid (Firm (G2 ga gb) wcgr ⟨kr, ⟨Re, re1, re2⟩, ⟨Rk, rk1, rk2⟩, ⟨Rc, rc1, rc2⟩⟩) := Firm.of_no HR.out (fun b hb _ h => by have h1 := HGQ.out; have h2 := HVQ.out; rcases h with h | h <;> omega)
            have hla : w.heap.size ≤ ga := HGG.out.2.1; have hlb : w.heap.size ≤ gb := HGG.out.2.2; have hnab : ga ≠ gb := HGG.out.1; have hnba : gb ≠ ga := HGG.out.1.symm
            have hgq1 : gq ≠ ga := by have h1 := HGQ.out; have h2 := HQL.out; omega
            have hgq2 : gq ≠ gb := by have h1 := HGQ.out; have h2 := HQL.out; omega
            have hgr1 : gr ≠ ga := by have h1 := HGQ.out; have h2 := HRL.out; have h3 := HVQ.out; omega
            have hgr2 : gr ≠ gb := by have h1 := HGQ.out; have h2 := HRL.out; have h3 := HVQ.out; omega
            have HKb2 : Hid (Kept [(⟨gr, 0, none⟩, .slice Re re1 re2), (⟨gr, 1, none⟩, .slice Rk rk1 rk2), (⟨gr, 2, none⟩, .slice Rc rc1 rc2), (⟨gq, 0, none⟩, .slice Qe qe1 qe2), (⟨gq, 1, none⟩, .slice Qk qk1 qk2), (⟨gq, 2, none⟩, .slice Qc qc1 qc2)] w wcgr) := (((((((Kept.nil_of HKc.out.below).cons_of HKc.out.c5).cons_of HKc.out.c4).cons_of HKc.out.c3).cons_of HKc.out.c2).cons_of HKc.out.c1).cons_of HKc.out.c0); have c0 := HKb2.out.c0; have c1 := HKb2.out.c1; have c2 := HKb2.out.c2; have c3 := HKb2.out.c3; have c4 := HKb2.out.c4; have c5 := HKb2.out.c5; go_wp2_with fail; clear c0 c1 c2 c3 c4 c5
            have HXI2 : Hid (xs[xs.length - 1 - k2]'(by rw [HXL.out]; omega) = kz) := by
             have h := HXZ.out
             have e : xs.length - 1 - k2 = k - 1 - k2 := by rw [HXL.out]
             unfold Hid; rw [← h]
             congr 1
            refine wp_region_held_drew (S := fun W => W.cell? ⟨gr, 0, none⟩ = some (.slice Re re1 re2) ∧ W.cell? ⟨gr, 1, none⟩ = some (.slice Rk rk1 rk2) ∧ W.cell? ⟨gr, 2, none⟩ = some (.slice Rc rc1 rc2) ∧ W.cell? ⟨gq, 0, none⟩ = some (.slice Qe qe1 qe2) ∧ W.cell? ⟨gq, 1, none⟩ = some (.slice Qk qk1 qk2) ∧ W.cell? ⟨gq, 2, none⟩ = some (.slice Qc qc1 qc2)) (by kernel_rfl) (by have h9 := HKb2.out.drew; exact ⟨h9.c0, h9.c1, h9.c2, h9.c3, h9.c4, h9.c5⟩) (fun hHeld => ?_); obtain ⟨v301, hv301⟩ : ∃ v, v = wcgr.drew := ⟨_, rfl⟩
            have hb9 : Below wcgr.heap.size wcgr v301 := by rw [hv301]; exact (Below.refl _ _).drew
            have HKc := Lib.hid (HKc.out.later hb9); have RF := Lib.hid (RF.out.later hb9); have RG := Lib.hid (RG.out.later hb9); have RY := Lib.hid (RY.out.later hb9); have RZ := Lib.hid (RZ.out.later hb9); have HBQ := Lib.hid (HBQ.out.trans (hb9.mono HBQ.out.size)); have RQ := Lib.hid (RQ.out.later hb9); have HQ := Lib.hid (HQ.out.later hb9); have RR := Lib.hid (RR.out.later hb9); have HR := Lib.hid (HR.out.later hb9); have HKb2 := Lib.hid (HKb2.out.later hb9); have HFQ := Lib.hid (HFQ.out.later hb9); have HFR := Lib.hid (HFR.out.later hb9); clear hb9; rw [← hv301] at hHeld ⊢; clear hv301; have fa4 := HM.out.fa.later HBQ.out; have fb4 := HM.out.fb.later HBQ.out; have z0 := HKc.out.t8.c4; have z1 := HKc.out.t8.c5; have z2 := HKc.out.t8.c6; have z3 := HKc.out.t8.c7; have z4 := HKc.out.t8.t8.c0; have z5 := HKc.out.t8.t8.c1; have m0 := fa4.2 0; have m1 := fa4.2 1; have m2 := fa4.2 2; have m3 := fb4.2 0
            have m4 := fb4.2 1; have m5 := fb4.2 2; refine Tk 0 120 ?_; refine Tk 1 121 ?_; refine Tc 2 (fun K hK => ?_); go_simp; refine Th hK ?_ (fun hHeld2 => ?_)
            ·(try dsimp only)
             have h9 := HKb2.out
             have h9 := h9.set (a := ⟨ga, 0, none⟩) hla (fun x hx => by simp at hx; rcases hx with rfl | rfl | rfl | rfl | rfl | rfl <;> (dsimp only; omega)) (.slice Qe qe1 qe2)
             have h9 := h9.set (a := ⟨ga, 1, none⟩) hla (fun x hx => by simp at hx; rcases hx with rfl | rfl | rfl | rfl | rfl | rfl <;> (dsimp only; omega)) (.slice Qk qk1 qk2)
             have h9 := h9.set (a := ⟨ga, 2, none⟩) hla (fun x hx => by simp at hx; rcases hx with rfl | rfl | rfl | rfl | rfl | rfl <;> (dsimp only; omega)) (.slice Qc qc1 qc2)
             exact ⟨h9.c0, h9.c1, h9.c2, h9.c3, h9.c4, h9.c5⟩
            clear hK K hHeld; have hHeld := hHeld2; clear hHeld2; refine Tc 3 (fun K hK => ?_); go_simp; refine Th hK ?_ (fun hHeld2 => ?_)
            ·(try dsimp only)
             have h9 := HKb2.out
             have h9 := h9.set (a := ⟨ga, 0, none⟩) hla (fun x hx => by simp at hx; rcases hx with rfl | rfl | rfl | rfl | rfl | rfl <;> (dsimp only; omega)) (.slice Qe qe1 qe2)
             have h9 := h9.set (a := ⟨ga, 1, none⟩) hla (fun x hx => by simp at hx; rcases hx with rfl | rfl | rfl | rfl | rfl | rfl <;> (dsimp only; omega)) (.slice Qk qk1 qk2)
             have h9 := h9.set (a := ⟨ga, 2, none⟩) hla (fun x hx => by simp at hx; rcases hx with rfl | rfl | rfl | rfl | rfl | rfl <;> (dsimp only; omega)) (.slice Qc qc1 qc2)
             have h9 := h9.set (a := ⟨gb, 0, none⟩) hlb (fun x hx => by simp at hx; rcases hx with rfl | rfl | rfl | rfl | rfl | rfl <;> (dsimp only; omega)) (.slice Re re1 re2)
             have h9 := h9.set (a := ⟨gb, 1, none⟩) hlb (fun x hx => by simp at hx; rcases hx with rfl | rfl | rfl | rfl | rfl | rfl <;> (dsimp only; omega)) (.slice Rk rk1 rk2)
             have h9 := h9.set (a := ⟨gb, 2, none⟩) hlb (fun x hx => by simp at hx; rcases hx with rfl | rfl | rfl | rfl | rfl | rfl <;> (dsimp only; omega)) (.slice Rc rc1 rc2)
             exact ⟨h9.c0, h9.c1, h9.c2, h9.c3, h9.c4, h9.c5⟩
            clear hK K hHeld; have hHeld := hHeld2; clear hHeld2; refine wpAnyH_done (by kernel_rfl) ?_ _; clear hHeld z0 z1 z2 z3 z4 z5 m0 m1 m2 m3 m4 m5; have HST := Lib.hid (InvM.step HM.out hnab hla hlb HBQ.out HFQ.out HFR.out HMD.out (by rw [HXL.out]; exact hlt2) HXK.out (by rw [HXY.out]; exact PQ.out.1) (by have h := HXI2.out; rw [h]; exact PR.out.1) (by rw [HXY.out]; exact HNY.out) (by have h := HXI2.out; rw [h]; exact HNZ.out) (by have h1 := PQ.out.2; have h2 := HCY.out; dsimp only; omega) (by have h1 := PR.out.2; have h2 := HCZ.out; dsimp only; omega)); dsimp only at HST; obtain ⟨W9, hW9⟩ : ∃ W, W = ((((((v301.setCell ⟨ga, 0, none⟩ (.slice Qe qe1 qe2)).setCell ⟨ga, 1, none⟩ (.slice Qk qk1 qk2)).setCell ⟨ga, 2, none⟩ (.slice Qc qc1 qc2)).setCell ⟨gb, 0, none⟩ (.slice Re re1 re2)).setCell ⟨gb, 1, none⟩ (.slice Rk rk1 rk2)).setCell ⟨gb, 2, none⟩ (.slice Rc rc1 rc2)) := ⟨_, rfl⟩; rw [← hW9] at HST
            rw [← hW9]; clear hW9; go_wp2_with fail; go_roundw
            case rel => exact ⟨k2 + 1, _, _, by omega, by go_num, HST.out⟩
            case measure => simp [intOf]; omega
         ·have hkk : k2 = k := by omega
          have EFG : Hid (kf = kg) := by
           have h1 := HM.out.fore; have h2 := HM.out.back; rw [hkk, ← HXL.out] at h1 h2; exact both_ends h1 h2
          have HSF : Hid ((if Tr.rightB 5 kf.1 = true then sumE kf.1.es else 0) = sw) := by
           have h := HM.out.fore.sum; rw [hkk] at h; unfold Hid; rw [if_pos (Tr.rightB_iff.2 JF.out.tree)]; refine h.trans ?_; rw [← HSW.out, ← HSV.out]
          obtain rfl : k2 = k := hkk; have c0 := HKc.out.c0; have c1 := HKc.out.c1; have c2 := HKc.out.c2; have c3 := HKc.out.c3; have c4 := HKc.out.c4; have c5 := HKc.out.c5; go_wp2_with fail; refine (value_any kf.1 Fe Fk fe1 fk1 fe2 fk2 wq sw HSF.out (LenT.few (by have h := HNA.out.1; (try dsimp only at h); omega)) (by have h := HNA.out.1; (try dsimp only at h); omega) RF.out.rd.tree).mono ?_; rintro e v601 ⟨rfl, hb9⟩; have HKc := Lib.hid (HKc.out.later hb9); have RF := Lib.hid (RF.out.later hb9); have RG := Lib.hid (RG.out.later hb9); clear hb9; clear c0 c1 c2 c3 c4 c5; have c0 := HKc.out.c0; have c1 := HKc.out.c1; have c2 := HKc.out.c2; have c3 := HKc.out.c3; have c4 := HKc.out.c4; have c5 := HKc.out.c5; go_wp2_with fail; refine (sameK_any kf.1 kg.1 kf.2 kg.2 Fe Fk Fc Ge Gk Gc fe1 fk1 fe2 fk2 fc1 fc2 ge1 gk1 ge2 gk2 gc1 gc2 v601 (by have h := HNA.out.1; (try dsimp only at h); omega) RF.out.rd.len (by have h := HNA.out.2; (try dsimp only at h); omega) RF.out.rd.tree RF.out.rd.ctx (by have h := HNB.out.1; (try dsimp only at h); omega) RG.out.rd.len (by have h := HNB.out.2; (try dsimp only at h); omega) RG.out.rd.tree RG.out.rd.ctx).mono ?_
          rw [show sameKB (kf.1, kf.2) (kg.1, kg.2) = true from same_true JF.out EFG.out]; rintro e v602 ⟨rfl, hb9⟩; have HKc := Lib.hid (HKc.out.later hb9); have RF := Lib.hid (RF.out.later hb9); have RG := Lib.hid (RG.out.later hb9); clear hb9; clear c0 c1 c2 c3 c4 c5; go_wp2_with fail; go_ret; exact ⟨by first | rfl | simp, HKc.out.below⟩
set_option maxRecDepth 100000 in
theorem lifted (os : Os) (started : os.Started) (H : Type) (enc : TypeId × Value → H) :
  ReturnsInHanded {} Tryz.checked os 4 .any (Rows.counterAllSpec.pre6 enc Tryz.prog Tryz.f4 Rows.counterAllRow.domain false) (Rows.counterAllSpec.post enc Tryz.prog Tryz.f4 false true false false) := by
 refine returnsInHanded_of_change_sized (C := Tryz.checked) own started (by kernel_rfl) Tryz.func4
  (ChangeSpec.witness6 (enc := enc) (C := Tryz.checked) false ⟨#[], #[.agg #[.slice none 0 0, .slice none 0 0], .slice none 0 0], []⟩ 8 (by kernel_rfl) (by kernel_rfl) (by kernel_rfl) (by kernel_rfl)) ?_
 intro W base args ds gs before hval0 hW _ hsz0 _; have hval : ∀ (j : Nat) t v, Tryz.f4.params[j]? = some t → args[j]? = some v → Value.okWide Tryz.prog W .any base t v := hval0; have hW' := hW; obtain ⟨p, q, hA0, hV, rfl, hfz, hnd⟩ := hW; have hA : DataW.TrodAll enc Tryz.prog W 0 (fun _ => true) true Tryz.f4.params.toList args.toList ds p := hA0; rw [Tryz.params4] at hA hval; obtain ⟨v0, v1, d0, d1, p0, p1, rfl, rfl, rfl, h0, h1⟩ := trodAll_two hA; obtain ⟨rfl, rfl⟩ := trodVars_none hV; have hsz : (DataW.weightsEach Tryz.prog (25 :: 43 :: _) (d0 :: d1 :: _)).all (· ≤ reachBytes) = true := hsz0; obtain ⟨hw0, hsz⟩ := Tr.weights_head hsz; obtain ⟨t0, ae0, ak0, ne0, nk0, ce0, ck0, rfl, hr0, hl0⟩ := Tr.treeV_of_trod (hval 0 25 v0 rfl rfl) h0 hw0
 obtain ⟨Ai, ni, ci, rfl⟩ := okWide_slice Tryz.underlying43 (hval 1 43 v1 rfl rfl); obtain ⟨fi, hfi⟩ := h1; obtain ⟨li, hli, hri, hbi⟩ := i32s_of_trod hfi; refine (walk_any t0 ae0 ak0 ne0 nk0 ce0 ck0 li Ai ni ci W hr0 hl0 hli hri hbi).mono fun e W' ⟨he, hb⟩ => ?_; subst he; exact ⟨_, rfl, law_post hW' (by kernel_rfl) rfl rfl rfl hb⟩
theorem proved : Rows.CounterAllSaid :=
 OpenClaim.holds_of_wide 4 Tryz.f4 rfl rfl rfl rfl rfl rfl rfl ⟨rfl, rfl, rfl, rfl, rfl⟩ rfl rfl rfl rfl rfl (by kernel_rfl) Tryz.func4 (by kernel_rfl)
  (of_decide_eq_true (by kernel_rfl)) (by unfold Func.isWrapper; first | (rw [if_pos (by decide +kernel)]; kernel_rfl) | (rw [if_neg (by decide +kernel)]; exact ⟨rfl, rfl⟩))
  (fun os started H enc _ => lifted os started H enc)
#print axioms proved
end lawCounterAll
end Go.Proofs.YtolanjimmbpijaaGreat
