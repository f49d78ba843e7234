/- CounterTurns: a law, walked, and proved. -/
import Derived.Test.YtolanjimmbpijaaGreatG00
import Derived.Test.YtolanjimmbpijaaGreatG140
import Derived.Test.YtolanjimmbpijaaGreatDltRef
import Derived.Test.YtolanjimmbpijaaGreatCauJoin
import Derived.Test.YtolanjimmbpijaaGreatCauAll
import Derived.Test.YtolanjimmbpijaaGreatCauOwnRef
import Derived.Test.YtolanjimmbpijaaGreatG150
open Go.ChangeShapes Go.WideShapes Go.ChangeAt Go.RowKit
namespace Go.Proofs.YtolanjimmbpijaaGreat
namespace lawCounterTurns
open Tr Cx Cs Sp Rw Classical
theorem cnt_st {c r : K} {e : E} (hc : RK c) (he : RightE e) (hn : hasC c.2 e.a e.n = false) (hr : RK r) (h : ∀ p q, Cs.st r p q = mx (Cs.st c p q) (Cs.st (oneK e) p q)) : r.1 = addT c.1 e := by
 have hno : ∀ p, entAt c.1 p (keyE e) = none := fun p => hc.unknown (q := keyE e) hn; refine tree_ext (d := 5) (.inl hr.tree) (.inl (right_add hc.tree he hno)) fun p q => ?_; rw [hr.ent_of p q _ (h p q), entAt_add hc.tree hno]
 by_cases hq : keyE e = q
 ·subst hq
  rw [st_none (k := c) (q := keyE e) hn, mx_none, st_some (k := oneK e) (q := keyE e) (by show hasC (oneC e.a e.n) e.a e.n = true; rw [has_oneC]; exact decide_eq_true ⟨rfl, rfl⟩)]; show entAt (oneT e) p (keyE e) = _; rw [entAt_one]
  by_cases hp : p = []
  ·rw [if_pos ⟨hp, rfl⟩, if_pos ⟨hp, rfl⟩]
  ·rw [if_neg fun h => hp h.1, if_neg fun h => hp h.1, hno]
 ·have h1 : hasC (oneK e).2 q.1 q.2 = false := by
   rw [oneK_has, decide_eq_false]; rintro ⟨h2, h3⟩; exact hq (Prod.ext h2.symm h3.symm)
  rw [st_none h1, none_mx, if_neg fun h => hq h.2, hc.ent_of p q _ rfl]
theorem boxL (w : World) (Ae Ak : Option Addr) (ne nk ce ck : Nat) (a n : Int) : ∃ (W : World) (p q : Nat), Hid (W = ((w.alloc (.cells #[.slice Ae ne ce, .slice Ak nk ck] 25)).alloc (.cells #[.int .i64 a, .int .i64 n] 27))) ∧ Hid (p = w.heap.size) ∧ Hid (q = p + 1) ∧ Hid (Kept [(⟨p, 0, none⟩, .slice Ae ne ce), (⟨p, 1, none⟩, .slice Ak nk ck), (⟨q, 0, none⟩, .int .i64 a), (⟨q, 1, none⟩, .int .i64 n)] w W) := by
 refine ⟨_, _, _, rfl, rfl, rfl, ?_⟩; have h0 := Kept.nil_of (show Below w.heap.size w (((w.alloc (.cells #[.slice Ae ne ce, .slice Ak nk ck] 25)).alloc (.cells #[.int .i64 a, .int .i64 n] 27))) from ((Below.refl _ _).alloc (Nat.le_refl _) _).alloc (by simp) _)
 refine ((((h0).cons_of ?_).cons_of ?_).cons_of ?_).cons_of ?_ <;> go_simp
set_option maxRecDepth 100000 in
set_option maxHeartbeats 4000000 in
theorem walk_any (t : T) (Ae Ak : Option Addr) (ne nk ce ck : Nat) (v : Int) (a n : Int) (w : World) (hr : RdT w w.heap.size t ⟨Ae, ne, ce⟩ ⟨Ak, nk, ck⟩) (hl : LenT reachBytes t)  :
  Calls Tryz.prog 3 #[.agg #[.slice Ae ne ce, .slice Ak nk ck], .int .i64 v, .agg #[.int .i64 a, .int .i64 n]] w fun e w' => e = .returned (.bool true) ∧ Below w.heap.size w w' := by
 obtain ⟨W, p, q, HW, HP, HQ, HKc⟩ := boxL w Ae Ak ne nk ce ck a n; have HR0 := Lib.hid hr; have R := Lib.hid (RdT.later hr HKc.out.below); have L := Lib.hid hl; clear hr hl; have c0 := HKc.out.c0; have c1 := HKc.out.c1; have c2 := HKc.out.c2; have c3 := HKc.out.c3; go_enter Tryz.func3, Tryz.ntmps3; go_wp2_with fail; rw [← HW.out, ← HP.out]
 try rw [← HQ.out]
 refine (awake12 W).mono ?_; rintro e v1 ⟨rfl, hb9⟩; have HKc := Lib.hid (HKc.out.later hb9); have R := Lib.hid (RdT.later R.out hb9); clear hb9; clear c0 c1 c2 c3; have c0 := HKc.out.c0; have c1 := HKc.out.c1; have c2 := HKc.out.c2; have c3 := HKc.out.c3; go_wp2_with fail; refine (small_tree t Ae Ak ne nk ce ck v1 L.out R.out).mono ?_; rintro e v2 ⟨b9, rfl, hsm, hb9⟩; have HKc := Lib.hid (HKc.out.later hb9); have R := Lib.hid (RdT.later R.out hb9); clear hb9; clear c0 c1 c2 c3
 cases b9 with
 | false =>
  clear hsm; go_wp2_with fail; refine (awake12 _).mono ?_; rintro e v99 ⟨rfl, hb9⟩; have HKc := Lib.hid (HKc.out.later hb9); clear hb9; go_wp2_with fail; go_ret; exact ⟨by first | rfl | simp, HKc.out.below⟩
 | true =>
  have N : Hid (nodes t ≤ 60) := hsm rfl; clear hsm; obtain ⟨y, hy9⟩ : ∃ y, checkB t a n = y := ⟨_, rfl⟩; have HY := Lib.hid hy9; clear hy9; have c0 := HKc.out.c0; have c1 := HKc.out.c1; have c2 := HKc.out.c2; have c3 := HKc.out.c3; go_wp2_with fail; refine (refcheck_any t Ae Ak ne nk ce ck a n v2 y HY.out L.out (by have := N.out; omega) R.out).mono ?_; rintro e v3 ⟨rfl, hb9⟩; have HKc := Lib.hid (HKc.out.later hb9); have R := Lib.hid (RdT.later R.out hb9); clear hb9; clear c0 c1 c2 c3
  cases y with
  | false =>
   have c0 := HKc.out.c0; have c1 := HKc.out.c1; have c2 := HKc.out.c2; have c3 := HKc.out.c3; go_wp2_with fail; refine (awake12 _).mono ?_; rintro e v99 ⟨rfl, hb9⟩; have HKc := Lib.hid (HKc.out.later hb9); clear hb9; go_wp2_with fail; go_ret; exact ⟨by first | rfl | simp, HKc.out.below⟩
  | true =>
   have HCK : Hid (checkB t a n = true) := HY.out; have HT : Hid (RightT 5 t) := (check_iff.1 HCK.out).1; have HD : Hid (Dt.rightB a n = true) := (check_iff.1 HCK.out).2.1
   have HLE : Hid (t.es.length = ne) := by
    have h := R.out; rw [← T.eta t] at h; exact (rd_lens h).1
   by_cases h1 : 1099511627776 < v
   ·have f1 : decide (1099511627776 < v) = true := decide_eq_true h1
    clear h1; have c0 := HKc.out.c0; have c1 := HKc.out.c1; have c2 := HKc.out.c2; have c3 := HKc.out.c3; go_wp2_with fail; refine (awake12 _).mono ?_; rintro e v99 ⟨rfl, hb9⟩; have HKc := Lib.hid (HKc.out.later hb9); clear hb9; go_wp2_with fail; go_ret; exact ⟨by first | rfl | simp, HKc.out.below⟩
   ·have f1 : decide (1099511627776 < v) = false := decide_eq_false h1
    by_cases h2 : v < -1099511627776
    ·have f2 : decide (v < -1099511627776) = true := decide_eq_true h2
     clear h1 h2; have c0 := HKc.out.c0; have c1 := HKc.out.c1; have c2 := HKc.out.c2; have c3 := HKc.out.c3; go_wp2_with fail; refine (awake12 _).mono ?_; rintro e v99 ⟨rfl, hb9⟩; have HKc := Lib.hid (HKc.out.later hb9); clear hb9; go_wp2_with fail; go_ret; exact ⟨by first | rfl | simp, HKc.out.below⟩
    ·have f2 : decide (v < -1099511627776) = false := decide_eq_false h2
     have HV : Hid (-1099511627776 ≤ v ∧ v ≤ 1099511627776) := ⟨by omega, by omega⟩; clear h1 h2; have HE : Hid (RightE ⟨a, n, ⟨#[]⟩, v⟩) := cnt_e HD.out HV.out
     by_cases h24 : 24 ≤ ne
     ·have f24 : decide ((24 : Int) ≤ (ne : Int)) = true := decide_eq_true (by omega)
      clear h24; have c0 := HKc.out.c0; have c1 := HKc.out.c1; have c2 := HKc.out.c2; have c3 := HKc.out.c3; go_wp2_with fail; refine (awake12 _).mono ?_; rintro e v99 ⟨rfl, hb9⟩; have HKc := Lib.hid (HKc.out.later hb9); clear hb9; go_wp2_with fail; go_ret; exact ⟨by first | rfl | simp, HKc.out.below⟩
     ·have f24 : decide ((24 : Int) ≤ (ne : Int)) = false := decide_eq_false (by omega)
      have HLL : Hid (t.es.length < 24) := by unfold Hid; rw [HLE.out]; omega
      clear h24; obtain ⟨u, hu1, hu2⟩ := some_of HT.out L.out (by have := N.out; omega) R.out; obtain ⟨m9, hm9⟩ : ∃ m9, u.length = m9 := ⟨_, rfl⟩; have HU : Hid (OfC (dl t) u ∧ u.length = m9 ∧ m9 ≤ 240) := ⟨hu1, hm9, by have := N.out; omega⟩; clear hu1 hu2 hm9; have JT : Hid (RK (t, u)) := known_right HT.out HU.out.1; have c0 := HKc.out.c0; have c1 := HKc.out.c1; have c2 := HKc.out.c2; have c3 := HKc.out.c3; go_wp2_with fail; refine (inc_any t Ae Ak ne nk ce ck v a n v3 L.out (by have := N.out; omega) R.out).mono ?_; rintro e v4 ⟨kx, zx, Xe, xe1, xe2, Xk, xk1, xk2, Xc, xc1, xc2, rfl, how, hz, hb9⟩; have HKc := Lib.hid (HKc.out.later hb9); have R := Lib.hid (RdT.later R.out hb9); clear hb9; clear c0 c1 c2 c3; have RX := Lib.hid (RdP.of_own how.out); have ZX := Lib.hid hz.out; clear how hz; obtain ⟨rfl, hk1, hna⟩ := ZX.out.1 (inc_yes HCK.out HV.out HLL.out); have KX : Hid (kx = oneK ⟨a, n, ⟨#[]⟩, v⟩) := hk1
      have BX : Hid (xc1 ≤ 4) := hna; clear hk1 hna
      have JX : Hid (RK kx) := by unfold Hid; rw [KX.out]; exact oneK_right HE.out
      have HNX : Hid (nodes kx.1 = 1) := by unfold Hid; rw [KX.out]; exact nodes_one _
      obtain ⟨g, hg⟩ : ∃ g, g = v4.heap.size := ⟨_, rfl⟩; obtain ⟨v5, hv5⟩ : ∃ W, W = v4.alloc (.cells #[.slice Xe xe1 xe2, .slice Xk xk1 xk2, .slice Xc xc1 xc2] 34) := ⟨_, rfl⟩
      have hb9 : Below v4.heap.size v4 v5 := by rw [hv5]; exact Dt.box_below _ _ _
      have b0 : v5.cell? ⟨g, 0, none⟩ = some (.slice Xe xe1 xe2) := by rw [hv5, hg]; go_simp
      have b1 : v5.cell? ⟨g, 1, none⟩ = some (.slice Xk xk1 xk2) := by rw [hv5, hg]; go_simp
      have b2 : v5.cell? ⟨g, 2, none⟩ = some (.slice Xc xc1 xc2) := by rw [hv5, hg]; go_simp
      have HKc := Lib.hid (HKc.out.later hb9); have R := Lib.hid (RdT.later R.out hb9); have RX := Lib.hid (RX.out.later hb9); clear hb9; have HKc := Lib.hid (((HKc.out.cons_of b2).cons_of b1).cons_of b0); have Hg := Lib.hid hg; have Hv5 := Lib.hid hv5; clear hg hv5 b0 b1 b2
      have HSUM : ∀ (B9 : Option Addr) (d9 : Nat), Hid (sumN [⟨(t, u), ⟨Ae, ne, ce⟩, ⟨Ak, nk, ck⟩, ⟨B9, m9, d9⟩⟩, ⟨kx, ⟨Xe, xe1, xe2⟩, ⟨Xk, xk1, xk2⟩, ⟨Xc, xc1, xc2⟩⟩] ≤ 80 ∧ sumC [⟨(t, u), ⟨Ae, ne, ce⟩, ⟨Ak, nk, ck⟩, ⟨B9, m9, d9⟩⟩, ⟨kx, ⟨Xe, xe1, xe2⟩, ⟨Xk, xk1, xk2⟩, ⟨Xc, xc1, xc2⟩⟩] ≤ 1000) := fun B9 d9 => by
       have h1 := N.out; have h2 := HU.out.2.2; have h3 := BX.out; have h4 := HNX.out; unfold Hid; simp only [sumN, sumC, List.map_cons, List.map_nil, List.sum_cons, List.sum_nil]; omega
      have c0 := HKc.out.c0; have c1 := HKc.out.c1; have c2 := HKc.out.c2; have c3 := HKc.out.c3; have c4 := HKc.out.c4; have c5 := HKc.out.c5; have c6 := HKc.out.c6; rw [Hv5.out] at c0 c1 c2 c3 c4 c5 c6; rw [Hg.out] at c0 c1 c2; go_wp2_with fail; rw [← Hg.out, ← Hv5.out]; clear c0 c1 c2 c3 c4 c5 c6
      go_cut [9, 10] (fun s9 e9 wx => ∃ (g9 : Nat) (p9 : CP), s9 = .pointer (some ⟨g9, 0, none⟩) ∧ e9 = .int .i64 0 ∧ Hid (MidJ v5 g9 p9 wx) ∧ Hid (AllJ [(t, u), kx] p9.k ∧ nodes p9.k.1 ≤ 80 ∧ p9.c.n ≤ 1000))
      case first =>
       refine wp_region_held_drew (S := fun W => W.cell? ⟨g, 0, none⟩ = some (.slice Xe xe1 xe2) ∧ W.cell? ⟨g, 1, none⟩ = some (.slice Xk xk1 xk2) ∧ W.cell? ⟨g, 2, none⟩ = some (.slice Xc xc1 xc2) ∧ W.cell? ⟨p, 0, none⟩ = some (.slice Ae ne ce) ∧ W.cell? ⟨p, 1, none⟩ = some (.slice Ak nk ck) ∧ W.cell? ⟨q, 0, none⟩ = some (.int .i64 a) ∧ W.cell? ⟨q, 1, none⟩ = some (.int .i64 n)) (by kernel_rfl) (by have h9 := HKc.out.drew; exact ⟨h9.c0, h9.c1, h9.c2, h9.c3, h9.c4, h9.c5, h9.c6⟩) (fun hHeld => ?_); obtain ⟨v6, hv6⟩ : ∃ v, v = v5.drew := ⟨_, rfl⟩
       have hb9 : Below v5.heap.size v5 v6 := by rw [hv6]; exact (Below.refl _ _).drew
       have HKc := Lib.hid (HKc.out.later hb9); have R := Lib.hid (RdT.later R.out hb9); have RX := Lib.hid (RX.out.later hb9); clear hb9; have HBV9 : Hid (v5.drew = v6) := hv6.symm; rw [← hv6] at hHeld ⊢; clear hv6
       have HBV : Hid (Below v5.heap.size v5 v6) := by unfold Hid; rw [← HBV9.out]; exact (Below.refl _ _).drew
       clear HBV9; refine Tk 0 49 ?_; refine Tk 2 51 ?_; refine wpAnyH_ready (rs := [1, 8]) (by kernel_rfl) (by simp) ?_; refine AllReadyH.cons (o := ⟨some 50, _, _, _, _, _⟩) rfl (fun K hK => ?_) (AllReadyH.cons (o := ⟨some 9, _, _, _, _, _⟩) rfl (fun K hK => ?_) (AllReadyH.nil))
       ·go_simp
        (go_at_call 10; refine (refknown_any t Ae Ak ne nk ce ck u m9 v6 HT.out (by have := N.out; omega) R.out HU.out.1 HU.out.2.1 (by have := HU.out.2.2; omega)).mono ?_); rintro e v7 ⟨B9, d9, rfl, hro, hb9⟩; have RK9 : Hid (RdP v7 ⟨(t, u), ⟨Ae, ne, ce⟩, ⟨Ak, nk, ck⟩, ⟨B9, m9, d9⟩⟩) := ⟨RdT.later R.out hb9, HU.out.2.1, hro.rd⟩; clear hro; have HKc := Lib.hid (HKc.out.later hb9); have R := Lib.hid (RdT.later R.out hb9); have RX := Lib.hid (RX.out.later hb9); have HBV := Lib.hid (HBV.out.trans (hb9.mono HBV.out.size)); clear hb9; have HSUM := HSUM B9 d9; clear hHeld; refine Th hK ?_ (fun hHeld => ?_)
        ·exact ⟨HKc.out.c0, HKc.out.c1, HKc.out.c2, HKc.out.c3, HKc.out.c4, HKc.out.c5, HKc.out.c6⟩
        clear hK K; refine wpAnyH_ready (rs := [3, 8]) (by kernel_rfl) (by simp) ?_; refine AllReadyH.cons (o := ⟨some 52, _, _, _, _, _⟩) rfl (fun K hK => ?_) (AllReadyH.cons (o := ⟨some 9, _, _, _, _, _⟩) rfl (fun K hK => ?_) (AllReadyH.nil))
        ·go_simp
         clear hHeld; refine Th hK ?_ (fun hHeld => ?_)
         ·exact ⟨(HKc.out.alloc _).c0, (HKc.out.alloc _).c1, (HKc.out.alloc _).c2, (HKc.out.alloc _).c3, (HKc.out.alloc _).c4, (HKc.out.alloc _).c5, (HKc.out.alloc _).c6⟩
         clear hK K; obtain ⟨gr, hgr⟩ : ∃ g, g = v7.heap.size := ⟨_, rfl⟩; obtain ⟨v8, hv8⟩ : ∃ W, W = v7.alloc (.cells #[.slice Ae ne ce, .slice Ak nk ck, .slice B9 m9 d9, .slice Xe xe1 xe2, .slice Xk xk1 xk2, .slice Xc xc1 xc2] 34) := ⟨_, rfl⟩
         have hb9 : Below v7.heap.size v7 v8 := by rw [hv8]; exact Dt.box_below _ _ _
         have hrow := rd_rowP v7 [⟨(t, u), ⟨Ae, ne, ce⟩, ⟨Ak, nk, ck⟩, ⟨B9, m9, d9⟩⟩, ⟨kx, ⟨Xe, xe1, xe2⟩, ⟨Xk, xk1, xk2⟩, ⟨Xc, xc1, xc2⟩⟩] #[.slice Ae ne ce, .slice Ak nk ck, .slice B9 m9 d9, .slice Xe xe1 xe2, .slice Xk xk1 xk2, .slice Xc xc1 xc2] 2 rfl rfl; rw [← hv8, ← hgr] at hrow; have HKc := Lib.hid (HKc.out.later hb9); have R := Lib.hid (RdT.later R.out hb9); have RX := Lib.hid (RX.out.later hb9); have HBV := Lib.hid (HBV.out.trans (hb9.mono HBV.out.size)); have RK9 := Lib.hid (RK9.out.later hb9)
         have RW : Hid (RowP v8 (some ⟨gr, 0, none⟩) 2 2 [⟨(t, u), ⟨Ae, ne, ce⟩, ⟨Ak, nk, ck⟩, ⟨B9, m9, d9⟩⟩, ⟨kx, ⟨Xe, xe1, xe2⟩, ⟨Xk, xk1, xk2⟩, ⟨Xc, xc1, xc2⟩⟩]) := ⟨hrow.more (by rw [hv8, hgr]; simp), rfl, fun p hp => by
          simp at hp
          rcases hp with rfl | rfl
          ·exact RK9.out
          ·exact RX.out⟩
         (try rw [← hv8] at hHeld); rw [← hv8]; rw [← hgr]; clear hgr hv8 hb9 hrow; refine wpAnyH_ready (rs := [4, 8]) (by kernel_rfl) (by simp) ?_; refine AllReadyH.cons (o := ⟨some 53, _, _, _, _, _⟩) rfl (fun K hK => ?_) (AllReadyH.cons (o := ⟨some 9, _, _, _, _, _⟩) rfl (fun K hK => ?_) (AllReadyH.nil))
         ·go_simp
          (go_at_call 9; refine (joinAllE_sum 2 [⟨(t, u), ⟨Ae, ne, ce⟩, ⟨Ak, nk, ck⟩, ⟨B9, m9, d9⟩⟩, ⟨kx, ⟨Xe, xe1, xe2⟩, ⟨Xk, xk1, xk2⟩, ⟨Xc, xc1, xc2⟩⟩] (some ⟨gr, 0, none⟩) 2 v8 (by omega) RW.out ⟨Nat.le_trans HSUM.out.1 (by omega), HSUM.out.2⟩).mono ?_); rintro e v9 ⟨kj, z9, hj, _, Je, je1, je2, Jk, jk1, jk2, Jc, jc1, jc2, rfl, how, hb9⟩
          obtain ⟨rfl, hall, hnn, hnc⟩ := hj (fun p hp => by
           simp at hp
           rcases hp with rfl | rfl
           ·exact JT.out
           ·exact JX.out)
          have HP : Hid (AllJ [(t, u), kx] kj ∧ nodes kj.1 ≤ 80 ∧ jc1 ≤ 1000) := ⟨hall, Nat.le_trans hnn HSUM.out.1, by rw [← how.len]; exact Nat.le_trans hnc HSUM.out.2⟩; have HN : Hid (NoC v9 (fun _ => True) ⟨kj, ⟨Je, je1, je2⟩, ⟨Jk, jk1, jk2⟩, ⟨Jc, jc1, jc2⟩⟩) := NoC.of_own how (fun b hb _ => trivial); clear hj hall hnn hnc how; have HKc := Lib.hid (HKc.out.later hb9); have R := Lib.hid (RdT.later R.out hb9); have RX := Lib.hid (RX.out.later hb9); have HBV := Lib.hid (HBV.out.trans (hb9.mono HBV.out.size)); have RK9 := Lib.hid (RK9.out.later hb9); have RW := Lib.hid (RW.out.later hb9); clear hb9; clear hHeld; refine Th hK ?_ (fun hHeld => ?_)
          ·exact ⟨HKc.out.c0, HKc.out.c1, HKc.out.c2, HKc.out.c3, HKc.out.c4, HKc.out.c5, HKc.out.c6⟩
          clear hK K; refine Tk 5 48 ?_; refine Tk 6 54 ?_; refine Tk 7 55 ?_; refine Tc 8 (fun K hK => ?_); go_simp; clear hHeld; refine Th hK ?_ (fun hHeld => ?_)
          ·exact ⟨(HKc.out.alloc _).c0, (HKc.out.alloc _).c1, (HKc.out.alloc _).c2, (HKc.out.alloc _).c3, (HKc.out.alloc _).c4, (HKc.out.alloc _).c5, (HKc.out.alloc _).c6⟩
          clear hK K; obtain ⟨gj, hgj⟩ : ∃ g, g = v9.heap.size := ⟨_, rfl⟩; obtain ⟨v10, hv10⟩ : ∃ W, W = v9.alloc (.cells #[.slice none 0 0, .slice none 0 0, .slice none 0 0] 34) := ⟨_, rfl⟩
          have hb9 : Below v9.heap.size v9 v10 := by rw [hv10]; exact Dt.box_below _ _ _
          have hvg : v5.heap.size ≤ gj := by rw [hgj]; exact HBV.out.size
          have hwg : w.heap.size ≤ gj := by rw [hgj]; exact HKc.out.below.size
          have hng : g ≠ gj := by have h := World.block_lt_of_cell? v9 _ HKc.out.c0; dsimp only at h; omega
          have hnp : p ≠ gj := by have h := World.block_lt_of_cell? v9 _ HKc.out.c3; dsimp only at h; omega
          have hnq : q ≠ gj := by have h := World.block_lt_of_cell? v9 _ HKc.out.c5; dsimp only at h; omega
          have b0 : v10.cell? ⟨gj, 0, none⟩ = some (.slice none 0 0) := by rw [hv10, hgj]; go_simp
          have b1 : v10.cell? ⟨gj, 1, none⟩ = some (.slice none 0 0) := by rw [hv10, hgj]; go_simp
          have b2 : v10.cell? ⟨gj, 2, none⟩ = some (.slice none 0 0) := by rw [hv10, hgj]; go_simp
          have HN := Lib.hid (HN.out.mono (ok' := fun b => b ≠ gj) (fun b _ hlt => by omega)); have HKc := Lib.hid (HKc.out.later hb9); have R := Lib.hid (RdT.later R.out hb9); have RX := Lib.hid (RX.out.later hb9); have HBV := Lib.hid (HBV.out.trans (hb9.mono HBV.out.size)); have RK9 := Lib.hid (RK9.out.later hb9); have RW := Lib.hid (RW.out.later hb9); have HN := Lib.hid (HN.out.later hb9); have HZ : Hid (Kept [(⟨gj, 0, none⟩, .slice none 0 0), (⟨gj, 1, none⟩, .slice none 0 0), (⟨gj, 2, none⟩, .slice none 0 0)] v5 v10) := (((Kept.nil_of HBV.out).cons_of b2).cons_of b1).cons_of b0; have HF : Hid (Free gj v10) := ⟨by rw [hv10, hgj]; simp, fun j => by rw [hv10, hgj]; go_simp⟩; have hlt9 : gj < v10.heap.size := HF.out.1; (try rw [← hv10] at hHeld); rw [← hv10]; rw [← hgj]; clear hgj hv10 hb9 b0 b1 b2; have z0 := HZ.out.c0; have z1 := HZ.out.c1; have z2 := HZ.out.c2; have m0 := HF.out.2 0; have m1 := HF.out.2 1
          have m2 := HF.out.2 2; refine Tc 9 (fun K hK => ?_); go_simp; refine Th hK ?_ (fun hHeld2 => ?_)
          ·(try dsimp only)
           have h9 := HKc.out
           have h9 := h9.set (a := ⟨gj, 0, none⟩) hwg (fun x hx => by simp at hx; rcases hx with rfl | rfl | rfl | rfl | rfl | rfl | rfl <;> (dsimp only; omega)) (.slice Je je1 je2)
           have h9 := h9.set (a := ⟨gj, 1, none⟩) hwg (fun x hx => by simp at hx; rcases hx with rfl | rfl | rfl | rfl | rfl | rfl | rfl <;> (dsimp only; omega)) (.slice Jk jk1 jk2)
           have h9 := h9.set (a := ⟨gj, 2, none⟩) hwg (fun x hx => by simp at hx; rcases hx with rfl | rfl | rfl | rfl | rfl | rfl | rfl <;> (dsimp only; omega)) (.slice Jc jc1 jc2)
           exact ⟨h9.c0, h9.c1, h9.c2, h9.c3, h9.c4, h9.c5, h9.c6⟩
          clear hK K hHeld; have hHeld := hHeld2; clear hHeld2; refine Tk 10 10 ?_; refine wpAnyH_done (by kernel_rfl) ?_ _; clear hHeld
          have HMID : Hid (MidJ v5 gj ⟨kj, ⟨Je, je1, je2⟩, ⟨Jk, jk1, jk2⟩, ⟨Jc, jc1, jc2⟩⟩ (((v10.setCell ⟨gj, 0, none⟩ (.slice Je je1 je2)).setCell ⟨gj, 1, none⟩ (.slice Jk jk1 jk2)).setCell ⟨gj, 2, none⟩ (.slice Jc jc1 jc2))) := by
           obtain ⟨W9, hW9⟩ : ∃ W, W = (((v10.setCell ⟨gj, 0, none⟩ (.slice Je je1 je2)).setCell ⟨gj, 1, none⟩ (.slice Jk jk1 jk2)).setCell ⟨gj, 2, none⟩ (.slice Jc jc1 jc2)) := ⟨_, rfl⟩; rw [← hW9]
           have hb : Below v5.heap.size v5 W9 := by
            rw [hW9]; exact (((HBV.out.setCell (p := ⟨gj, 0, none⟩) hvg _).setCell (p := ⟨gj, 1, none⟩) hvg _).setCell (p := ⟨gj, 2, none⟩) hvg _)
           refine ⟨(HN.out.keep (by rw [hW9, cells3]; exact Nat.le_refl _) (fun b hb _ => by rw [hW9]; exact cells3_at b hb)).rd, ?_⟩
           refine (((Kept.nil_of hb).cons_of ?_).cons_of ?_).cons_of ?_ <;> (rw [hW9]; go_simp)
          clear z0 z1 z2 m0 m1 m2; go_wp2_with fail; go_meet; exact ⟨gj, ⟨kj, ⟨Je, je1, je2⟩, ⟨Jk, jk1, jk2⟩, ⟨Jc, jc1, jc2⟩⟩, rfl, rfl, HMID.out, HP.out⟩
         ·go_simp
          clear hHeld; refine Th hK ?_ (fun hHeld => ?_)
          ·exact ⟨(HKc.out.alloc _).c0, (HKc.out.alloc _).c1, (HKc.out.alloc _).c2, (HKc.out.alloc _).c3, (HKc.out.alloc _).c4, (HKc.out.alloc _).c5, (HKc.out.alloc _).c6⟩
          clear hK K; obtain ⟨gj, hgj⟩ : ∃ g, g = v8.heap.size := ⟨_, rfl⟩; obtain ⟨v9, hv9⟩ : ∃ W, W = v8.alloc (.cells #[.slice none 0 0, .slice none 0 0, .slice none 0 0] 34) := ⟨_, rfl⟩
          have hb9 : Below v8.heap.size v8 v9 := by rw [hv9]; exact Dt.box_below _ _ _
          have hvg : v5.heap.size ≤ gj := by rw [hgj]; exact HBV.out.size
          have hwg : w.heap.size ≤ gj := by rw [hgj]; exact HKc.out.below.size
          have hng : g ≠ gj := by have h := World.block_lt_of_cell? v8 _ HKc.out.c0; dsimp only at h; omega
          have hnp : p ≠ gj := by have h := World.block_lt_of_cell? v8 _ HKc.out.c3; dsimp only at h; omega
          have hnq : q ≠ gj := by have h := World.block_lt_of_cell? v8 _ HKc.out.c5; dsimp only at h; omega
          have b0 : v9.cell? ⟨gj, 0, none⟩ = some (.slice none 0 0) := by rw [hv9, hgj]; go_simp
          have b1 : v9.cell? ⟨gj, 1, none⟩ = some (.slice none 0 0) := by rw [hv9, hgj]; go_simp
          have b2 : v9.cell? ⟨gj, 2, none⟩ = some (.slice none 0 0) := by rw [hv9, hgj]; go_simp
          have HKc := Lib.hid (HKc.out.later hb9); have R := Lib.hid (RdT.later R.out hb9); have RX := Lib.hid (RX.out.later hb9); have HBV := Lib.hid (HBV.out.trans (hb9.mono HBV.out.size)); have RK9 := Lib.hid (RK9.out.later hb9); have RW := Lib.hid (RW.out.later hb9); have HZ : Hid (Kept [(⟨gj, 0, none⟩, .slice none 0 0), (⟨gj, 1, none⟩, .slice none 0 0), (⟨gj, 2, none⟩, .slice none 0 0)] v5 v9) := (((Kept.nil_of HBV.out).cons_of b2).cons_of b1).cons_of b0; have HF : Hid (Free gj v9) := ⟨by rw [hv9, hgj]; simp, fun j => by rw [hv9, hgj]; go_simp⟩; have hlt9 : gj < v9.heap.size := HF.out.1; (try rw [← hv9] at hHeld); rw [← hv9]; rw [← hgj]; clear hgj hv9 hb9 b0 b1 b2; refine Tc 4 (fun K hK => ?_); go_simp; (go_at_call 9; refine (joinAllE_sum 2 [⟨(t, u), ⟨Ae, ne, ce⟩, ⟨Ak, nk, ck⟩, ⟨B9, m9, d9⟩⟩, ⟨kx, ⟨Xe, xe1, xe2⟩, ⟨Xk, xk1, xk2⟩, ⟨Xc, xc1, xc2⟩⟩] (some ⟨gr, 0, none⟩) 2 v9 (by omega) RW.out ⟨Nat.le_trans HSUM.out.1 (by omega), HSUM.out.2⟩).mono ?_)
          rintro e v10 ⟨kj, z9, hj, _, Je, je1, je2, Jk, jk1, jk2, Jc, jc1, jc2, rfl, how, hb9⟩
          obtain ⟨rfl, hall, hnn, hnc⟩ := hj (fun p hp => by
           simp at hp
           rcases hp with rfl | rfl
           ·exact JT.out
           ·exact JX.out)
          have HP : Hid (AllJ [(t, u), kx] kj ∧ nodes kj.1 ≤ 80 ∧ jc1 ≤ 1000) := ⟨hall, Nat.le_trans hnn HSUM.out.1, by rw [← how.len]; exact Nat.le_trans hnc HSUM.out.2⟩; have HN : Hid (NoC v10 (fun b => b ≠ gj) ⟨kj, ⟨Je, je1, je2⟩, ⟨Jk, jk1, jk2⟩, ⟨Jc, jc1, jc2⟩⟩) := NoC.of_own how (fun b hb _ => by have h := HF.out.1; omega); clear hj hall hnn hnc how; have HKc := Lib.hid (HKc.out.later hb9); have R := Lib.hid (RdT.later R.out hb9); have RX := Lib.hid (RX.out.later hb9); have HBV := Lib.hid (HBV.out.trans (hb9.mono HBV.out.size)); have RK9 := Lib.hid (RK9.out.later hb9); have RW := Lib.hid (RW.out.later hb9); have HZ := Lib.hid (HZ.out.later hb9); have HF := Lib.hid (HF.out.later hb9); clear hb9; have z0 := HZ.out.c0; have z1 := HZ.out.c1; have z2 := HZ.out.c2; have m0 := HF.out.2 0; have m1 := HF.out.2 1; have m2 := HF.out.2 2; clear hHeld; refine Th hK ?_ (fun hHeld => ?_)
          ·exact ⟨HKc.out.c0, HKc.out.c1, HKc.out.c2, HKc.out.c3, HKc.out.c4, HKc.out.c5, HKc.out.c6⟩
          clear hK K; refine Tk 5 48 ?_; refine Tk 6 54 ?_; refine Tk 7 55 ?_; refine Tc 9 (fun K hK => ?_); go_simp; refine Th hK ?_ (fun hHeld2 => ?_)
          ·(try dsimp only)
           have h9 := HKc.out
           have h9 := h9.set (a := ⟨gj, 0, none⟩) hwg (fun x hx => by simp at hx; rcases hx with rfl | rfl | rfl | rfl | rfl | rfl | rfl <;> (dsimp only; omega)) (.slice Je je1 je2)
           have h9 := h9.set (a := ⟨gj, 1, none⟩) hwg (fun x hx => by simp at hx; rcases hx with rfl | rfl | rfl | rfl | rfl | rfl | rfl <;> (dsimp only; omega)) (.slice Jk jk1 jk2)
           have h9 := h9.set (a := ⟨gj, 2, none⟩) hwg (fun x hx => by simp at hx; rcases hx with rfl | rfl | rfl | rfl | rfl | rfl | rfl <;> (dsimp only; omega)) (.slice Jc jc1 jc2)
           exact ⟨h9.c0, h9.c1, h9.c2, h9.c3, h9.c4, h9.c5, h9.c6⟩
          clear hK K hHeld; have hHeld := hHeld2; clear hHeld2; refine Tk 10 10 ?_; refine wpAnyH_done (by kernel_rfl) ?_ _; clear hHeld
          have HMID : Hid (MidJ v5 gj ⟨kj, ⟨Je, je1, je2⟩, ⟨Jk, jk1, jk2⟩, ⟨Jc, jc1, jc2⟩⟩ (((v10.setCell ⟨gj, 0, none⟩ (.slice Je je1 je2)).setCell ⟨gj, 1, none⟩ (.slice Jk jk1 jk2)).setCell ⟨gj, 2, none⟩ (.slice Jc jc1 jc2))) := by
           obtain ⟨W9, hW9⟩ : ∃ W, W = (((v10.setCell ⟨gj, 0, none⟩ (.slice Je je1 je2)).setCell ⟨gj, 1, none⟩ (.slice Jk jk1 jk2)).setCell ⟨gj, 2, none⟩ (.slice Jc jc1 jc2)) := ⟨_, rfl⟩; rw [← hW9]
           have hb : Below v5.heap.size v5 W9 := by
            rw [hW9]; exact (((HBV.out.setCell (p := ⟨gj, 0, none⟩) hvg _).setCell (p := ⟨gj, 1, none⟩) hvg _).setCell (p := ⟨gj, 2, none⟩) hvg _)
           refine ⟨(HN.out.keep (by rw [hW9, cells3]; exact Nat.le_refl _) (fun b hb _ => by rw [hW9]; exact cells3_at b hb)).rd, ?_⟩
           refine (((Kept.nil_of hb).cons_of ?_).cons_of ?_).cons_of ?_ <;> (rw [hW9]; go_simp)
          clear z0 z1 z2 m0 m1 m2; go_wp2_with fail; go_meet; exact ⟨gj, ⟨kj, ⟨Je, je1, je2⟩, ⟨Jk, jk1, jk2⟩, ⟨Jc, jc1, jc2⟩⟩, rfl, rfl, HMID.out, HP.out⟩
        ·go_simp
         clear hHeld; refine Th hK ?_ (fun hHeld => ?_)
         ·exact ⟨(HKc.out.alloc _).c0, (HKc.out.alloc _).c1, (HKc.out.alloc _).c2, (HKc.out.alloc _).c3, (HKc.out.alloc _).c4, (HKc.out.alloc _).c5, (HKc.out.alloc _).c6⟩
         clear hK K; obtain ⟨gj, hgj⟩ : ∃ g, g = v7.heap.size := ⟨_, rfl⟩; obtain ⟨v8, hv8⟩ : ∃ W, W = v7.alloc (.cells #[.slice none 0 0, .slice none 0 0, .slice none 0 0] 34) := ⟨_, rfl⟩
         have hb9 : Below v7.heap.size v7 v8 := by rw [hv8]; exact Dt.box_below _ _ _
         have hvg : v5.heap.size ≤ gj := by rw [hgj]; exact HBV.out.size
         have hwg : w.heap.size ≤ gj := by rw [hgj]; exact HKc.out.below.size
         have hng : g ≠ gj := by have h := World.block_lt_of_cell? v7 _ HKc.out.c0; dsimp only at h; omega
         have hnp : p ≠ gj := by have h := World.block_lt_of_cell? v7 _ HKc.out.c3; dsimp only at h; omega
         have hnq : q ≠ gj := by have h := World.block_lt_of_cell? v7 _ HKc.out.c5; dsimp only at h; omega
         have b0 : v8.cell? ⟨gj, 0, none⟩ = some (.slice none 0 0) := by rw [hv8, hgj]; go_simp
         have b1 : v8.cell? ⟨gj, 1, none⟩ = some (.slice none 0 0) := by rw [hv8, hgj]; go_simp
         have b2 : v8.cell? ⟨gj, 2, none⟩ = some (.slice none 0 0) := by rw [hv8, hgj]; go_simp
         have HKc := Lib.hid (HKc.out.later hb9); have R := Lib.hid (RdT.later R.out hb9); have RX := Lib.hid (RX.out.later hb9); have HBV := Lib.hid (HBV.out.trans (hb9.mono HBV.out.size)); have RK9 := Lib.hid (RK9.out.later hb9); have HZ : Hid (Kept [(⟨gj, 0, none⟩, .slice none 0 0), (⟨gj, 1, none⟩, .slice none 0 0), (⟨gj, 2, none⟩, .slice none 0 0)] v5 v8) := (((Kept.nil_of HBV.out).cons_of b2).cons_of b1).cons_of b0; have HF : Hid (Free gj v8) := ⟨by rw [hv8, hgj]; simp, fun j => by rw [hv8, hgj]; go_simp⟩; have hlt9 : gj < v8.heap.size := HF.out.1; (try rw [← hv8] at hHeld); rw [← hv8]; rw [← hgj]; clear hgj hv8 hb9 b0 b1 b2; refine Tc 3 (fun K hK => ?_); go_simp; clear hHeld; refine Th hK ?_ (fun hHeld => ?_)
         ·exact ⟨(HKc.out.alloc _).c0, (HKc.out.alloc _).c1, (HKc.out.alloc _).c2, (HKc.out.alloc _).c3, (HKc.out.alloc _).c4, (HKc.out.alloc _).c5, (HKc.out.alloc _).c6⟩
         clear hK K; obtain ⟨gr, hgr⟩ : ∃ g, g = v8.heap.size := ⟨_, rfl⟩; obtain ⟨v9, hv9⟩ : ∃ W, W = v8.alloc (.cells #[.slice Ae ne ce, .slice Ak nk ck, .slice B9 m9 d9, .slice Xe xe1 xe2, .slice Xk xk1 xk2, .slice Xc xc1 xc2] 34) := ⟨_, rfl⟩
         have hb9 : Below v8.heap.size v8 v9 := by rw [hv9]; exact Dt.box_below _ _ _
         have hrow := rd_rowP v8 [⟨(t, u), ⟨Ae, ne, ce⟩, ⟨Ak, nk, ck⟩, ⟨B9, m9, d9⟩⟩, ⟨kx, ⟨Xe, xe1, xe2⟩, ⟨Xk, xk1, xk2⟩, ⟨Xc, xc1, xc2⟩⟩] #[.slice Ae ne ce, .slice Ak nk ck, .slice B9 m9 d9, .slice Xe xe1 xe2, .slice Xk xk1 xk2, .slice Xc xc1 xc2] 2 rfl rfl; rw [← hv9, ← hgr] at hrow; have HKc := Lib.hid (HKc.out.later hb9); have R := Lib.hid (RdT.later R.out hb9); have RX := Lib.hid (RX.out.later hb9); have HBV := Lib.hid (HBV.out.trans (hb9.mono HBV.out.size)); have RK9 := Lib.hid (RK9.out.later hb9); have HZ := Lib.hid (HZ.out.later hb9); have HF := Lib.hid (HF.out.later hb9)
         have RW : Hid (RowP v9 (some ⟨gr, 0, none⟩) 2 2 [⟨(t, u), ⟨Ae, ne, ce⟩, ⟨Ak, nk, ck⟩, ⟨B9, m9, d9⟩⟩, ⟨kx, ⟨Xe, xe1, xe2⟩, ⟨Xk, xk1, xk2⟩, ⟨Xc, xc1, xc2⟩⟩]) := ⟨hrow.more (by rw [hv9, hgr]; simp), rfl, fun p hp => by
          simp at hp
          rcases hp with rfl | rfl
          ·exact RK9.out
          ·exact RX.out⟩
         (try rw [← hv9] at hHeld); rw [← hv9]; rw [← hgr]; clear hgr hv9 hb9 hrow; refine Tc 4 (fun K hK => ?_); go_simp; (go_at_call 9; refine (joinAllE_sum 2 [⟨(t, u), ⟨Ae, ne, ce⟩, ⟨Ak, nk, ck⟩, ⟨B9, m9, d9⟩⟩, ⟨kx, ⟨Xe, xe1, xe2⟩, ⟨Xk, xk1, xk2⟩, ⟨Xc, xc1, xc2⟩⟩] (some ⟨gr, 0, none⟩) 2 v9 (by omega) RW.out ⟨Nat.le_trans HSUM.out.1 (by omega), HSUM.out.2⟩).mono ?_); rintro e v10 ⟨kj, z9, hj, _, Je, je1, je2, Jk, jk1, jk2, Jc, jc1, jc2, rfl, how, hb9⟩
         obtain ⟨rfl, hall, hnn, hnc⟩ := hj (fun p hp => by
          simp at hp
          rcases hp with rfl | rfl
          ·exact JT.out
          ·exact JX.out)
         have HP : Hid (AllJ [(t, u), kx] kj ∧ nodes kj.1 ≤ 80 ∧ jc1 ≤ 1000) := ⟨hall, Nat.le_trans hnn HSUM.out.1, by rw [← how.len]; exact Nat.le_trans hnc HSUM.out.2⟩; have HN : Hid (NoC v10 (fun b => b ≠ gj) ⟨kj, ⟨Je, je1, je2⟩, ⟨Jk, jk1, jk2⟩, ⟨Jc, jc1, jc2⟩⟩) := NoC.of_own how (fun b hb _ => by have h := HF.out.1; omega); clear hj hall hnn hnc how; have HKc := Lib.hid (HKc.out.later hb9); have R := Lib.hid (RdT.later R.out hb9); have RX := Lib.hid (RX.out.later hb9); have HBV := Lib.hid (HBV.out.trans (hb9.mono HBV.out.size)); have RK9 := Lib.hid (RK9.out.later hb9); have HZ := Lib.hid (HZ.out.later hb9); have HF := Lib.hid (HF.out.later hb9); have RW := Lib.hid (RW.out.later hb9); clear hb9; have z0 := HZ.out.c0; have z1 := HZ.out.c1; have z2 := HZ.out.c2; have m0 := HF.out.2 0; have m1 := HF.out.2 1; have m2 := HF.out.2 2; clear hHeld; refine Th hK ?_ (fun hHeld => ?_)
         ·exact ⟨HKc.out.c0, HKc.out.c1, HKc.out.c2, HKc.out.c3, HKc.out.c4, HKc.out.c5, HKc.out.c6⟩
         clear hK K; refine Tk 5 48 ?_; refine Tk 6 54 ?_; refine Tk 7 55 ?_; refine Tc 9 (fun K hK => ?_); go_simp; refine Th hK ?_ (fun hHeld2 => ?_)
         ·(try dsimp only)
          have h9 := HKc.out
          have h9 := h9.set (a := ⟨gj, 0, none⟩) hwg (fun x hx => by simp at hx; rcases hx with rfl | rfl | rfl | rfl | rfl | rfl | rfl <;> (dsimp only; omega)) (.slice Je je1 je2)
          have h9 := h9.set (a := ⟨gj, 1, none⟩) hwg (fun x hx => by simp at hx; rcases hx with rfl | rfl | rfl | rfl | rfl | rfl | rfl <;> (dsimp only; omega)) (.slice Jk jk1 jk2)
          have h9 := h9.set (a := ⟨gj, 2, none⟩) hwg (fun x hx => by simp at hx; rcases hx with rfl | rfl | rfl | rfl | rfl | rfl | rfl <;> (dsimp only; omega)) (.slice Jc jc1 jc2)
          exact ⟨h9.c0, h9.c1, h9.c2, h9.c3, h9.c4, h9.c5, h9.c6⟩
         clear hK K hHeld; have hHeld := hHeld2; clear hHeld2; refine Tk 10 10 ?_; refine wpAnyH_done (by kernel_rfl) ?_ _; clear hHeld
         have HMID : Hid (MidJ v5 gj ⟨kj, ⟨Je, je1, je2⟩, ⟨Jk, jk1, jk2⟩, ⟨Jc, jc1, jc2⟩⟩ (((v10.setCell ⟨gj, 0, none⟩ (.slice Je je1 je2)).setCell ⟨gj, 1, none⟩ (.slice Jk jk1 jk2)).setCell ⟨gj, 2, none⟩ (.slice Jc jc1 jc2))) := by
          obtain ⟨W9, hW9⟩ : ∃ W, W = (((v10.setCell ⟨gj, 0, none⟩ (.slice Je je1 je2)).setCell ⟨gj, 1, none⟩ (.slice Jk jk1 jk2)).setCell ⟨gj, 2, none⟩ (.slice Jc jc1 jc2)) := ⟨_, rfl⟩; rw [← hW9]
          have hb : Below v5.heap.size v5 W9 := by
           rw [hW9]; exact (((HBV.out.setCell (p := ⟨gj, 0, none⟩) hvg _).setCell (p := ⟨gj, 1, none⟩) hvg _).setCell (p := ⟨gj, 2, none⟩) hvg _)
          refine ⟨(HN.out.keep (by rw [hW9, cells3]; exact Nat.le_refl _) (fun b hb _ => by rw [hW9]; exact cells3_at b hb)).rd, ?_⟩
          refine (((Kept.nil_of hb).cons_of ?_).cons_of ?_).cons_of ?_ <;> (rw [hW9]; go_simp)
         clear z0 z1 z2 m0 m1 m2; go_wp2_with fail; go_meet; exact ⟨gj, ⟨kj, ⟨Je, je1, je2⟩, ⟨Jk, jk1, jk2⟩, ⟨Jc, jc1, jc2⟩⟩, rfl, rfl, HMID.out, HP.out⟩
       ·go_simp
        clear hHeld; refine Th hK ?_ (fun hHeld => ?_)
        ·exact ⟨(HKc.out.alloc _).c0, (HKc.out.alloc _).c1, (HKc.out.alloc _).c2, (HKc.out.alloc _).c3, (HKc.out.alloc _).c4, (HKc.out.alloc _).c5, (HKc.out.alloc _).c6⟩
        clear hK K; obtain ⟨gj, hgj⟩ : ∃ g, g = v6.heap.size := ⟨_, rfl⟩; obtain ⟨v7, hv7⟩ : ∃ W, W = v6.alloc (.cells #[.slice none 0 0, .slice none 0 0, .slice none 0 0] 34) := ⟨_, rfl⟩
        have hb9 : Below v6.heap.size v6 v7 := by rw [hv7]; exact Dt.box_below _ _ _
        have hvg : v5.heap.size ≤ gj := by rw [hgj]; exact HBV.out.size
        have hwg : w.heap.size ≤ gj := by rw [hgj]; exact HKc.out.below.size
        have hng : g ≠ gj := by have h := World.block_lt_of_cell? v6 _ HKc.out.c0; dsimp only at h; omega
        have hnp : p ≠ gj := by have h := World.block_lt_of_cell? v6 _ HKc.out.c3; dsimp only at h; omega
        have hnq : q ≠ gj := by have h := World.block_lt_of_cell? v6 _ HKc.out.c5; dsimp only at h; omega
        have b0 : v7.cell? ⟨gj, 0, none⟩ = some (.slice none 0 0) := by rw [hv7, hgj]; go_simp
        have b1 : v7.cell? ⟨gj, 1, none⟩ = some (.slice none 0 0) := by rw [hv7, hgj]; go_simp
        have b2 : v7.cell? ⟨gj, 2, none⟩ = some (.slice none 0 0) := by rw [hv7, hgj]; go_simp
        have HKc := Lib.hid (HKc.out.later hb9); have R := Lib.hid (RdT.later R.out hb9); have RX := Lib.hid (RX.out.later hb9); have HBV := Lib.hid (HBV.out.trans (hb9.mono HBV.out.size)); have HZ : Hid (Kept [(⟨gj, 0, none⟩, .slice none 0 0), (⟨gj, 1, none⟩, .slice none 0 0), (⟨gj, 2, none⟩, .slice none 0 0)] v5 v7) := (((Kept.nil_of HBV.out).cons_of b2).cons_of b1).cons_of b0; have HF : Hid (Free gj v7) := ⟨by rw [hv7, hgj]; simp, fun j => by rw [hv7, hgj]; go_simp⟩; have hlt9 : gj < v7.heap.size := HF.out.1; (try rw [← hv7] at hHeld); rw [← hv7]; rw [← hgj]; clear hgj hv7 hb9 b0 b1 b2; refine Tc 1 (fun K hK => ?_); go_simp; (go_at_call 10; refine (refknown_any t Ae Ak ne nk ce ck u m9 v7 HT.out (by have := N.out; omega) R.out HU.out.1 HU.out.2.1 (by have := HU.out.2.2; omega)).mono ?_); rintro e v8 ⟨B9, d9, rfl, hro, hb9⟩; have RK9 : Hid (RdP v8 ⟨(t, u), ⟨Ae, ne, ce⟩, ⟨Ak, nk, ck⟩, ⟨B9, m9, d9⟩⟩) := ⟨RdT.later R.out hb9, HU.out.2.1, hro.rd⟩
        clear hro; have HKc := Lib.hid (HKc.out.later hb9); have R := Lib.hid (RdT.later R.out hb9); have RX := Lib.hid (RX.out.later hb9); have HBV := Lib.hid (HBV.out.trans (hb9.mono HBV.out.size)); have HZ := Lib.hid (HZ.out.later hb9); have HF := Lib.hid (HF.out.later hb9); clear hb9; have HSUM := HSUM B9 d9; clear hHeld; refine Th hK ?_ (fun hHeld => ?_)
        ·exact ⟨HKc.out.c0, HKc.out.c1, HKc.out.c2, HKc.out.c3, HKc.out.c4, HKc.out.c5, HKc.out.c6⟩
        clear hK K; refine Tc 3 (fun K hK => ?_); go_simp; clear hHeld; refine Th hK ?_ (fun hHeld => ?_)
        ·exact ⟨(HKc.out.alloc _).c0, (HKc.out.alloc _).c1, (HKc.out.alloc _).c2, (HKc.out.alloc _).c3, (HKc.out.alloc _).c4, (HKc.out.alloc _).c5, (HKc.out.alloc _).c6⟩
        clear hK K; obtain ⟨gr, hgr⟩ : ∃ g, g = v8.heap.size := ⟨_, rfl⟩; obtain ⟨v9, hv9⟩ : ∃ W, W = v8.alloc (.cells #[.slice Ae ne ce, .slice Ak nk ck, .slice B9 m9 d9, .slice Xe xe1 xe2, .slice Xk xk1 xk2, .slice Xc xc1 xc2] 34) := ⟨_, rfl⟩
        have hb9 : Below v8.heap.size v8 v9 := by rw [hv9]; exact Dt.box_below _ _ _
        have hrow := rd_rowP v8 [⟨(t, u), ⟨Ae, ne, ce⟩, ⟨Ak, nk, ck⟩, ⟨B9, m9, d9⟩⟩, ⟨kx, ⟨Xe, xe1, xe2⟩, ⟨Xk, xk1, xk2⟩, ⟨Xc, xc1, xc2⟩⟩] #[.slice Ae ne ce, .slice Ak nk ck, .slice B9 m9 d9, .slice Xe xe1 xe2, .slice Xk xk1 xk2, .slice Xc xc1 xc2] 2 rfl rfl; rw [← hv9, ← hgr] at hrow; have HKc := Lib.hid (HKc.out.later hb9); have R := Lib.hid (RdT.later R.out hb9); have RX := Lib.hid (RX.out.later hb9); have HBV := Lib.hid (HBV.out.trans (hb9.mono HBV.out.size)); have HZ := Lib.hid (HZ.out.later hb9); have HF := Lib.hid (HF.out.later hb9); have RK9 := Lib.hid (RK9.out.later hb9)
        have RW : Hid (RowP v9 (some ⟨gr, 0, none⟩) 2 2 [⟨(t, u), ⟨Ae, ne, ce⟩, ⟨Ak, nk, ck⟩, ⟨B9, m9, d9⟩⟩, ⟨kx, ⟨Xe, xe1, xe2⟩, ⟨Xk, xk1, xk2⟩, ⟨Xc, xc1, xc2⟩⟩]) := ⟨hrow.more (by rw [hv9, hgr]; simp), rfl, fun p hp => by
         simp at hp
         rcases hp with rfl | rfl
         ·exact RK9.out
         ·exact RX.out⟩
        (try rw [← hv9] at hHeld); rw [← hv9]; rw [← hgr]; clear hgr hv9 hb9 hrow; refine Tc 4 (fun K hK => ?_); go_simp; (go_at_call 9; refine (joinAllE_sum 2 [⟨(t, u), ⟨Ae, ne, ce⟩, ⟨Ak, nk, ck⟩, ⟨B9, m9, d9⟩⟩, ⟨kx, ⟨Xe, xe1, xe2⟩, ⟨Xk, xk1, xk2⟩, ⟨Xc, xc1, xc2⟩⟩] (some ⟨gr, 0, none⟩) 2 v9 (by omega) RW.out ⟨Nat.le_trans HSUM.out.1 (by omega), HSUM.out.2⟩).mono ?_); rintro e v10 ⟨kj, z9, hj, _, Je, je1, je2, Jk, jk1, jk2, Jc, jc1, jc2, rfl, how, hb9⟩
        obtain ⟨rfl, hall, hnn, hnc⟩ := hj (fun p hp => by
         simp at hp
         rcases hp with rfl | rfl
         ·exact JT.out
         ·exact JX.out)
        have HP : Hid (AllJ [(t, u), kx] kj ∧ nodes kj.1 ≤ 80 ∧ jc1 ≤ 1000) := ⟨hall, Nat.le_trans hnn HSUM.out.1, by rw [← how.len]; exact Nat.le_trans hnc HSUM.out.2⟩; have HN : Hid (NoC v10 (fun b => b ≠ gj) ⟨kj, ⟨Je, je1, je2⟩, ⟨Jk, jk1, jk2⟩, ⟨Jc, jc1, jc2⟩⟩) := NoC.of_own how (fun b hb _ => by have h := HF.out.1; omega); clear hj hall hnn hnc how; have HKc := Lib.hid (HKc.out.later hb9); have R := Lib.hid (RdT.later R.out hb9); have RX := Lib.hid (RX.out.later hb9); have HBV := Lib.hid (HBV.out.trans (hb9.mono HBV.out.size)); have HZ := Lib.hid (HZ.out.later hb9); have HF := Lib.hid (HF.out.later hb9); have RK9 := Lib.hid (RK9.out.later hb9); have RW := Lib.hid (RW.out.later hb9); clear hb9; have z0 := HZ.out.c0; have z1 := HZ.out.c1; have z2 := HZ.out.c2; have m0 := HF.out.2 0; have m1 := HF.out.2 1; have m2 := HF.out.2 2; clear hHeld; refine Th hK ?_ (fun hHeld => ?_)
        ·exact ⟨HKc.out.c0, HKc.out.c1, HKc.out.c2, HKc.out.c3, HKc.out.c4, HKc.out.c5, HKc.out.c6⟩
        clear hK K; refine Tk 5 48 ?_; refine Tk 6 54 ?_; refine Tk 7 55 ?_; refine Tc 9 (fun K hK => ?_); go_simp; refine Th hK ?_ (fun hHeld2 => ?_)
        ·(try dsimp only)
         have h9 := HKc.out
         have h9 := h9.set (a := ⟨gj, 0, none⟩) hwg (fun x hx => by simp at hx; rcases hx with rfl | rfl | rfl | rfl | rfl | rfl | rfl <;> (dsimp only; omega)) (.slice Je je1 je2)
         have h9 := h9.set (a := ⟨gj, 1, none⟩) hwg (fun x hx => by simp at hx; rcases hx with rfl | rfl | rfl | rfl | rfl | rfl | rfl <;> (dsimp only; omega)) (.slice Jk jk1 jk2)
         have h9 := h9.set (a := ⟨gj, 2, none⟩) hwg (fun x hx => by simp at hx; rcases hx with rfl | rfl | rfl | rfl | rfl | rfl | rfl <;> (dsimp only; omega)) (.slice Jc jc1 jc2)
         exact ⟨h9.c0, h9.c1, h9.c2, h9.c3, h9.c4, h9.c5, h9.c6⟩
        clear hK K hHeld; have hHeld := hHeld2; clear hHeld2; refine Tk 10 10 ?_; refine wpAnyH_done (by kernel_rfl) ?_ _; clear hHeld
        have HMID : Hid (MidJ v5 gj ⟨kj, ⟨Je, je1, je2⟩, ⟨Jk, jk1, jk2⟩, ⟨Jc, jc1, jc2⟩⟩ (((v10.setCell ⟨gj, 0, none⟩ (.slice Je je1 je2)).setCell ⟨gj, 1, none⟩ (.slice Jk jk1 jk2)).setCell ⟨gj, 2, none⟩ (.slice Jc jc1 jc2))) := by
         obtain ⟨W9, hW9⟩ : ∃ W, W = (((v10.setCell ⟨gj, 0, none⟩ (.slice Je je1 je2)).setCell ⟨gj, 1, none⟩ (.slice Jk jk1 jk2)).setCell ⟨gj, 2, none⟩ (.slice Jc jc1 jc2)) := ⟨_, rfl⟩; rw [← hW9]
         have hb : Below v5.heap.size v5 W9 := by
          rw [hW9]; exact (((HBV.out.setCell (p := ⟨gj, 0, none⟩) hvg _).setCell (p := ⟨gj, 1, none⟩) hvg _).setCell (p := ⟨gj, 2, none⟩) hvg _)
         refine ⟨(HN.out.keep (by rw [hW9, cells3]; exact Nat.le_refl _) (fun b hb _ => by rw [hW9]; exact cells3_at b hb)).rd, ?_⟩
         refine (((Kept.nil_of hb).cons_of ?_).cons_of ?_).cons_of ?_ <;> (rw [hW9]; go_simp)
        clear z0 z1 z2 m0 m1 m2; go_wp2_with fail; go_meet; exact ⟨gj, ⟨kj, ⟨Je, je1, je2⟩, ⟨Jk, jk1, jk2⟩, ⟨Jc, jc1, jc2⟩⟩, rfl, rfl, HMID.out, HP.out⟩
      case rest =>
       obtain ⟨wcgj, hwcgj⟩ : ∃ W, W = wc := ⟨_, rfl⟩; subst hwcgj; obtain ⟨gj, ⟨kj, ⟨Je, je1, je2⟩, ⟨Jk, jk1, jk2⟩, ⟨Jc, jc1, jc2⟩⟩, rfl, rfl, hmid, hprop⟩ := hcut; obtain ⟨hrp, hkp⟩ := hmid.out; have hb9 := hkp.below; have HKc := Lib.hid (HKc.out.later hb9); have R := Lib.hid (RdT.later R.out hb9); have RX := Lib.hid (RX.out.later hb9); clear hb9; have RJ := Lib.hid hrp; have PJ : Hid (AllJ [(t, u), kx] kj ∧ nodes kj.1 ≤ 80 ∧ jc1 ≤ 1000) := hprop.out; have HKc : Hid (Kept [(⟨gj, 0, none⟩, .slice Je je1 je2), (⟨gj, 1, none⟩, .slice Jk jk1 jk2), (⟨gj, 2, none⟩, .slice Jc jc1 jc2), (⟨g, 0, none⟩, .slice Xe xe1 xe2), (⟨g, 1, none⟩, .slice Xk xk1 xk2), (⟨g, 2, none⟩, .slice Xc xc1 xc2), (⟨p, 0, none⟩, .slice Ae ne ce), (⟨p, 1, none⟩, .slice Ak nk ck), (⟨q, 0, none⟩, .int .i64 a), (⟨q, 1, none⟩, .int .i64 n)] w wcgj) := (((HKc.out.cons_of hkp.c2).cons_of hkp.c1).cons_of hkp.c0); clear hmid hprop hrp hkp
       clear HSUM
       have HSUM : ∀ (B9 : Option Addr) (d9 : Nat), Hid (sumN [⟨kx, ⟨Xe, xe1, xe2⟩, ⟨Xk, xk1, xk2⟩, ⟨Xc, xc1, xc2⟩⟩, ⟨(t, u), ⟨Ae, ne, ce⟩, ⟨Ak, nk, ck⟩, ⟨B9, m9, d9⟩⟩, ⟨kx, ⟨Xe, xe1, xe2⟩, ⟨Xk, xk1, xk2⟩, ⟨Xc, xc1, xc2⟩⟩] ≤ 80 ∧ sumC [⟨kx, ⟨Xe, xe1, xe2⟩, ⟨Xk, xk1, xk2⟩, ⟨Xc, xc1, xc2⟩⟩, ⟨(t, u), ⟨Ae, ne, ce⟩, ⟨Ak, nk, ck⟩, ⟨B9, m9, d9⟩⟩, ⟨kx, ⟨Xe, xe1, xe2⟩, ⟨Xk, xk1, xk2⟩, ⟨Xc, xc1, xc2⟩⟩] ≤ 1000) := fun B9 d9 => by
        have h1 := N.out; have h2 := HU.out.2.2; have h3 := BX.out; have h4 := HNX.out; unfold Hid; simp only [sumN, sumC, List.map_cons, List.map_nil, List.sum_cons, List.sum_nil]; omega
       have c0 := HKc.out.c0; have c1 := HKc.out.c1; have c2 := HKc.out.c2; have c3 := HKc.out.c3; have c4 := HKc.out.c4; have c5 := HKc.out.c5; have c6 := HKc.out.c6; have c7 := HKc.out.c7; have c8 := HKc.out.t8.c0; have c9 := HKc.out.t8.c1; go_wp2_with fail; clear c0 c1 c2 c3 c4 c5 c6 c7 c8 c9
       go_cut [11, 12] (fun s9 e9 wx => ∃ (g9 : Nat) (p9 : CP), s9 = .pointer (some ⟨g9, 0, none⟩) ∧ e9 = .int .i64 0 ∧ Hid (MidJ wcgj g9 p9 wx) ∧ Hid (AllJ [kx, (t, u), kx] p9.k ∧ nodes p9.k.1 ≤ 80 ∧ p9.c.n ≤ 1000))
       case first =>
        refine wp_region_held_drew (S := fun W => W.cell? ⟨gj, 0, none⟩ = some (.slice Je je1 je2) ∧ W.cell? ⟨gj, 1, none⟩ = some (.slice Jk jk1 jk2) ∧ W.cell? ⟨gj, 2, none⟩ = some (.slice Jc jc1 jc2) ∧ W.cell? ⟨g, 0, none⟩ = some (.slice Xe xe1 xe2) ∧ W.cell? ⟨g, 1, none⟩ = some (.slice Xk xk1 xk2) ∧ W.cell? ⟨g, 2, none⟩ = some (.slice Xc xc1 xc2) ∧ W.cell? ⟨p, 0, none⟩ = some (.slice Ae ne ce) ∧ W.cell? ⟨p, 1, none⟩ = some (.slice Ak nk ck) ∧ W.cell? ⟨q, 0, none⟩ = some (.int .i64 a) ∧ W.cell? ⟨q, 1, none⟩ = some (.int .i64 n)) (by kernel_rfl) (by have h9 := HKc.out.drew; exact ⟨h9.c0, h9.c1, h9.c2, h9.c3, h9.c4, h9.c5, h9.c6, h9.c7, h9.t8.c0, h9.t8.c1⟩) (fun hHeld => ?_); obtain ⟨v6, hv6⟩ : ∃ v, v = wcgj.drew := ⟨_, rfl⟩
        have hb9 : Below wcgj.heap.size wcgj v6 := by rw [hv6]; exact (Below.refl _ _).drew
        have HKc := Lib.hid (HKc.out.later hb9); have R := Lib.hid (RdT.later R.out hb9); have RX := Lib.hid (RX.out.later hb9); have RJ := Lib.hid (RJ.out.later hb9); clear hb9; have HBV9 : Hid (wcgj.drew = v6) := hv6.symm; rw [← hv6] at hHeld ⊢; clear hv6
        have HBV : Hid (Below wcgj.heap.size wcgj v6) := by unfold Hid; rw [← HBV9.out]; exact (Below.refl _ _).drew
        clear HBV9; refine Tk 0 57 ?_; refine Tk 1 58 ?_; refine Tk 3 60 ?_; refine wpAnyH_ready (rs := [2, 9]) (by kernel_rfl) (by simp) ?_; refine AllReadyH.cons (o := ⟨some 59, _, _, _, _, _⟩) rfl (fun K hK => ?_) (AllReadyH.cons (o := ⟨some 11, _, _, _, _, _⟩) rfl (fun K hK => ?_) (AllReadyH.nil))
        ·go_simp
         (go_at_call 10; refine (refknown_any t Ae Ak ne nk ce ck u m9 v6 HT.out (by have := N.out; omega) R.out HU.out.1 HU.out.2.1 (by have := HU.out.2.2; omega)).mono ?_); rintro e v7 ⟨B9, d9, rfl, hro, hb9⟩; have RK9 : Hid (RdP v7 ⟨(t, u), ⟨Ae, ne, ce⟩, ⟨Ak, nk, ck⟩, ⟨B9, m9, d9⟩⟩) := ⟨RdT.later R.out hb9, HU.out.2.1, hro.rd⟩; clear hro; have HKc := Lib.hid (HKc.out.later hb9); have R := Lib.hid (RdT.later R.out hb9); have RX := Lib.hid (RX.out.later hb9); have RJ := Lib.hid (RJ.out.later hb9); have HBV := Lib.hid (HBV.out.trans (hb9.mono HBV.out.size)); clear hb9; have HSUM := HSUM B9 d9; clear hHeld; refine Th hK ?_ (fun hHeld => ?_)
         ·exact ⟨HKc.out.c0, HKc.out.c1, HKc.out.c2, HKc.out.c3, HKc.out.c4, HKc.out.c5, HKc.out.c6, HKc.out.c7, HKc.out.t8.c0, HKc.out.t8.c1⟩
         clear hK K; refine wpAnyH_ready (rs := [4, 9]) (by kernel_rfl) (by simp) ?_; refine AllReadyH.cons (o := ⟨some 61, _, _, _, _, _⟩) rfl (fun K hK => ?_) (AllReadyH.cons (o := ⟨some 11, _, _, _, _, _⟩) rfl (fun K hK => ?_) (AllReadyH.nil))
         ·go_simp
          clear hHeld; refine Th hK ?_ (fun hHeld => ?_)
          ·exact ⟨(HKc.out.alloc _).c0, (HKc.out.alloc _).c1, (HKc.out.alloc _).c2, (HKc.out.alloc _).c3, (HKc.out.alloc _).c4, (HKc.out.alloc _).c5, (HKc.out.alloc _).c6, (HKc.out.alloc _).c7, (HKc.out.alloc _).t8.c0, (HKc.out.alloc _).t8.c1⟩
          clear hK K; obtain ⟨gr, hgr⟩ : ∃ g, g = v7.heap.size := ⟨_, rfl⟩; obtain ⟨v8, hv8⟩ : ∃ W, W = v7.alloc (.cells #[.slice Xe xe1 xe2, .slice Xk xk1 xk2, .slice Xc xc1 xc2, .slice Ae ne ce, .slice Ak nk ck, .slice B9 m9 d9, .slice Xe xe1 xe2, .slice Xk xk1 xk2, .slice Xc xc1 xc2] 34) := ⟨_, rfl⟩
          have hb9 : Below v7.heap.size v7 v8 := by rw [hv8]; exact Dt.box_below _ _ _
          have hrow := rd_rowP v7 [⟨kx, ⟨Xe, xe1, xe2⟩, ⟨Xk, xk1, xk2⟩, ⟨Xc, xc1, xc2⟩⟩, ⟨(t, u), ⟨Ae, ne, ce⟩, ⟨Ak, nk, ck⟩, ⟨B9, m9, d9⟩⟩, ⟨kx, ⟨Xe, xe1, xe2⟩, ⟨Xk, xk1, xk2⟩, ⟨Xc, xc1, xc2⟩⟩] #[.slice Xe xe1 xe2, .slice Xk xk1 xk2, .slice Xc xc1 xc2, .slice Ae ne ce, .slice Ak nk ck, .slice B9 m9 d9, .slice Xe xe1 xe2, .slice Xk xk1 xk2, .slice Xc xc1 xc2] 3 rfl rfl; rw [← hv8, ← hgr] at hrow; have HKc := Lib.hid (HKc.out.later hb9); have R := Lib.hid (RdT.later R.out hb9); have RX := Lib.hid (RX.out.later hb9); have RJ := Lib.hid (RJ.out.later hb9); have HBV := Lib.hid (HBV.out.trans (hb9.mono HBV.out.size)); have RK9 := Lib.hid (RK9.out.later hb9)
          have RW : Hid (RowP v8 (some ⟨gr, 0, none⟩) 3 3 [⟨kx, ⟨Xe, xe1, xe2⟩, ⟨Xk, xk1, xk2⟩, ⟨Xc, xc1, xc2⟩⟩, ⟨(t, u), ⟨Ae, ne, ce⟩, ⟨Ak, nk, ck⟩, ⟨B9, m9, d9⟩⟩, ⟨kx, ⟨Xe, xe1, xe2⟩, ⟨Xk, xk1, xk2⟩, ⟨Xc, xc1, xc2⟩⟩]) := ⟨hrow.more (by rw [hv8, hgr]; simp), rfl, fun p hp => by
           simp at hp
           rcases hp with rfl | rfl | rfl
           ·exact RX.out
           ·exact RK9.out
           ·exact RX.out⟩
          (try rw [← hv8] at hHeld); rw [← hv8]; rw [← hgr]; clear hgr hv8 hb9 hrow; refine wpAnyH_ready (rs := [5, 9]) (by kernel_rfl) (by simp) ?_; refine AllReadyH.cons (o := ⟨some 62, _, _, _, _, _⟩) rfl (fun K hK => ?_) (AllReadyH.cons (o := ⟨some 11, _, _, _, _, _⟩) rfl (fun K hK => ?_) (AllReadyH.nil))
          ·go_simp
           (go_at_call 9; refine (joinAllE_sum 3 [⟨kx, ⟨Xe, xe1, xe2⟩, ⟨Xk, xk1, xk2⟩, ⟨Xc, xc1, xc2⟩⟩, ⟨(t, u), ⟨Ae, ne, ce⟩, ⟨Ak, nk, ck⟩, ⟨B9, m9, d9⟩⟩, ⟨kx, ⟨Xe, xe1, xe2⟩, ⟨Xk, xk1, xk2⟩, ⟨Xc, xc1, xc2⟩⟩] (some ⟨gr, 0, none⟩) 3 v8 (by omega) RW.out ⟨Nat.le_trans HSUM.out.1 (by omega), HSUM.out.2⟩).mono ?_); rintro e v9 ⟨ki, z9, hj, _, Ie, ie1, ie2, Ik, ik1, ik2, Ic, ic1, ic2, rfl, how, hb9⟩
           obtain ⟨rfl, hall, hnn, hnc⟩ := hj (fun p hp => by
            simp at hp
            rcases hp with rfl | rfl | rfl
            ·exact JX.out
            ·exact JT.out
            ·exact JX.out)
           have HP : Hid (AllJ [kx, (t, u), kx] ki ∧ nodes ki.1 ≤ 80 ∧ ic1 ≤ 1000) := ⟨hall, Nat.le_trans hnn HSUM.out.1, by rw [← how.len]; exact Nat.le_trans hnc HSUM.out.2⟩; have HN : Hid (NoC v9 (fun _ => True) ⟨ki, ⟨Ie, ie1, ie2⟩, ⟨Ik, ik1, ik2⟩, ⟨Ic, ic1, ic2⟩⟩) := NoC.of_own how (fun b hb _ => trivial); clear hj hall hnn hnc how; have HKc := Lib.hid (HKc.out.later hb9); have R := Lib.hid (RdT.later R.out hb9); have RX := Lib.hid (RX.out.later hb9); have RJ := Lib.hid (RJ.out.later hb9); have HBV := Lib.hid (HBV.out.trans (hb9.mono HBV.out.size)); have RK9 := Lib.hid (RK9.out.later hb9); have RW := Lib.hid (RW.out.later hb9); clear hb9; clear hHeld; refine Th hK ?_ (fun hHeld => ?_)
           ·exact ⟨HKc.out.c0, HKc.out.c1, HKc.out.c2, HKc.out.c3, HKc.out.c4, HKc.out.c5, HKc.out.c6, HKc.out.c7, HKc.out.t8.c0, HKc.out.t8.c1⟩
           clear hK K; refine Tk 6 56 ?_; refine Tk 7 63 ?_; refine Tk 8 64 ?_; refine Tc 9 (fun K hK => ?_); go_simp; clear hHeld; refine Th hK ?_ (fun hHeld => ?_)
           ·exact ⟨(HKc.out.alloc _).c0, (HKc.out.alloc _).c1, (HKc.out.alloc _).c2, (HKc.out.alloc _).c3, (HKc.out.alloc _).c4, (HKc.out.alloc _).c5, (HKc.out.alloc _).c6, (HKc.out.alloc _).c7, (HKc.out.alloc _).t8.c0, (HKc.out.alloc _).t8.c1⟩
           clear hK K; obtain ⟨gi, hgi⟩ : ∃ g, g = v9.heap.size := ⟨_, rfl⟩; obtain ⟨v10, hv10⟩ : ∃ W, W = v9.alloc (.cells #[.slice none 0 0, .slice none 0 0, .slice none 0 0] 34) := ⟨_, rfl⟩
           have hb9 : Below v9.heap.size v9 v10 := by rw [hv10]; exact Dt.box_below _ _ _
           have hvg : wcgj.heap.size ≤ gi := by rw [hgi]; exact HBV.out.size
           have hwg : w.heap.size ≤ gi := by rw [hgi]; exact HKc.out.below.size
           have hngj : gj ≠ gi := by have h := World.block_lt_of_cell? v9 _ HKc.out.c0; dsimp only at h; omega
           have hng : g ≠ gi := by have h := World.block_lt_of_cell? v9 _ HKc.out.c3; dsimp only at h; omega
           have hnp : p ≠ gi := by have h := World.block_lt_of_cell? v9 _ HKc.out.c6; dsimp only at h; omega
           have hnq : q ≠ gi := by have h := World.block_lt_of_cell? v9 _ HKc.out.t8.c0; dsimp only at h; omega
           have b0 : v10.cell? ⟨gi, 0, none⟩ = some (.slice none 0 0) := by rw [hv10, hgi]; go_simp
           have b1 : v10.cell? ⟨gi, 1, none⟩ = some (.slice none 0 0) := by rw [hv10, hgi]; go_simp
           have b2 : v10.cell? ⟨gi, 2, none⟩ = some (.slice none 0 0) := by rw [hv10, hgi]; go_simp
           have HN := Lib.hid (HN.out.mono (ok' := fun b => b ≠ gi) (fun b _ hlt => by omega)); have HKc := Lib.hid (HKc.out.later hb9); have R := Lib.hid (RdT.later R.out hb9); have RX := Lib.hid (RX.out.later hb9); have RJ := Lib.hid (RJ.out.later hb9); have HBV := Lib.hid (HBV.out.trans (hb9.mono HBV.out.size)); have RK9 := Lib.hid (RK9.out.later hb9); have RW := Lib.hid (RW.out.later hb9); have HN := Lib.hid (HN.out.later hb9); have HZ : Hid (Kept [(⟨gi, 0, none⟩, .slice none 0 0), (⟨gi, 1, none⟩, .slice none 0 0), (⟨gi, 2, none⟩, .slice none 0 0)] wcgj v10) := (((Kept.nil_of HBV.out).cons_of b2).cons_of b1).cons_of b0; have HF : Hid (Free gi v10) := ⟨by rw [hv10, hgi]; simp, fun j => by rw [hv10, hgi]; go_simp⟩; have hlt9 : gi < v10.heap.size := HF.out.1; (try rw [← hv10] at hHeld); rw [← hv10]; rw [← hgi]; clear hgi hv10 hb9 b0 b1 b2; have z0 := HZ.out.c0; have z1 := HZ.out.c1; have z2 := HZ.out.c2
           have m0 := HF.out.2 0; have m1 := HF.out.2 1; have m2 := HF.out.2 2; refine Tc 10 (fun K hK => ?_); go_simp; refine Th hK ?_ (fun hHeld2 => ?_)
           ·(try dsimp only)
            have h9 := HKc.out
            have h9 := h9.set (a := ⟨gi, 0, none⟩) hwg (fun x hx => by simp at hx; rcases hx with rfl | rfl | rfl | rfl | rfl | rfl | rfl | rfl | rfl | rfl <;> (dsimp only; omega)) (.slice Ie ie1 ie2)
            have h9 := h9.set (a := ⟨gi, 1, none⟩) hwg (fun x hx => by simp at hx; rcases hx with rfl | rfl | rfl | rfl | rfl | rfl | rfl | rfl | rfl | rfl <;> (dsimp only; omega)) (.slice Ik ik1 ik2)
            have h9 := h9.set (a := ⟨gi, 2, none⟩) hwg (fun x hx => by simp at hx; rcases hx with rfl | rfl | rfl | rfl | rfl | rfl | rfl | rfl | rfl | rfl <;> (dsimp only; omega)) (.slice Ic ic1 ic2)
            exact ⟨h9.c0, h9.c1, h9.c2, h9.c3, h9.c4, h9.c5, h9.c6, h9.c7, h9.t8.c0, h9.t8.c1⟩
           clear hK K hHeld; have hHeld := hHeld2; clear hHeld2; refine Tk 11 12 ?_; refine wpAnyH_done (by kernel_rfl) ?_ _; clear hHeld
           have HMID : Hid (MidJ wcgj gi ⟨ki, ⟨Ie, ie1, ie2⟩, ⟨Ik, ik1, ik2⟩, ⟨Ic, ic1, ic2⟩⟩ (((v10.setCell ⟨gi, 0, none⟩ (.slice Ie ie1 ie2)).setCell ⟨gi, 1, none⟩ (.slice Ik ik1 ik2)).setCell ⟨gi, 2, none⟩ (.slice Ic ic1 ic2))) := by
            obtain ⟨W9, hW9⟩ : ∃ W, W = (((v10.setCell ⟨gi, 0, none⟩ (.slice Ie ie1 ie2)).setCell ⟨gi, 1, none⟩ (.slice Ik ik1 ik2)).setCell ⟨gi, 2, none⟩ (.slice Ic ic1 ic2)) := ⟨_, rfl⟩; rw [← hW9]
            have hb : Below wcgj.heap.size wcgj W9 := by
             rw [hW9]; exact (((HBV.out.setCell (p := ⟨gi, 0, none⟩) hvg _).setCell (p := ⟨gi, 1, none⟩) hvg _).setCell (p := ⟨gi, 2, none⟩) hvg _)
            refine ⟨(HN.out.keep (by rw [hW9, cells3]; exact Nat.le_refl _) (fun b hb _ => by rw [hW9]; exact cells3_at b hb)).rd, ?_⟩
            refine (((Kept.nil_of hb).cons_of ?_).cons_of ?_).cons_of ?_ <;> (rw [hW9]; go_simp)
           clear z0 z1 z2 m0 m1 m2; go_wp2_with fail; go_meet; exact ⟨gi, ⟨ki, ⟨Ie, ie1, ie2⟩, ⟨Ik, ik1, ik2⟩, ⟨Ic, ic1, ic2⟩⟩, rfl, rfl, HMID.out, HP.out⟩
          ·go_simp
           clear hHeld; refine Th hK ?_ (fun hHeld => ?_)
           ·exact ⟨(HKc.out.alloc _).c0, (HKc.out.alloc _).c1, (HKc.out.alloc _).c2, (HKc.out.alloc _).c3, (HKc.out.alloc _).c4, (HKc.out.alloc _).c5, (HKc.out.alloc _).c6, (HKc.out.alloc _).c7, (HKc.out.alloc _).t8.c0, (HKc.out.alloc _).t8.c1⟩
           clear hK K; obtain ⟨gi, hgi⟩ : ∃ g, g = v8.heap.size := ⟨_, rfl⟩; obtain ⟨v9, hv9⟩ : ∃ W, W = v8.alloc (.cells #[.slice none 0 0, .slice none 0 0, .slice none 0 0] 34) := ⟨_, rfl⟩
           have hb9 : Below v8.heap.size v8 v9 := by rw [hv9]; exact Dt.box_below _ _ _
           have hvg : wcgj.heap.size ≤ gi := by rw [hgi]; exact HBV.out.size
           have hwg : w.heap.size ≤ gi := by rw [hgi]; exact HKc.out.below.size
           have hngj : gj ≠ gi := by have h := World.block_lt_of_cell? v8 _ HKc.out.c0; dsimp only at h; omega
           have hng : g ≠ gi := by have h := World.block_lt_of_cell? v8 _ HKc.out.c3; dsimp only at h; omega
           have hnp : p ≠ gi := by have h := World.block_lt_of_cell? v8 _ HKc.out.c6; dsimp only at h; omega
           have hnq : q ≠ gi := by have h := World.block_lt_of_cell? v8 _ HKc.out.t8.c0; dsimp only at h; omega
           have b0 : v9.cell? ⟨gi, 0, none⟩ = some (.slice none 0 0) := by rw [hv9, hgi]; go_simp
           have b1 : v9.cell? ⟨gi, 1, none⟩ = some (.slice none 0 0) := by rw [hv9, hgi]; go_simp
           have b2 : v9.cell? ⟨gi, 2, none⟩ = some (.slice none 0 0) := by rw [hv9, hgi]; go_simp
           have HKc := Lib.hid (HKc.out.later hb9); have R := Lib.hid (RdT.later R.out hb9); have RX := Lib.hid (RX.out.later hb9); have RJ := Lib.hid (RJ.out.later hb9); have HBV := Lib.hid (HBV.out.trans (hb9.mono HBV.out.size)); have RK9 := Lib.hid (RK9.out.later hb9); have RW := Lib.hid (RW.out.later hb9); have HZ : Hid (Kept [(⟨gi, 0, none⟩, .slice none 0 0), (⟨gi, 1, none⟩, .slice none 0 0), (⟨gi, 2, none⟩, .slice none 0 0)] wcgj v9) := (((Kept.nil_of HBV.out).cons_of b2).cons_of b1).cons_of b0; have HF : Hid (Free gi v9) := ⟨by rw [hv9, hgi]; simp, fun j => by rw [hv9, hgi]; go_simp⟩; have hlt9 : gi < v9.heap.size := HF.out.1; (try rw [← hv9] at hHeld); rw [← hv9]; rw [← hgi]; clear hgi hv9 hb9 b0 b1 b2; refine Tc 5 (fun K hK => ?_); go_simp; (go_at_call 9; refine (joinAllE_sum 3 [⟨kx, ⟨Xe, xe1, xe2⟩, ⟨Xk, xk1, xk2⟩, ⟨Xc, xc1, xc2⟩⟩, ⟨(t, u), ⟨Ae, ne, ce⟩, ⟨Ak, nk, ck⟩, ⟨B9, m9, d9⟩⟩, ⟨kx, ⟨Xe, xe1, xe2⟩, ⟨Xk, xk1, xk2⟩, ⟨Xc, xc1, xc2⟩⟩] (some ⟨gr, 0, none⟩) 3 v9 (by omega) RW.out ⟨Nat.le_trans HSUM.out.1 (by omega), HSUM.out.2⟩).mono ?_)
           rintro e v10 ⟨ki, z9, hj, _, Ie, ie1, ie2, Ik, ik1, ik2, Ic, ic1, ic2, rfl, how, hb9⟩
           obtain ⟨rfl, hall, hnn, hnc⟩ := hj (fun p hp => by
            simp at hp
            rcases hp with rfl | rfl | rfl
            ·exact JX.out
            ·exact JT.out
            ·exact JX.out)
           have HP : Hid (AllJ [kx, (t, u), kx] ki ∧ nodes ki.1 ≤ 80 ∧ ic1 ≤ 1000) := ⟨hall, Nat.le_trans hnn HSUM.out.1, by rw [← how.len]; exact Nat.le_trans hnc HSUM.out.2⟩; have HN : Hid (NoC v10 (fun b => b ≠ gi) ⟨ki, ⟨Ie, ie1, ie2⟩, ⟨Ik, ik1, ik2⟩, ⟨Ic, ic1, ic2⟩⟩) := NoC.of_own how (fun b hb _ => by have h := HF.out.1; omega); clear hj hall hnn hnc how; have HKc := Lib.hid (HKc.out.later hb9); have R := Lib.hid (RdT.later R.out hb9); have RX := Lib.hid (RX.out.later hb9); have RJ := Lib.hid (RJ.out.later hb9); have HBV := Lib.hid (HBV.out.trans (hb9.mono HBV.out.size)); have RK9 := Lib.hid (RK9.out.later hb9); have RW := Lib.hid (RW.out.later hb9); have HZ := Lib.hid (HZ.out.later hb9); have HF := Lib.hid (HF.out.later hb9); clear hb9; have z0 := HZ.out.c0; have z1 := HZ.out.c1; have z2 := HZ.out.c2; have m0 := HF.out.2 0; have m1 := HF.out.2 1; have m2 := HF.out.2 2; clear hHeld; refine Th hK ?_ (fun hHeld => ?_)
           ·exact ⟨HKc.out.c0, HKc.out.c1, HKc.out.c2, HKc.out.c3, HKc.out.c4, HKc.out.c5, HKc.out.c6, HKc.out.c7, HKc.out.t8.c0, HKc.out.t8.c1⟩
           clear hK K; refine Tk 6 56 ?_; refine Tk 7 63 ?_; refine Tk 8 64 ?_; refine Tc 10 (fun K hK => ?_); go_simp; refine Th hK ?_ (fun hHeld2 => ?_)
           ·(try dsimp only)
            have h9 := HKc.out
            have h9 := h9.set (a := ⟨gi, 0, none⟩) hwg (fun x hx => by simp at hx; rcases hx with rfl | rfl | rfl | rfl | rfl | rfl | rfl | rfl | rfl | rfl <;> (dsimp only; omega)) (.slice Ie ie1 ie2)
            have h9 := h9.set (a := ⟨gi, 1, none⟩) hwg (fun x hx => by simp at hx; rcases hx with rfl | rfl | rfl | rfl | rfl | rfl | rfl | rfl | rfl | rfl <;> (dsimp only; omega)) (.slice Ik ik1 ik2)
            have h9 := h9.set (a := ⟨gi, 2, none⟩) hwg (fun x hx => by simp at hx; rcases hx with rfl | rfl | rfl | rfl | rfl | rfl | rfl | rfl | rfl | rfl <;> (dsimp only; omega)) (.slice Ic ic1 ic2)
            exact ⟨h9.c0, h9.c1, h9.c2, h9.c3, h9.c4, h9.c5, h9.c6, h9.c7, h9.t8.c0, h9.t8.c1⟩
           clear hK K hHeld; have hHeld := hHeld2; clear hHeld2; refine Tk 11 12 ?_; refine wpAnyH_done (by kernel_rfl) ?_ _; clear hHeld
           have HMID : Hid (MidJ wcgj gi ⟨ki, ⟨Ie, ie1, ie2⟩, ⟨Ik, ik1, ik2⟩, ⟨Ic, ic1, ic2⟩⟩ (((v10.setCell ⟨gi, 0, none⟩ (.slice Ie ie1 ie2)).setCell ⟨gi, 1, none⟩ (.slice Ik ik1 ik2)).setCell ⟨gi, 2, none⟩ (.slice Ic ic1 ic2))) := by
            obtain ⟨W9, hW9⟩ : ∃ W, W = (((v10.setCell ⟨gi, 0, none⟩ (.slice Ie ie1 ie2)).setCell ⟨gi, 1, none⟩ (.slice Ik ik1 ik2)).setCell ⟨gi, 2, none⟩ (.slice Ic ic1 ic2)) := ⟨_, rfl⟩; rw [← hW9]
            have hb : Below wcgj.heap.size wcgj W9 := by
             rw [hW9]; exact (((HBV.out.setCell (p := ⟨gi, 0, none⟩) hvg _).setCell (p := ⟨gi, 1, none⟩) hvg _).setCell (p := ⟨gi, 2, none⟩) hvg _)
            refine ⟨(HN.out.keep (by rw [hW9, cells3]; exact Nat.le_refl _) (fun b hb _ => by rw [hW9]; exact cells3_at b hb)).rd, ?_⟩
            refine (((Kept.nil_of hb).cons_of ?_).cons_of ?_).cons_of ?_ <;> (rw [hW9]; go_simp)
           clear z0 z1 z2 m0 m1 m2; go_wp2_with fail; go_meet; exact ⟨gi, ⟨ki, ⟨Ie, ie1, ie2⟩, ⟨Ik, ik1, ik2⟩, ⟨Ic, ic1, ic2⟩⟩, rfl, rfl, HMID.out, HP.out⟩
         ·go_simp
          clear hHeld; refine Th hK ?_ (fun hHeld => ?_)
          ·exact ⟨(HKc.out.alloc _).c0, (HKc.out.alloc _).c1, (HKc.out.alloc _).c2, (HKc.out.alloc _).c3, (HKc.out.alloc _).c4, (HKc.out.alloc _).c5, (HKc.out.alloc _).c6, (HKc.out.alloc _).c7, (HKc.out.alloc _).t8.c0, (HKc.out.alloc _).t8.c1⟩
          clear hK K; obtain ⟨gi, hgi⟩ : ∃ g, g = v7.heap.size := ⟨_, rfl⟩; obtain ⟨v8, hv8⟩ : ∃ W, W = v7.alloc (.cells #[.slice none 0 0, .slice none 0 0, .slice none 0 0] 34) := ⟨_, rfl⟩
          have hb9 : Below v7.heap.size v7 v8 := by rw [hv8]; exact Dt.box_below _ _ _
          have hvg : wcgj.heap.size ≤ gi := by rw [hgi]; exact HBV.out.size
          have hwg : w.heap.size ≤ gi := by rw [hgi]; exact HKc.out.below.size
          have hngj : gj ≠ gi := by have h := World.block_lt_of_cell? v7 _ HKc.out.c0; dsimp only at h; omega
          have hng : g ≠ gi := by have h := World.block_lt_of_cell? v7 _ HKc.out.c3; dsimp only at h; omega
          have hnp : p ≠ gi := by have h := World.block_lt_of_cell? v7 _ HKc.out.c6; dsimp only at h; omega
          have hnq : q ≠ gi := by have h := World.block_lt_of_cell? v7 _ HKc.out.t8.c0; dsimp only at h; omega
          have b0 : v8.cell? ⟨gi, 0, none⟩ = some (.slice none 0 0) := by rw [hv8, hgi]; go_simp
          have b1 : v8.cell? ⟨gi, 1, none⟩ = some (.slice none 0 0) := by rw [hv8, hgi]; go_simp
          have b2 : v8.cell? ⟨gi, 2, none⟩ = some (.slice none 0 0) := by rw [hv8, hgi]; go_simp
          have HKc := Lib.hid (HKc.out.later hb9); have R := Lib.hid (RdT.later R.out hb9); have RX := Lib.hid (RX.out.later hb9); have RJ := Lib.hid (RJ.out.later hb9); have HBV := Lib.hid (HBV.out.trans (hb9.mono HBV.out.size)); have RK9 := Lib.hid (RK9.out.later hb9); have HZ : Hid (Kept [(⟨gi, 0, none⟩, .slice none 0 0), (⟨gi, 1, none⟩, .slice none 0 0), (⟨gi, 2, none⟩, .slice none 0 0)] wcgj v8) := (((Kept.nil_of HBV.out).cons_of b2).cons_of b1).cons_of b0; have HF : Hid (Free gi v8) := ⟨by rw [hv8, hgi]; simp, fun j => by rw [hv8, hgi]; go_simp⟩; have hlt9 : gi < v8.heap.size := HF.out.1; (try rw [← hv8] at hHeld); rw [← hv8]; rw [← hgi]; clear hgi hv8 hb9 b0 b1 b2; refine Tc 4 (fun K hK => ?_); go_simp; clear hHeld; refine Th hK ?_ (fun hHeld => ?_)
          ·exact ⟨(HKc.out.alloc _).c0, (HKc.out.alloc _).c1, (HKc.out.alloc _).c2, (HKc.out.alloc _).c3, (HKc.out.alloc _).c4, (HKc.out.alloc _).c5, (HKc.out.alloc _).c6, (HKc.out.alloc _).c7, (HKc.out.alloc _).t8.c0, (HKc.out.alloc _).t8.c1⟩
          clear hK K; obtain ⟨gr, hgr⟩ : ∃ g, g = v8.heap.size := ⟨_, rfl⟩; obtain ⟨v9, hv9⟩ : ∃ W, W = v8.alloc (.cells #[.slice Xe xe1 xe2, .slice Xk xk1 xk2, .slice Xc xc1 xc2, .slice Ae ne ce, .slice Ak nk ck, .slice B9 m9 d9, .slice Xe xe1 xe2, .slice Xk xk1 xk2, .slice Xc xc1 xc2] 34) := ⟨_, rfl⟩
          have hb9 : Below v8.heap.size v8 v9 := by rw [hv9]; exact Dt.box_below _ _ _
          have hrow := rd_rowP v8 [⟨kx, ⟨Xe, xe1, xe2⟩, ⟨Xk, xk1, xk2⟩, ⟨Xc, xc1, xc2⟩⟩, ⟨(t, u), ⟨Ae, ne, ce⟩, ⟨Ak, nk, ck⟩, ⟨B9, m9, d9⟩⟩, ⟨kx, ⟨Xe, xe1, xe2⟩, ⟨Xk, xk1, xk2⟩, ⟨Xc, xc1, xc2⟩⟩] #[.slice Xe xe1 xe2, .slice Xk xk1 xk2, .slice Xc xc1 xc2, .slice Ae ne ce, .slice Ak nk ck, .slice B9 m9 d9, .slice Xe xe1 xe2, .slice Xk xk1 xk2, .slice Xc xc1 xc2] 3 rfl rfl; rw [← hv9, ← hgr] at hrow; have HKc := Lib.hid (HKc.out.later hb9); have R := Lib.hid (RdT.later R.out hb9); have RX := Lib.hid (RX.out.later hb9); have RJ := Lib.hid (RJ.out.later hb9); have HBV := Lib.hid (HBV.out.trans (hb9.mono HBV.out.size)); have RK9 := Lib.hid (RK9.out.later hb9); have HZ := Lib.hid (HZ.out.later hb9); have HF := Lib.hid (HF.out.later hb9)
          have RW : Hid (RowP v9 (some ⟨gr, 0, none⟩) 3 3 [⟨kx, ⟨Xe, xe1, xe2⟩, ⟨Xk, xk1, xk2⟩, ⟨Xc, xc1, xc2⟩⟩, ⟨(t, u), ⟨Ae, ne, ce⟩, ⟨Ak, nk, ck⟩, ⟨B9, m9, d9⟩⟩, ⟨kx, ⟨Xe, xe1, xe2⟩, ⟨Xk, xk1, xk2⟩, ⟨Xc, xc1, xc2⟩⟩]) := ⟨hrow.more (by rw [hv9, hgr]; simp), rfl, fun p hp => by
           simp at hp
           rcases hp with rfl | rfl | rfl
           ·exact RX.out
           ·exact RK9.out
           ·exact RX.out⟩
          (try rw [← hv9] at hHeld); rw [← hv9]; rw [← hgr]; clear hgr hv9 hb9 hrow; refine Tc 5 (fun K hK => ?_); go_simp; (go_at_call 9; refine (joinAllE_sum 3 [⟨kx, ⟨Xe, xe1, xe2⟩, ⟨Xk, xk1, xk2⟩, ⟨Xc, xc1, xc2⟩⟩, ⟨(t, u), ⟨Ae, ne, ce⟩, ⟨Ak, nk, ck⟩, ⟨B9, m9, d9⟩⟩, ⟨kx, ⟨Xe, xe1, xe2⟩, ⟨Xk, xk1, xk2⟩, ⟨Xc, xc1, xc2⟩⟩] (some ⟨gr, 0, none⟩) 3 v9 (by omega) RW.out ⟨Nat.le_trans HSUM.out.1 (by omega), HSUM.out.2⟩).mono ?_); rintro e v10 ⟨ki, z9, hj, _, Ie, ie1, ie2, Ik, ik1, ik2, Ic, ic1, ic2, rfl, how, hb9⟩
          obtain ⟨rfl, hall, hnn, hnc⟩ := hj (fun p hp => by
           simp at hp
           rcases hp with rfl | rfl | rfl
           ·exact JX.out
           ·exact JT.out
           ·exact JX.out)
          have HP : Hid (AllJ [kx, (t, u), kx] ki ∧ nodes ki.1 ≤ 80 ∧ ic1 ≤ 1000) := ⟨hall, Nat.le_trans hnn HSUM.out.1, by rw [← how.len]; exact Nat.le_trans hnc HSUM.out.2⟩; have HN : Hid (NoC v10 (fun b => b ≠ gi) ⟨ki, ⟨Ie, ie1, ie2⟩, ⟨Ik, ik1, ik2⟩, ⟨Ic, ic1, ic2⟩⟩) := NoC.of_own how (fun b hb _ => by have h := HF.out.1; omega); clear hj hall hnn hnc how; have HKc := Lib.hid (HKc.out.later hb9); have R := Lib.hid (RdT.later R.out hb9); have RX := Lib.hid (RX.out.later hb9); have RJ := Lib.hid (RJ.out.later hb9); have HBV := Lib.hid (HBV.out.trans (hb9.mono HBV.out.size)); have RK9 := Lib.hid (RK9.out.later hb9); have HZ := Lib.hid (HZ.out.later hb9); have HF := Lib.hid (HF.out.later hb9); have RW := Lib.hid (RW.out.later hb9); clear hb9; have z0 := HZ.out.c0; have z1 := HZ.out.c1; have z2 := HZ.out.c2; have m0 := HF.out.2 0; have m1 := HF.out.2 1; have m2 := HF.out.2 2; clear hHeld; refine Th hK ?_ (fun hHeld => ?_)
          ·exact ⟨HKc.out.c0, HKc.out.c1, HKc.out.c2, HKc.out.c3, HKc.out.c4, HKc.out.c5, HKc.out.c6, HKc.out.c7, HKc.out.t8.c0, HKc.out.t8.c1⟩
          clear hK K; refine Tk 6 56 ?_; refine Tk 7 63 ?_; refine Tk 8 64 ?_; refine Tc 10 (fun K hK => ?_); go_simp; refine Th hK ?_ (fun hHeld2 => ?_)
          ·(try dsimp only)
           have h9 := HKc.out
           have h9 := h9.set (a := ⟨gi, 0, none⟩) hwg (fun x hx => by simp at hx; rcases hx with rfl | rfl | rfl | rfl | rfl | rfl | rfl | rfl | rfl | rfl <;> (dsimp only; omega)) (.slice Ie ie1 ie2)
           have h9 := h9.set (a := ⟨gi, 1, none⟩) hwg (fun x hx => by simp at hx; rcases hx with rfl | rfl | rfl | rfl | rfl | rfl | rfl | rfl | rfl | rfl <;> (dsimp only; omega)) (.slice Ik ik1 ik2)
           have h9 := h9.set (a := ⟨gi, 2, none⟩) hwg (fun x hx => by simp at hx; rcases hx with rfl | rfl | rfl | rfl | rfl | rfl | rfl | rfl | rfl | rfl <;> (dsimp only; omega)) (.slice Ic ic1 ic2)
           exact ⟨h9.c0, h9.c1, h9.c2, h9.c3, h9.c4, h9.c5, h9.c6, h9.c7, h9.t8.c0, h9.t8.c1⟩
          clear hK K hHeld; have hHeld := hHeld2; clear hHeld2; refine Tk 11 12 ?_; refine wpAnyH_done (by kernel_rfl) ?_ _; clear hHeld
          have HMID : Hid (MidJ wcgj gi ⟨ki, ⟨Ie, ie1, ie2⟩, ⟨Ik, ik1, ik2⟩, ⟨Ic, ic1, ic2⟩⟩ (((v10.setCell ⟨gi, 0, none⟩ (.slice Ie ie1 ie2)).setCell ⟨gi, 1, none⟩ (.slice Ik ik1 ik2)).setCell ⟨gi, 2, none⟩ (.slice Ic ic1 ic2))) := by
           obtain ⟨W9, hW9⟩ : ∃ W, W = (((v10.setCell ⟨gi, 0, none⟩ (.slice Ie ie1 ie2)).setCell ⟨gi, 1, none⟩ (.slice Ik ik1 ik2)).setCell ⟨gi, 2, none⟩ (.slice Ic ic1 ic2)) := ⟨_, rfl⟩; rw [← hW9]
           have hb : Below wcgj.heap.size wcgj W9 := by
            rw [hW9]; exact (((HBV.out.setCell (p := ⟨gi, 0, none⟩) hvg _).setCell (p := ⟨gi, 1, none⟩) hvg _).setCell (p := ⟨gi, 2, none⟩) hvg _)
           refine ⟨(HN.out.keep (by rw [hW9, cells3]; exact Nat.le_refl _) (fun b hb _ => by rw [hW9]; exact cells3_at b hb)).rd, ?_⟩
           refine (((Kept.nil_of hb).cons_of ?_).cons_of ?_).cons_of ?_ <;> (rw [hW9]; go_simp)
          clear z0 z1 z2 m0 m1 m2; go_wp2_with fail; go_meet; exact ⟨gi, ⟨ki, ⟨Ie, ie1, ie2⟩, ⟨Ik, ik1, ik2⟩, ⟨Ic, ic1, ic2⟩⟩, rfl, rfl, HMID.out, HP.out⟩
        ·go_simp
         clear hHeld; refine Th hK ?_ (fun hHeld => ?_)
         ·exact ⟨(HKc.out.alloc _).c0, (HKc.out.alloc _).c1, (HKc.out.alloc _).c2, (HKc.out.alloc _).c3, (HKc.out.alloc _).c4, (HKc.out.alloc _).c5, (HKc.out.alloc _).c6, (HKc.out.alloc _).c7, (HKc.out.alloc _).t8.c0, (HKc.out.alloc _).t8.c1⟩
         clear hK K; obtain ⟨gi, hgi⟩ : ∃ g, g = v6.heap.size := ⟨_, rfl⟩; obtain ⟨v7, hv7⟩ : ∃ W, W = v6.alloc (.cells #[.slice none 0 0, .slice none 0 0, .slice none 0 0] 34) := ⟨_, rfl⟩
         have hb9 : Below v6.heap.size v6 v7 := by rw [hv7]; exact Dt.box_below _ _ _
         have hvg : wcgj.heap.size ≤ gi := by rw [hgi]; exact HBV.out.size
         have hwg : w.heap.size ≤ gi := by rw [hgi]; exact HKc.out.below.size
         have hngj : gj ≠ gi := by have h := World.block_lt_of_cell? v6 _ HKc.out.c0; dsimp only at h; omega
         have hng : g ≠ gi := by have h := World.block_lt_of_cell? v6 _ HKc.out.c3; dsimp only at h; omega
         have hnp : p ≠ gi := by have h := World.block_lt_of_cell? v6 _ HKc.out.c6; dsimp only at h; omega
         have hnq : q ≠ gi := by have h := World.block_lt_of_cell? v6 _ HKc.out.t8.c0; dsimp only at h; omega
         have b0 : v7.cell? ⟨gi, 0, none⟩ = some (.slice none 0 0) := by rw [hv7, hgi]; go_simp
         have b1 : v7.cell? ⟨gi, 1, none⟩ = some (.slice none 0 0) := by rw [hv7, hgi]; go_simp
         have b2 : v7.cell? ⟨gi, 2, none⟩ = some (.slice none 0 0) := by rw [hv7, hgi]; go_simp
         have HKc := Lib.hid (HKc.out.later hb9); have R := Lib.hid (RdT.later R.out hb9); have RX := Lib.hid (RX.out.later hb9); have RJ := Lib.hid (RJ.out.later hb9); have HBV := Lib.hid (HBV.out.trans (hb9.mono HBV.out.size)); have HZ : Hid (Kept [(⟨gi, 0, none⟩, .slice none 0 0), (⟨gi, 1, none⟩, .slice none 0 0), (⟨gi, 2, none⟩, .slice none 0 0)] wcgj v7) := (((Kept.nil_of HBV.out).cons_of b2).cons_of b1).cons_of b0; have HF : Hid (Free gi v7) := ⟨by rw [hv7, hgi]; simp, fun j => by rw [hv7, hgi]; go_simp⟩; have hlt9 : gi < v7.heap.size := HF.out.1; (try rw [← hv7] at hHeld); rw [← hv7]; rw [← hgi]; clear hgi hv7 hb9 b0 b1 b2; refine Tc 2 (fun K hK => ?_); go_simp; (go_at_call 10; refine (refknown_any t Ae Ak ne nk ce ck u m9 v7 HT.out (by have := N.out; omega) R.out HU.out.1 HU.out.2.1 (by have := HU.out.2.2; omega)).mono ?_); rintro e v8 ⟨B9, d9, rfl, hro, hb9⟩
         have RK9 : Hid (RdP v8 ⟨(t, u), ⟨Ae, ne, ce⟩, ⟨Ak, nk, ck⟩, ⟨B9, m9, d9⟩⟩) := ⟨RdT.later R.out hb9, HU.out.2.1, hro.rd⟩; clear hro; have HKc := Lib.hid (HKc.out.later hb9); have R := Lib.hid (RdT.later R.out hb9); have RX := Lib.hid (RX.out.later hb9); have RJ := Lib.hid (RJ.out.later hb9); have HBV := Lib.hid (HBV.out.trans (hb9.mono HBV.out.size)); have HZ := Lib.hid (HZ.out.later hb9); have HF := Lib.hid (HF.out.later hb9); clear hb9; have HSUM := HSUM B9 d9; clear hHeld; refine Th hK ?_ (fun hHeld => ?_)
         ·exact ⟨HKc.out.c0, HKc.out.c1, HKc.out.c2, HKc.out.c3, HKc.out.c4, HKc.out.c5, HKc.out.c6, HKc.out.c7, HKc.out.t8.c0, HKc.out.t8.c1⟩
         clear hK K; refine Tc 4 (fun K hK => ?_); go_simp; clear hHeld; refine Th hK ?_ (fun hHeld => ?_)
         ·exact ⟨(HKc.out.alloc _).c0, (HKc.out.alloc _).c1, (HKc.out.alloc _).c2, (HKc.out.alloc _).c3, (HKc.out.alloc _).c4, (HKc.out.alloc _).c5, (HKc.out.alloc _).c6, (HKc.out.alloc _).c7, (HKc.out.alloc _).t8.c0, (HKc.out.alloc _).t8.c1⟩
         clear hK K; obtain ⟨gr, hgr⟩ : ∃ g, g = v8.heap.size := ⟨_, rfl⟩; obtain ⟨v9, hv9⟩ : ∃ W, W = v8.alloc (.cells #[.slice Xe xe1 xe2, .slice Xk xk1 xk2, .slice Xc xc1 xc2, .slice Ae ne ce, .slice Ak nk ck, .slice B9 m9 d9, .slice Xe xe1 xe2, .slice Xk xk1 xk2, .slice Xc xc1 xc2] 34) := ⟨_, rfl⟩
         have hb9 : Below v8.heap.size v8 v9 := by rw [hv9]; exact Dt.box_below _ _ _
         have hrow := rd_rowP v8 [⟨kx, ⟨Xe, xe1, xe2⟩, ⟨Xk, xk1, xk2⟩, ⟨Xc, xc1, xc2⟩⟩, ⟨(t, u), ⟨Ae, ne, ce⟩, ⟨Ak, nk, ck⟩, ⟨B9, m9, d9⟩⟩, ⟨kx, ⟨Xe, xe1, xe2⟩, ⟨Xk, xk1, xk2⟩, ⟨Xc, xc1, xc2⟩⟩] #[.slice Xe xe1 xe2, .slice Xk xk1 xk2, .slice Xc xc1 xc2, .slice Ae ne ce, .slice Ak nk ck, .slice B9 m9 d9, .slice Xe xe1 xe2, .slice Xk xk1 xk2, .slice Xc xc1 xc2] 3 rfl rfl; rw [← hv9, ← hgr] at hrow; have HKc := Lib.hid (HKc.out.later hb9); have R := Lib.hid (RdT.later R.out hb9); have RX := Lib.hid (RX.out.later hb9); have RJ := Lib.hid (RJ.out.later hb9); have HBV := Lib.hid (HBV.out.trans (hb9.mono HBV.out.size)); have HZ := Lib.hid (HZ.out.later hb9); have HF := Lib.hid (HF.out.later hb9); have RK9 := Lib.hid (RK9.out.later hb9)
         have RW : Hid (RowP v9 (some ⟨gr, 0, none⟩) 3 3 [⟨kx, ⟨Xe, xe1, xe2⟩, ⟨Xk, xk1, xk2⟩, ⟨Xc, xc1, xc2⟩⟩, ⟨(t, u), ⟨Ae, ne, ce⟩, ⟨Ak, nk, ck⟩, ⟨B9, m9, d9⟩⟩, ⟨kx, ⟨Xe, xe1, xe2⟩, ⟨Xk, xk1, xk2⟩, ⟨Xc, xc1, xc2⟩⟩]) := ⟨hrow.more (by rw [hv9, hgr]; simp), rfl, fun p hp => by
          simp at hp
          rcases hp with rfl | rfl | rfl
          ·exact RX.out
          ·exact RK9.out
          ·exact RX.out⟩
         (try rw [← hv9] at hHeld); rw [← hv9]; rw [← hgr]; clear hgr hv9 hb9 hrow; refine Tc 5 (fun K hK => ?_); go_simp; (go_at_call 9; refine (joinAllE_sum 3 [⟨kx, ⟨Xe, xe1, xe2⟩, ⟨Xk, xk1, xk2⟩, ⟨Xc, xc1, xc2⟩⟩, ⟨(t, u), ⟨Ae, ne, ce⟩, ⟨Ak, nk, ck⟩, ⟨B9, m9, d9⟩⟩, ⟨kx, ⟨Xe, xe1, xe2⟩, ⟨Xk, xk1, xk2⟩, ⟨Xc, xc1, xc2⟩⟩] (some ⟨gr, 0, none⟩) 3 v9 (by omega) RW.out ⟨Nat.le_trans HSUM.out.1 (by omega), HSUM.out.2⟩).mono ?_); rintro e v10 ⟨ki, z9, hj, _, Ie, ie1, ie2, Ik, ik1, ik2, Ic, ic1, ic2, rfl, how, hb9⟩
         obtain ⟨rfl, hall, hnn, hnc⟩ := hj (fun p hp => by
          simp at hp
          rcases hp with rfl | rfl | rfl
          ·exact JX.out
          ·exact JT.out
          ·exact JX.out)
         have HP : Hid (AllJ [kx, (t, u), kx] ki ∧ nodes ki.1 ≤ 80 ∧ ic1 ≤ 1000) := ⟨hall, Nat.le_trans hnn HSUM.out.1, by rw [← how.len]; exact Nat.le_trans hnc HSUM.out.2⟩; have HN : Hid (NoC v10 (fun b => b ≠ gi) ⟨ki, ⟨Ie, ie1, ie2⟩, ⟨Ik, ik1, ik2⟩, ⟨Ic, ic1, ic2⟩⟩) := NoC.of_own how (fun b hb _ => by have h := HF.out.1; omega); clear hj hall hnn hnc how; have HKc := Lib.hid (HKc.out.later hb9); have R := Lib.hid (RdT.later R.out hb9); have RX := Lib.hid (RX.out.later hb9); have RJ := Lib.hid (RJ.out.later hb9); have HBV := Lib.hid (HBV.out.trans (hb9.mono HBV.out.size)); have HZ := Lib.hid (HZ.out.later hb9); have HF := Lib.hid (HF.out.later hb9); have RK9 := Lib.hid (RK9.out.later hb9); have RW := Lib.hid (RW.out.later hb9); clear hb9; have z0 := HZ.out.c0; have z1 := HZ.out.c1; have z2 := HZ.out.c2; have m0 := HF.out.2 0; have m1 := HF.out.2 1; have m2 := HF.out.2 2; clear hHeld; refine Th hK ?_ (fun hHeld => ?_)
         ·exact ⟨HKc.out.c0, HKc.out.c1, HKc.out.c2, HKc.out.c3, HKc.out.c4, HKc.out.c5, HKc.out.c6, HKc.out.c7, HKc.out.t8.c0, HKc.out.t8.c1⟩
         clear hK K; refine Tk 6 56 ?_; refine Tk 7 63 ?_; refine Tk 8 64 ?_; refine Tc 10 (fun K hK => ?_); go_simp; refine Th hK ?_ (fun hHeld2 => ?_)
         ·(try dsimp only)
          have h9 := HKc.out
          have h9 := h9.set (a := ⟨gi, 0, none⟩) hwg (fun x hx => by simp at hx; rcases hx with rfl | rfl | rfl | rfl | rfl | rfl | rfl | rfl | rfl | rfl <;> (dsimp only; omega)) (.slice Ie ie1 ie2)
          have h9 := h9.set (a := ⟨gi, 1, none⟩) hwg (fun x hx => by simp at hx; rcases hx with rfl | rfl | rfl | rfl | rfl | rfl | rfl | rfl | rfl | rfl <;> (dsimp only; omega)) (.slice Ik ik1 ik2)
          have h9 := h9.set (a := ⟨gi, 2, none⟩) hwg (fun x hx => by simp at hx; rcases hx with rfl | rfl | rfl | rfl | rfl | rfl | rfl | rfl | rfl | rfl <;> (dsimp only; omega)) (.slice Ic ic1 ic2)
          exact ⟨h9.c0, h9.c1, h9.c2, h9.c3, h9.c4, h9.c5, h9.c6, h9.c7, h9.t8.c0, h9.t8.c1⟩
         clear hK K hHeld; have hHeld := hHeld2; clear hHeld2; refine Tk 11 12 ?_; refine wpAnyH_done (by kernel_rfl) ?_ _; clear hHeld
         have HMID : Hid (MidJ wcgj gi ⟨ki, ⟨Ie, ie1, ie2⟩, ⟨Ik, ik1, ik2⟩, ⟨Ic, ic1, ic2⟩⟩ (((v10.setCell ⟨gi, 0, none⟩ (.slice Ie ie1 ie2)).setCell ⟨gi, 1, none⟩ (.slice Ik ik1 ik2)).setCell ⟨gi, 2, none⟩ (.slice Ic ic1 ic2))) := by
          obtain ⟨W9, hW9⟩ : ∃ W, W = (((v10.setCell ⟨gi, 0, none⟩ (.slice Ie ie1 ie2)).setCell ⟨gi, 1, none⟩ (.slice Ik ik1 ik2)).setCell ⟨gi, 2, none⟩ (.slice Ic ic1 ic2)) := ⟨_, rfl⟩; rw [← hW9]
          have hb : Below wcgj.heap.size wcgj W9 := by
           rw [hW9]; exact (((HBV.out.setCell (p := ⟨gi, 0, none⟩) hvg _).setCell (p := ⟨gi, 1, none⟩) hvg _).setCell (p := ⟨gi, 2, none⟩) hvg _)
          refine ⟨(HN.out.keep (by rw [hW9, cells3]; exact Nat.le_refl _) (fun b hb _ => by rw [hW9]; exact cells3_at b hb)).rd, ?_⟩
          refine (((Kept.nil_of hb).cons_of ?_).cons_of ?_).cons_of ?_ <;> (rw [hW9]; go_simp)
         clear z0 z1 z2 m0 m1 m2; go_wp2_with fail; go_meet; exact ⟨gi, ⟨ki, ⟨Ie, ie1, ie2⟩, ⟨Ik, ik1, ik2⟩, ⟨Ic, ic1, ic2⟩⟩, rfl, rfl, HMID.out, HP.out⟩
       case rest =>
        obtain ⟨wcgi, hwcgi⟩ : ∃ W, W = wc := ⟨_, rfl⟩; subst hwcgi; obtain ⟨gi, ⟨ki, ⟨Ie, ie1, ie2⟩, ⟨Ik, ik1, ik2⟩, ⟨Ic, ic1, ic2⟩⟩, rfl, rfl, hmid, hprop⟩ := hcut; obtain ⟨hrp, hkp⟩ := hmid.out; have hb9 := hkp.below; have HKc := Lib.hid (HKc.out.later hb9); have R := Lib.hid (RdT.later R.out hb9); have RX := Lib.hid (RX.out.later hb9); have RJ := Lib.hid (RJ.out.later hb9); clear hb9; have RI := Lib.hid hrp; have PI : Hid (AllJ [kx, (t, u), kx] ki ∧ nodes ki.1 ≤ 80 ∧ ic1 ≤ 1000) := hprop.out; have HKc : Hid (Kept [(⟨gi, 0, none⟩, .slice Ie ie1 ie2), (⟨gi, 1, none⟩, .slice Ik ik1 ik2), (⟨gi, 2, none⟩, .slice Ic ic1 ic2), (⟨gj, 0, none⟩, .slice Je je1 je2), (⟨gj, 1, none⟩, .slice Jk jk1 jk2), (⟨gj, 2, none⟩, .slice Jc jc1 jc2), (⟨g, 0, none⟩, .slice Xe xe1 xe2), (⟨g, 1, none⟩, .slice Xk xk1 xk2), (⟨g, 2, none⟩, .slice Xc xc1 xc2), (⟨p, 0, none⟩, .slice Ae ne ce), (⟨p, 1, none⟩, .slice Ak nk ck), (⟨q, 0, none⟩, .int .i64 a), (⟨q, 1, none⟩, .int .i64 n)] w wcgi) := (((HKc.out.cons_of hkp.c2).cons_of hkp.c1).cons_of hkp.c0)
        clear hmid hprop hrp hkp; clear HSUM
        have HST : Hid (∀ p q, Cs.st kj p q = mx (Cs.st (t, u) p q) (Cs.st kx p q)) := fun p q => by
         rw [PJ.out.1.st p q]; show mx _ (mx _ none) = _; rw [none_mx]
        have EI : Hid (kj = ki) := ext_st PJ.out.1.right PI.out.1.right fun p q => by
         rw [HST.out, PI.out.1.st p q]; show _ = mx _ (mx _ (mx _ none)); rw [none_mx, mx_comm (st_at (t, u) p q) (st_at kx p q), ← mx_assoc, mx_self]
        have HTJ : Hid (kj.1 = addT t ⟨a, n, ⟨#[]⟩, v⟩) := by
         refine cnt_st (c := (t, u)) JT.out HE.out ?_ PJ.out.1.right fun p q => ?_
         ·show hasC u a n = false
          rw [has_dl HT.out HU.out.1, decide_eq_false (check_iff.1 HCK.out).2.2]
         ·rw [HST.out, KX.out]
        obtain ⟨sv, hsv⟩ : ∃ s : Int, sumE t.es = s := ⟨_, rfl⟩; obtain ⟨sw, hsw⟩ : ∃ s : Int, sumE t.es + v = s := ⟨_, rfl⟩; have HSV := Lib.hid hsv
        have HSJ : Hid ((if Tr.rightB 5 kj.1 = true then sumE kj.1.es else 0) = sw) := by
         unfold Hid; rw [if_pos (Tr.rightB_iff.2 PJ.out.1.right.tree), HTJ.out, ← hsw]; exact insE_sum _ _
        have fw : IntKind.i64.wrap (sv + v) = sw := by
         have h1 := sum_take (small_v HT.out) t.es.length (by have := HLL.out; omega); rw [List.take_length, hsv] at h1; have h2 := HV.out; rw [← hsw, hsv, IntKind.wrap_i64]; omega
        clear hsv hsw; have c0 := HKc.out.c0; have c1 := HKc.out.c1; have c2 := HKc.out.c2; have c3 := HKc.out.c3; have c4 := HKc.out.c4; have c5 := HKc.out.c5; have c6 := HKc.out.c6; have c7 := HKc.out.c7; have c8 := HKc.out.t8.c0; have c9 := HKc.out.t8.c1; have c10 := HKc.out.t8.c2; have c11 := HKc.out.t8.c3; have c12 := HKc.out.t8.c4; go_wp2_with fail; clear c0 c1 c2 c3 c4 c5 c6 c7 c8 c9 c10 c11 c12; refine wp_region_held_drew (S := fun W => W.cell? ⟨gi, 0, none⟩ = some (.slice Ie ie1 ie2) ∧ W.cell? ⟨gi, 1, none⟩ = some (.slice Ik ik1 ik2) ∧ W.cell? ⟨gi, 2, none⟩ = some (.slice Ic ic1 ic2) ∧ W.cell? ⟨gj, 0, none⟩ = some (.slice Je je1 je2) ∧ W.cell? ⟨gj, 1, none⟩ = some (.slice Jk jk1 jk2) ∧ W.cell? ⟨gj, 2, none⟩ = some (.slice Jc jc1 jc2) ∧ W.cell? ⟨g, 0, none⟩ = some (.slice Xe xe1 xe2) ∧ W.cell? ⟨g, 1, none⟩ = some (.slice Xk xk1 xk2) ∧ W.cell? ⟨g, 2, none⟩ = some (.slice Xc xc1 xc2) ∧ W.cell? ⟨p, 0, none⟩ = some (.slice Ae ne ce) ∧ W.cell? ⟨p, 1, none⟩ = some (.slice Ak nk ck) ∧ W.cell? ⟨q, 0, none⟩ = some (.int .i64 a) ∧ W.cell? ⟨q, 1, none⟩ = some (.int .i64 n)) (by kernel_rfl) (by have h9 := HKc.out.drew; exact ⟨h9.c0, h9.c1, h9.c2, h9.c3, h9.c4, h9.c5, h9.c6, h9.c7, h9.t8.c0, h9.t8.c1, h9.t8.c2, h9.t8.c3, h9.t8.c4⟩) (fun hHeld => ?_)
        obtain ⟨v6, hv6⟩ : ∃ v, v = wcgi.drew := ⟨_, rfl⟩
        have hb9 : Below wcgi.heap.size wcgi v6 := by rw [hv6]; exact (Below.refl _ _).drew
        have HKc := Lib.hid (HKc.out.later hb9); have R := Lib.hid (RdT.later R.out hb9); have RX := Lib.hid (RX.out.later hb9); have RJ := Lib.hid (RJ.out.later hb9); have RI := Lib.hid (RI.out.later hb9); clear hb9; rw [← hv6] at hHeld ⊢; clear hv6; refine Tk 0 65 ?_; refine Tk 1 66 ?_; refine Tk 2 67 ?_; refine Tk 3 68 ?_; refine Tk 4 69 ?_; refine Tk 5 70 ?_; refine Tk 6 71 ?_; refine Tk 7 72 ?_; refine Tk 8 73 ?_; refine Tk 9 74 ?_; refine Tk 10 75 ?_; refine Tk 11 76 ?_; refine Tk 12 77 ?_; refine Tk 14 79 ?_; refine Tk 16 81 ?_; refine Tc 13 (fun K hK => ?_); go_simp; (go_at_call 11; refine (value_any kj.1 Je Jk je1 jk1 je2 jk2 v6 sw HSJ.out (LenT.few (by have := PJ.out.2.1; omega)) (by have := PJ.out.2.1; omega) RJ.out.tree).mono ?_); rintro e v7 ⟨rfl, hb9⟩; have HKc := Lib.hid (HKc.out.later hb9); have R := Lib.hid (RdT.later R.out hb9); have RX := Lib.hid (RX.out.later hb9)
        have RJ := Lib.hid (RJ.out.later hb9); have RI := Lib.hid (RI.out.later hb9); clear hb9; clear hHeld; refine Th hK ?_ (fun hHeld => ?_)
        ·exact ⟨HKc.out.c0, HKc.out.c1, HKc.out.c2, HKc.out.c3, HKc.out.c4, HKc.out.c5, HKc.out.c6, HKc.out.c7, HKc.out.t8.c0, HKc.out.t8.c1, HKc.out.t8.c2, HKc.out.t8.c3, HKc.out.t8.c4⟩
        clear hK K; refine Tc 15 (fun K hK => ?_); go_simp; (go_at_call 12; refine (refsum_any t Ae Ak ne nk ce ck v7 sv HT.out HSV.out (by have := N.out; omega) R.out).mono ?_); rintro e v8 ⟨rfl, hb9⟩; have HKc := Lib.hid (HKc.out.later hb9); have R := Lib.hid (RdT.later R.out hb9); have RX := Lib.hid (RX.out.later hb9); have RJ := Lib.hid (RJ.out.later hb9); have RI := Lib.hid (RI.out.later hb9); clear hb9; clear hHeld; refine Th hK ?_ (fun hHeld => ?_)
        ·exact ⟨HKc.out.c0, HKc.out.c1, HKc.out.c2, HKc.out.c3, HKc.out.c4, HKc.out.c5, HKc.out.c6, HKc.out.c7, HKc.out.t8.c0, HKc.out.t8.c1, HKc.out.t8.c2, HKc.out.t8.c3, HKc.out.t8.c4⟩
        clear hK K; refine Tk 17 82 ?_; refine Tk 18 83 ?_; refine Tk 19 84 ?_; refine Tk 20 85 ?_; refine Tk 21 86 ?_; refine Tk 22 87 ?_; refine Tc 23 (fun K hK => ?_); go_simp; (go_at_call 13; refine (sameK_any kj.1 ki.1 kj.2 ki.2 Je Jk Jc Ie Ik Ic je1 jk1 je2 jk2 jc1 jc2 ie1 ik1 ie2 ik2 ic1 ic2 v8 (by have := PJ.out.2.1; omega) RJ.out.len PJ.out.2.2 RJ.out.tree RJ.out.ctx (by have := PI.out.2.1; omega) RI.out.len PI.out.2.2 RI.out.tree RI.out.ctx).mono ?_); rw [show sameKB (kj.1, kj.2) (ki.1, ki.2) = true from same_true PJ.out.1.right EI.out]; rintro e v9 ⟨rfl, hb9⟩; have HKc := Lib.hid (HKc.out.later hb9); have R := Lib.hid (RdT.later R.out hb9); have RX := Lib.hid (RX.out.later hb9); have RJ := Lib.hid (RJ.out.later hb9); have RI := Lib.hid (RI.out.later hb9); clear hb9; clear hHeld; refine Th hK ?_ (fun hHeld => ?_)
        ·exact ⟨HKc.out.c0, HKc.out.c1, HKc.out.c2, HKc.out.c3, HKc.out.c4, HKc.out.c5, HKc.out.c6, HKc.out.c7, HKc.out.t8.c0, HKc.out.t8.c1, HKc.out.t8.c2, HKc.out.t8.c3, HKc.out.t8.c4⟩
        clear hK K; refine Tk 24 89 ?_; refine Tk 25 6 ?_; refine wpAnyH_done (by kernel_rfl) ?_ _; clear hHeld; go_wp2_with fail; go_ret; exact ⟨by first | rfl | simp, HKc.out.below⟩
set_option maxRecDepth 100000 in
theorem lifted (os : Os) (started : os.Started) (H : Type) (enc : TypeId × Value → H) :
  ReturnsInHanded {} Tryz.checked os 3 .any (Rows.counterTurnsSpec.pre6 enc Tryz.prog Tryz.f3 Rows.counterTurnsRow.domain false) (Rows.counterTurnsSpec.post enc Tryz.prog Tryz.f3 false true false false) := by
 refine returnsInHanded_of_change_sized (C := Tryz.checked) own started (by kernel_rfl) Tryz.func3
  (ChangeSpec.witness6 (enc := enc) (C := Tryz.checked) false ⟨#[], #[.agg #[.slice none 0 0, .slice none 0 0], .int .i64 0, .agg #[.int .i64 0, .int .i64 0]], []⟩ 8 (by kernel_rfl) (by kernel_rfl) (by kernel_rfl) (by kernel_rfl)) ?_
 intro W base args ds gs before hval0 hW _ hsz0 _; have hval : ∀ (j : Nat) t v, Tryz.f3.params[j]? = some t → args[j]? = some v → Value.okWide Tryz.prog W .any base t v := hval0; have hW' := hW; obtain ⟨p, q, hA0, hV, rfl, hfz, hnd⟩ := hW; have hA : DataW.TrodAll enc Tryz.prog W 0 (fun _ => true) true Tryz.f3.params.toList args.toList ds p := hA0; rw [Tryz.params3] at hA hval; obtain ⟨v0, v1, v2, d0, d1, d2, p0, p1, p2, rfl, rfl, rfl, h0, h1, h2⟩ := trodAll_three hA; obtain ⟨rfl, rfl⟩ := trodVars_none hV; have hsz : (DataW.weightsEach Tryz.prog (25 :: 2 :: 27 :: _) (d0 :: d1 :: d2 :: _)).all (· ≤ reachBytes) = true := hsz0; obtain ⟨hw0, hsz⟩ := Tr.weights_head hsz; obtain ⟨t0, ae0, ak0, ne0, nk0, ce0, ck0, rfl, hr0, hl0⟩ := Tr.treeV_of_trod (hval 0 25 v0 rfl rfl) h0 hw0
 obtain ⟨s1, rfl, rfl, rfl, hs1⟩ := open_int Tryz.underlying2 (hval 1 2 v1 rfl rfl) h1; obtain ⟨da2, dn2, rfl, _, _⟩ := Dt.dot_of_trod (hval 2 27 v2 rfl rfl) h2; refine (walk_any t0 ae0 ak0 ne0 nk0 ce0 ck0 s1 da2 dn2 W hr0 hl0 ).mono fun e W' ⟨he, hb⟩ => ?_; subst he; exact ⟨_, rfl, law_post hW' (by kernel_rfl) rfl rfl rfl hb⟩
theorem proved : Rows.CounterTurnsSaid :=
 OpenClaim.holds_of_wide 3 Tryz.f3 rfl rfl rfl rfl rfl rfl rfl ⟨rfl, rfl, rfl, rfl, rfl⟩ rfl rfl rfl rfl rfl (by kernel_rfl) Tryz.func3 (by kernel_rfl)
  (of_decide_eq_true (by kernel_rfl)) (by unfold Func.isWrapper; first | (rw [if_pos (by decide +kernel)]; kernel_rfl) | (rw [if_neg (by decide +kernel)]; exact ⟨rfl, rfl⟩))
  (fun os started H enc _ => lifted os started H enc)
#print axioms proved
end lawCounterTurns
end Go.Proofs.YtolanjimmbpijaaGreat
