/- SetWins: a law, walked, and proved. -/
import Derived.Test.YtemilfojnecldaaGreatG00
import Derived.Test.YtemilfojnecldaaGreatSetAwake
import Derived.Test.YtemilfojnecldaaGreatSetRef
import Derived.Test.YtemilfojnecldaaGreatSetSort
import Derived.Test.YtemilfojnecldaaGreatG90
import Derived.Test.YtemilfojnecldaaGreatDltRef
import Derived.Test.YtemilfojnecldaaGreatCauJoin
import Derived.Test.YtemilfojnecldaaGreatCauAll
import Derived.Test.YtemilfojnecldaaGreatCauOwnRef
import Derived.Test.YtemilfojnecldaaGreatG150
open Go.ChangeShapes Go.WideShapes Go.ChangeAt Go.RowKit
namespace Go.Proofs.YtemilfojnecldaaGreat
namespace lawSetWins
open Tr Cx Cs Sp Rw Classical
theorem elems_len (t : T) : (elemsT t).length ≤ nodes t := by
 unfold elemsT; rw [List.length_map]; refine Nat.le_trans (List.length_filter_le _ _) ?_; have h := nodes_es t.es t.ks; rw [T.eta] at h; omega
theorem isj_nodes {a b x : K} (h : IsJ a b x) : nodes x.1 ≤ nodes a.1 + nodes b.1 := by
 rw [h.tree]; exact joinT_nodes _ _ _ _ _
theorem boxL (w : World) (Ae Ak : Option Addr) (ne nk ce ck : Nat) (a n : Int) (b m : Int) : ∃ (W : World) (p q s : Nat), Hid (W = (((w.alloc (.cells #[.slice Ae ne ce, .slice Ak nk ck] 25)).alloc (.cells #[.int .i64 a, .int .i64 n] 27)).alloc (.cells #[.int .i64 b, .int .i64 m] 27))) ∧ Hid (p = w.heap.size) ∧ Hid (q = p + 1) ∧ Hid (s = q + 1) ∧ Hid (Kept [(⟨p, 0, none⟩, .slice Ae ne ce), (⟨p, 1, none⟩, .slice Ak nk ck), (⟨q, 0, none⟩, .int .i64 a), (⟨q, 1, none⟩, .int .i64 n), (⟨s, 0, none⟩, .int .i64 b), (⟨s, 1, none⟩, .int .i64 m)] w W) := by
 refine ⟨_, _, _, _, rfl, rfl, rfl, rfl, ?_⟩; have h0 := Kept.nil_of (show Below w.heap.size w ((((w.alloc (.cells #[.slice Ae ne ce, .slice Ak nk ck] 25)).alloc (.cells #[.int .i64 a, .int .i64 n] 27)).alloc (.cells #[.int .i64 b, .int .i64 m] 27))) from (((Below.refl _ _).alloc (Nat.le_refl _) _).alloc (by simp) _).alloc (by simp; omega) _)
 refine ((((((h0).cons_of ?_).cons_of ?_).cons_of ?_).cons_of ?_).cons_of ?_).cons_of ?_ <;> go_simp
set_option maxRecDepth 100000 in
set_option maxHeartbeats 4000000 in
theorem walk_any (t : T) (Ae Ak : Option Addr) (ne nk ce ck : Nat) (tx : ByteArray) (a n : Int) (b m : Int) (w : World) (hr : RdT w w.heap.size t ⟨Ae, ne, ce⟩ ⟨Ak, nk, ck⟩) (hl : LenT reachBytes t) :
  Calls Tryz.prog 7 #[.agg #[.slice Ae ne ce, .slice Ak nk ck], .string tx, .agg #[.int .i64 a, .int .i64 n], .agg #[.int .i64 b, .int .i64 m]] w fun e w' => e = .returned (.bool true) ∧ Below w.heap.size w w' := by
 obtain ⟨W, p, q, s, HW, HP, HQ, HS, HKc⟩ := boxL w Ae Ak ne nk ce ck a n b m; have R := Lib.hid (RdT.later hr HKc.out.below); have L := Lib.hid hl; clear hr hl; have c0 := HKc.out.c0; have c1 := HKc.out.c1; have c2 := HKc.out.c2; have c3 := HKc.out.c3; have c4 := HKc.out.c4; have c5 := HKc.out.c5; go_enter Tryz.func7, Tryz.ntmps7; go_wp2_with fail; rw [← HW.out, ← HP.out]
 try rw [← HQ.out]
 try rw [← HS.out]
 refine (awake11 W).mono ?_; rintro e v1 ⟨rfl, hb9⟩; have HKc := Lib.hid (HKc.out.later hb9); have R := Lib.hid (RdT.later R.out hb9); clear hb9; clear c0 c1 c2 c3 c4 c5; have c0 := HKc.out.c0; have c1 := HKc.out.c1; have c2 := HKc.out.c2; have c3 := HKc.out.c3; have c4 := HKc.out.c4; have c5 := HKc.out.c5; go_wp2_with fail; refine (small_tree t Ae Ak ne nk ce ck v1 L.out R.out).mono ?_; rintro e v2 ⟨b9, rfl, hsm, hb9⟩; have HKc := Lib.hid (HKc.out.later hb9); have R := Lib.hid (RdT.later R.out hb9); clear hb9; clear c0 c1 c2 c3 c4 c5
 cases b9 with
 | false =>
  clear hsm; go_wp2_with fail; refine (awake11 _).mono ?_; rintro e v99 ⟨rfl, hb9⟩; have HKc := Lib.hid (HKc.out.later hb9); clear hb9; go_wp2_with fail; go_ret; exact ⟨by first | rfl | simp, HKc.out.below⟩
 | true =>
  have N : Hid (nodes t ≤ 60) := hsm rfl; clear hsm
  by_cases hab : a = b ∧ n = m
  ·obtain ⟨rfl, rfl⟩ := hab
   have c0 := HKc.out.c0; have c1 := HKc.out.c1; have c2 := HKc.out.c2; have c3 := HKc.out.c3; have c4 := HKc.out.c4; have c5 := HKc.out.c5; go_wp2_with fail; refine (awake11 _).mono ?_; rintro e v99 ⟨rfl, hb9⟩; have HKc := Lib.hid (HKc.out.later hb9); clear hb9; go_wp2_with fail; go_ret; exact ⟨by first | rfl | simp, HKc.out.below⟩
  ·have hf : ((a == b) = false) ∨ ((a == b) = true ∧ (n == m) = false) := by
    by_cases h : a = b
    ·exact .inr ⟨by simpa using h, by simpa using fun h2 => hab ⟨h, h2⟩⟩
    ·exact .inl (by simpa using h)
   have HNE : Hid (¬ (a = b ∧ n = m)) := hab; clear hab
   rcases hf with f1 | ⟨f1, f2⟩ <;> (
    obtain ⟨y, hy9⟩ : ∃ y, mayB t tx a n = y := ⟨_, rfl⟩; have HY := Lib.hid hy9; clear hy9; have c0 := HKc.out.c0; have c1 := HKc.out.c1; have c2 := HKc.out.c2; have c3 := HKc.out.c3; have c4 := HKc.out.c4; have c5 := HKc.out.c5; go_wp2_with fail; refine (may_any t Ae Ak ne nk ce ck tx a n v2 y HY.out L.out (by have := N.out; omega) R.out).mono ?_; rintro e v3 ⟨rfl, hb9⟩; have HKc := Lib.hid (HKc.out.later hb9); have R := Lib.hid (RdT.later R.out hb9); clear hb9; clear c0 c1 c2 c3 c4 c5
    cases y with
    | false =>
     go_wp2_with fail; refine (awake11 _).mono ?_; rintro e v99 ⟨rfl, hb9⟩; have HKc := Lib.hid (HKc.out.later hb9); clear hb9; go_wp2_with fail; go_ret; exact ⟨by first | rfl | simp, HKc.out.below⟩
    | true =>
     obtain ⟨y2, hy29⟩ : ∃ y2, mayB t tx b m = y2 := ⟨_, rfl⟩; have HY2 := Lib.hid hy29; clear hy29; have c0 := HKc.out.c0; have c1 := HKc.out.c1; have c2 := HKc.out.c2; have c3 := HKc.out.c3; have c4 := HKc.out.c4; have c5 := HKc.out.c5; go_wp2_with fail; refine (may_any t Ae Ak ne nk ce ck tx b m v3 y2 HY2.out L.out (by have := N.out; omega) R.out).mono ?_; rintro e v4 ⟨rfl, hb9⟩; have HKc := Lib.hid (HKc.out.later hb9); have R := Lib.hid (RdT.later R.out hb9); clear hb9; clear c0 c1 c2 c3 c4 c5
     cases y2 with
     | false =>
      go_wp2_with fail; refine (awake11 _).mono ?_; rintro e v99 ⟨rfl, hb9⟩; have HKc := Lib.hid (HKc.out.later hb9); clear hb9; go_wp2_with fail; go_ret; exact ⟨by first | rfl | simp, HKc.out.below⟩
     | true =>
      have HMY : Hid (mayB t tx a n = true) := HY.out; have HCK : Hid (checkB t a n = true) := (may_iff.1 HMY.out).1; have HKY : Hid (KeyOk tx) := (may_iff.1 HMY.out).2; have HT : Hid (RightT 5 t) := (check_iff.1 HCK.out).1; have HD : Hid (Dt.rightB a n = true) := (check_iff.1 HCK.out).2.1
      have HLK : Hid (t.ks.length = nk) := by
       have h := R.out; rw [← T.eta t] at h; exact (rd_lens h).2
      have HCK2 : Hid (checkB t b m = true) := (may_iff.1 HY2.out).1; have HD2 : Hid (Dt.rightB b m = true) := (check_iff.1 HCK2.out).2.1
      by_cases h24 : 24 ≤ nk
      ·have f24 : decide ((24 : Int) ≤ (nk : Int)) = true := decide_eq_true (by omega)
       have c0 := HKc.out.c0; have c1 := HKc.out.c1; have c2 := HKc.out.c2; have c3 := HKc.out.c3; have c4 := HKc.out.c4; have c5 := HKc.out.c5; go_wp2_with fail; refine (awake11 _).mono ?_; rintro e v99 ⟨rfl, hb9⟩; have HKc := Lib.hid (HKc.out.later hb9); clear hb9; go_wp2_with fail; go_ret; exact ⟨by first | rfl | simp, HKc.out.below⟩
      ·have f24 : decide ((24 : Int) ≤ (nk : Int)) = false := decide_eq_false (by omega)
       have HRM : Hid (roomB t tx = true) := by unfold Hid roomB; rw [decide_eq_true (p := t.ks.length < 24) (by rw [HLK.out]; omega)]; rfl
       obtain ⟨u, hu1, hu2⟩ := some_of HT.out L.out (by have := N.out; omega) R.out; obtain ⟨m9, hm9⟩ : ∃ m9, u.length = m9 := ⟨_, rfl⟩; have HU : Hid (OfC (dl t) u ∧ u.length = m9 ∧ m9 ≤ 240) := ⟨hu1, hm9, by have := N.out; omega⟩; clear hu1 hu2 hm9; obtain ⟨u8, hu1, hu2⟩ := some_kid HT.out tx (by have := N.out; omega) R.out; obtain ⟨m8, hm9⟩ : ∃ m9, u8.length = m9 := ⟨_, rfl⟩; have H8 : Hid (OfC (dl (kidAt t.ks tx)) u8 ∧ u8.length = m8 ∧ m8 ≤ 240) := ⟨hu1, hm9, by have := N.out; omega⟩; clear hu1 hu2 hm9; have JT : Hid (RK (t, u)) := known_right HT.out HU.out.1; have c0 := HKc.out.c0; have c1 := HKc.out.c1; have c2 := HKc.out.c2; have c3 := HKc.out.c3; have c4 := HKc.out.c4; have c5 := HKc.out.c5; go_wp2_with fail; refine (sadd_any t Ae Ak ne nk ce ck tx a n v4 L.out (by have := N.out; omega) R.out).mono ?_; rintro e v5 ⟨kx, zx, Xe, xe1, xe2, Xk, xk1, xk2, Xc, xc1, xc2, rfl, how, hz, hb9⟩
       have HKc := Lib.hid (HKc.out.later hb9); have R := Lib.hid (RdT.later R.out hb9); clear hb9; clear c0 c1 c2 c3 c4 c5; have RX := Lib.hid (RdP.of_own how.out); have ZX := Lib.hid hz.out; clear how hz; obtain ⟨rfl, hk1, hna, u2, hu2, hpv⟩ := ZX.out.1 (by rw [HMY.out, HRM.out]; rfl); have KX : Hid (kx.1 = wrapT (oneT ⟨a, n, ⟨#[]⟩, 0⟩) [tx]) := hk1
       have BX : Hid (xc1 ≤ 244) := by have := N.out; unfold Hid; omega
       have VX : Hid (PutC uniF u8 (oneC a n) kx.2) := by unfold Hid; rw [← hu2.eq H8.out.1]; exact hpv
       clear hk1 hna hu2 hpv
       have JX : Hid (RK kx) := by
        have h := right_wrapK (e := ⟨a, n, ⟨#[]⟩, 0⟩) (s := tx) (c := kx.2) (flag_e HD.out) HKY.out VX.out.right (uni_self H8.out.1.right HD.out VX.out); rw [← KX.out] at h; exact h
       obtain ⟨g, hg⟩ : ∃ g, g = v5.heap.size := ⟨_, rfl⟩; obtain ⟨v6, hv6⟩ : ∃ W, W = v5.alloc (.cells #[.slice Xe xe1 xe2, .slice Xk xk1 xk2, .slice Xc xc1 xc2] 33) := ⟨_, rfl⟩
       have hb9 : Below v5.heap.size v5 v6 := by rw [hv6]; exact Dt.box_below _ _ _
       have b0 : v6.cell? ⟨g, 0, none⟩ = some (.slice Xe xe1 xe2) := by rw [hv6, hg]; go_simp
       have b1 : v6.cell? ⟨g, 1, none⟩ = some (.slice Xk xk1 xk2) := by rw [hv6, hg]; go_simp
       have b2 : v6.cell? ⟨g, 2, none⟩ = some (.slice Xc xc1 xc2) := by rw [hv6, hg]; go_simp
       have HKc := Lib.hid (HKc.out.later hb9); have R := Lib.hid (RdT.later R.out hb9); have RX := Lib.hid (RX.out.later hb9); clear hb9; have HKc := Lib.hid (((HKc.out.cons_of b2).cons_of b1).cons_of b0); have Hg := Lib.hid hg; have Hv6 := Lib.hid hv6; clear hg hv6 b0 b1 b2; have c0 := HKc.out.c0; have c1 := HKc.out.c1; have c2 := HKc.out.c2; have c3 := HKc.out.c3; have c4 := HKc.out.c4; have c5 := HKc.out.c5; have c6 := HKc.out.c6; have c7 := HKc.out.c7; have c8 := HKc.out.t8.c0; rw [Hv6.out] at c0 c1 c2 c3 c4 c5 c6 c7 c8; rw [Hg.out] at c0 c1 c2; go_wp2_with fail; rw [← Hg.out, ← Hv6.out]; refine (sdel_any t Ae Ak ne nk ce ck tx b m v6 L.out (by have := N.out; omega) R.out).mono ?_; rintro e v7 ⟨kd, zd, De, de1, de2, Dk, dk1, dk2, Dc, dc1, dc2, rfl, how, hz, hb9⟩; have HKc := Lib.hid (HKc.out.later hb9); have R := Lib.hid (RdT.later R.out hb9); have RX := Lib.hid (RX.out.later hb9); clear hb9
       clear c0 c1 c2 c3 c4 c5 c6 c7 c8; have RD := Lib.hid (RdP.of_own how.out); have ZD := Lib.hid hz.out; clear how hz; obtain ⟨rfl, hk1, hna, u2, hu2, hpv⟩ := ZD.out.1 (HY2.out); have KD : Hid (kd.1 = none_) := hk1
       have BD : Hid (dc1 ≤ 244) := by have := N.out; unfold Hid; omega
       have VD : Hid (PutC uniF u8 (oneC b m) kd.2) := by unfold Hid; rw [← hu2.eq H8.out.1]; exact hpv
       clear hk1 hna hu2 hpv
       have JD : Hid (RK kd) := by
        have h := right_gone VD.out.right; rw [← KD.out] at h; exact h
       obtain ⟨h, hh⟩ : ∃ g, g = v7.heap.size := ⟨_, rfl⟩; obtain ⟨v8, hv8⟩ : ∃ W, W = v7.alloc (.cells #[.slice De de1 de2, .slice Dk dk1 dk2, .slice Dc dc1 dc2] 33) := ⟨_, rfl⟩
       have hb9 : Below v7.heap.size v7 v8 := by rw [hv8]; exact Dt.box_below _ _ _
       have b0 : v8.cell? ⟨h, 0, none⟩ = some (.slice De de1 de2) := by rw [hv8, hh]; go_simp
       have b1 : v8.cell? ⟨h, 1, none⟩ = some (.slice Dk dk1 dk2) := by rw [hv8, hh]; go_simp
       have b2 : v8.cell? ⟨h, 2, none⟩ = some (.slice Dc dc1 dc2) := by rw [hv8, hh]; go_simp
       have HKc := Lib.hid (HKc.out.later hb9); have R := Lib.hid (RdT.later R.out hb9); have RX := Lib.hid (RX.out.later hb9); have RD := Lib.hid (RD.out.later hb9); clear hb9; have HKc := Lib.hid (((HKc.out.cons_of b2).cons_of b1).cons_of b0); have Hh := Lib.hid hh; have Hv8 := Lib.hid hv8; clear hh hv8 b0 b1 b2
       have HSUM : ∀ (B9 : Option Addr) (d9 : Nat), Hid (sumN [⟨(t, u), ⟨Ae, ne, ce⟩, ⟨Ak, nk, ck⟩, ⟨B9, m9, d9⟩⟩, ⟨kx, ⟨Xe, xe1, xe2⟩, ⟨Xk, xk1, xk2⟩, ⟨Xc, xc1, xc2⟩⟩, ⟨kd, ⟨De, de1, de2⟩, ⟨Dk, dk1, dk2⟩, ⟨Dc, dc1, dc2⟩⟩] ≤ 1000 ∧ sumC [⟨(t, u), ⟨Ae, ne, ce⟩, ⟨Ak, nk, ck⟩, ⟨B9, m9, d9⟩⟩, ⟨kx, ⟨Xe, xe1, xe2⟩, ⟨Xk, xk1, xk2⟩, ⟨Xc, xc1, xc2⟩⟩, ⟨kd, ⟨De, de1, de2⟩, ⟨Dk, dk1, dk2⟩, ⟨Dc, dc1, dc2⟩⟩] ≤ 1000) := fun B9 d9 => by
        have h1 := N.out; have h2 := HU.out.2.2; have hbx := BX.out
        have hnx : nodes kx.1 ≤ 2 := by rw [KX.out, Cs.nodes_wrap, nodes_one]; simp
        have hbd := BD.out
        have hnd : nodes kd.1 ≤ 2 := by rw [KD.out, nodes_none]; omega
        unfold Hid; simp only [sumN, sumC, List.map_cons, List.map_nil, List.sum_cons, List.sum_nil]; omega
       have c0 := HKc.out.c0; have c1 := HKc.out.c1; have c2 := HKc.out.c2; have c3 := HKc.out.c3; have c4 := HKc.out.c4; have c5 := HKc.out.c5; have c6 := HKc.out.c6; have c7 := HKc.out.c7; have c8 := HKc.out.t8.c0; have c9 := HKc.out.t8.c1; have c10 := HKc.out.t8.c2; have c11 := HKc.out.t8.c3; rw [Hv8.out] at c0 c1 c2 c3 c4 c5 c6 c7 c8 c9 c10 c11; rw [Hh.out] at c0 c1 c2; go_wp2_with fail; rw [← Hh.out, ← Hv8.out]; clear c0 c1 c2 c3 c4 c5 c6 c7 c8 c9 c10 c11
       go_cut [13, 14] (fun s9 e9 wx => ∃ (g9 : Nat) (p9 : CP), s9 = .pointer (some ⟨g9, 0, none⟩) ∧ e9 = .int .i64 0 ∧ Hid (MidJ v8 g9 p9 wx) ∧ Hid (AllJ [(t, u), kx, kd] p9.k ∧ nodes p9.k.1 ≤ 1000 ∧ p9.c.n ≤ 1000))
       case first =>
        refine wp_region_held_drew (S := fun W => W.cell? ⟨h, 0, none⟩ = some (.slice De de1 de2) ∧ W.cell? ⟨h, 1, none⟩ = some (.slice Dk dk1 dk2) ∧ W.cell? ⟨h, 2, none⟩ = some (.slice Dc dc1 dc2) ∧ W.cell? ⟨g, 0, none⟩ = some (.slice Xe xe1 xe2) ∧ W.cell? ⟨g, 1, none⟩ = some (.slice Xk xk1 xk2) ∧ W.cell? ⟨g, 2, none⟩ = some (.slice Xc xc1 xc2) ∧ W.cell? ⟨p, 0, none⟩ = some (.slice Ae ne ce) ∧ W.cell? ⟨p, 1, none⟩ = some (.slice Ak nk ck) ∧ W.cell? ⟨q, 0, none⟩ = some (.int .i64 a) ∧ W.cell? ⟨q, 1, none⟩ = some (.int .i64 n) ∧ W.cell? ⟨s, 0, none⟩ = some (.int .i64 b) ∧ W.cell? ⟨s, 1, none⟩ = some (.int .i64 m)) (by kernel_rfl) (by have h9 := HKc.out.drew; exact ⟨h9.c0, h9.c1, h9.c2, h9.c3, h9.c4, h9.c5, h9.c6, h9.c7, h9.t8.c0, h9.t8.c1, h9.t8.c2, h9.t8.c3⟩) (fun hHeld => ?_); obtain ⟨v9, hv9⟩ : ∃ v, v = v8.drew := ⟨_, rfl⟩
        have hb9 : Below v8.heap.size v8 v9 := by rw [hv9]; exact (Below.refl _ _).drew
        have HKc := Lib.hid (HKc.out.later hb9); have R := Lib.hid (RdT.later R.out hb9); have RX := Lib.hid (RX.out.later hb9); have RD := Lib.hid (RD.out.later hb9); clear hb9; have HBV9 : Hid (v8.drew = v9) := hv9.symm; rw [← hv9] at hHeld ⊢; clear hv9
        have HBV : Hid (Below v8.heap.size v8 v9) := by unfold Hid; rw [← HBV9.out]; exact (Below.refl _ _).drew
        clear HBV9; refine Tk 0 65 ?_; refine Tk 2 67 ?_; refine Tk 3 68 ?_; refine wpAnyH_ready (rs := [1, 9]) (by kernel_rfl) (by simp) ?_; refine AllReadyH.cons (o := ⟨some 66, _, _, _, _, _⟩) rfl (fun K hK => ?_) (AllReadyH.cons (o := ⟨some 13, _, _, _, _, _⟩) rfl (fun K hK => ?_) (AllReadyH.nil))
        ·go_simp
         (go_at_call 27; refine (refknown_any t Ae Ak ne nk ce ck u m9 v9 HT.out (by have := N.out; omega) R.out HU.out.1 HU.out.2.1 (by have := HU.out.2.2; omega)).mono ?_); rintro e v10 ⟨B9, d9, rfl, hro, hb9⟩; have RK9 : Hid (RdP v10 ⟨(t, u), ⟨Ae, ne, ce⟩, ⟨Ak, nk, ck⟩, ⟨B9, m9, d9⟩⟩) := ⟨RdT.later R.out hb9, HU.out.2.1, hro.rd⟩; clear hro; have HKc := Lib.hid (HKc.out.later hb9); have R := Lib.hid (RdT.later R.out hb9); have RX := Lib.hid (RX.out.later hb9); have RD := Lib.hid (RD.out.later hb9); have HBV := Lib.hid (HBV.out.trans (hb9.mono HBV.out.size)); clear hb9; have HSUM := HSUM B9 d9; clear hHeld; refine Th hK ?_ (fun hHeld => ?_)
         ·exact ⟨HKc.out.c0, HKc.out.c1, HKc.out.c2, HKc.out.c3, HKc.out.c4, HKc.out.c5, HKc.out.c6, HKc.out.c7, HKc.out.t8.c0, HKc.out.t8.c1, HKc.out.t8.c2, HKc.out.t8.c3⟩
         clear hK K; refine wpAnyH_ready (rs := [4, 9]) (by kernel_rfl) (by simp) ?_; refine AllReadyH.cons (o := ⟨some 69, _, _, _, _, _⟩) rfl (fun K hK => ?_) (AllReadyH.cons (o := ⟨some 13, _, _, _, _, _⟩) rfl (fun K hK => ?_) (AllReadyH.nil))
         ·go_simp
          clear hHeld; refine Th hK ?_ (fun hHeld => ?_)
          ·exact ⟨(HKc.out.alloc _).c0, (HKc.out.alloc _).c1, (HKc.out.alloc _).c2, (HKc.out.alloc _).c3, (HKc.out.alloc _).c4, (HKc.out.alloc _).c5, (HKc.out.alloc _).c6, (HKc.out.alloc _).c7, (HKc.out.alloc _).t8.c0, (HKc.out.alloc _).t8.c1, (HKc.out.alloc _).t8.c2, (HKc.out.alloc _).t8.c3⟩
          clear hK K; obtain ⟨gr, hgr⟩ : ∃ g, g = v10.heap.size := ⟨_, rfl⟩; obtain ⟨v11, hv11⟩ : ∃ W, W = v10.alloc (.cells #[.slice Ae ne ce, .slice Ak nk ck, .slice B9 m9 d9, .slice Xe xe1 xe2, .slice Xk xk1 xk2, .slice Xc xc1 xc2, .slice De de1 de2, .slice Dk dk1 dk2, .slice Dc dc1 dc2] 33) := ⟨_, rfl⟩
          have hb9 : Below v10.heap.size v10 v11 := by rw [hv11]; exact Dt.box_below _ _ _
          have hrow := rd_rowP v10 [⟨(t, u), ⟨Ae, ne, ce⟩, ⟨Ak, nk, ck⟩, ⟨B9, m9, d9⟩⟩, ⟨kx, ⟨Xe, xe1, xe2⟩, ⟨Xk, xk1, xk2⟩, ⟨Xc, xc1, xc2⟩⟩, ⟨kd, ⟨De, de1, de2⟩, ⟨Dk, dk1, dk2⟩, ⟨Dc, dc1, dc2⟩⟩] #[.slice Ae ne ce, .slice Ak nk ck, .slice B9 m9 d9, .slice Xe xe1 xe2, .slice Xk xk1 xk2, .slice Xc xc1 xc2, .slice De de1 de2, .slice Dk dk1 dk2, .slice Dc dc1 dc2] 3 rfl rfl; rw [← hv11, ← hgr] at hrow; have HKc := Lib.hid (HKc.out.later hb9); have R := Lib.hid (RdT.later R.out hb9); have RX := Lib.hid (RX.out.later hb9); have RD := Lib.hid (RD.out.later hb9); have HBV := Lib.hid (HBV.out.trans (hb9.mono HBV.out.size)); have RK9 := Lib.hid (RK9.out.later hb9)
          have RW : Hid (RowP v11 (some ⟨gr, 0, none⟩) 3 3 [⟨(t, u), ⟨Ae, ne, ce⟩, ⟨Ak, nk, ck⟩, ⟨B9, m9, d9⟩⟩, ⟨kx, ⟨Xe, xe1, xe2⟩, ⟨Xk, xk1, xk2⟩, ⟨Xc, xc1, xc2⟩⟩, ⟨kd, ⟨De, de1, de2⟩, ⟨Dk, dk1, dk2⟩, ⟨Dc, dc1, dc2⟩⟩]) := ⟨hrow.more (by rw [hv11, hgr]; simp), rfl, fun p hp => by
           simp at hp
           rcases hp with rfl | rfl | rfl
           ·exact RK9.out
           ·exact RX.out
           ·exact RD.out⟩
          (try rw [← hv11] at hHeld); rw [← hv11]; rw [← hgr]; clear hgr hv11 hb9 hrow; refine wpAnyH_ready (rs := [5, 9]) (by kernel_rfl) (by simp) ?_; refine AllReadyH.cons (o := ⟨some 70, _, _, _, _, _⟩) rfl (fun K hK => ?_) (AllReadyH.cons (o := ⟨some 13, _, _, _, _, _⟩) rfl (fun K hK => ?_) (AllReadyH.nil))
          ·go_simp
           (go_at_call 29; refine (joinAllE_sum 3 [⟨(t, u), ⟨Ae, ne, ce⟩, ⟨Ak, nk, ck⟩, ⟨B9, m9, d9⟩⟩, ⟨kx, ⟨Xe, xe1, xe2⟩, ⟨Xk, xk1, xk2⟩, ⟨Xc, xc1, xc2⟩⟩, ⟨kd, ⟨De, de1, de2⟩, ⟨Dk, dk1, dk2⟩, ⟨Dc, dc1, dc2⟩⟩] (some ⟨gr, 0, none⟩) 3 v11 (by omega) RW.out HSUM.out).mono ?_); rintro e v12 ⟨kj, z9, hj, _, Je, je1, je2, Jk, jk1, jk2, Jc, jc1, jc2, rfl, how, hb9⟩
           obtain ⟨rfl, hall, hnn, hnc⟩ := hj (fun p hp => by
            simp at hp
            rcases hp with rfl | rfl | rfl
            ·exact JT.out
            ·exact JX.out
            ·exact JD.out)
           have HP : Hid (AllJ [(t, u), kx, kd] kj ∧ nodes kj.1 ≤ 1000 ∧ jc1 ≤ 1000) := ⟨hall, Nat.le_trans hnn HSUM.out.1, by rw [← how.len]; exact Nat.le_trans hnc HSUM.out.2⟩; have HN : Hid (NoC v12 (fun _ => True) ⟨kj, ⟨Je, je1, je2⟩, ⟨Jk, jk1, jk2⟩, ⟨Jc, jc1, jc2⟩⟩) := NoC.of_own how (fun b hb _ => trivial); clear hj hall hnn hnc how; have HKc := Lib.hid (HKc.out.later hb9); have R := Lib.hid (RdT.later R.out hb9); have RX := Lib.hid (RX.out.later hb9); have RD := Lib.hid (RD.out.later hb9); have HBV := Lib.hid (HBV.out.trans (hb9.mono HBV.out.size)); have RK9 := Lib.hid (RK9.out.later hb9); have RW := Lib.hid (RW.out.later hb9); clear hb9; clear hHeld; refine Th hK ?_ (fun hHeld => ?_)
           ·exact ⟨HKc.out.c0, HKc.out.c1, HKc.out.c2, HKc.out.c3, HKc.out.c4, HKc.out.c5, HKc.out.c6, HKc.out.c7, HKc.out.t8.c0, HKc.out.t8.c1, HKc.out.t8.c2, HKc.out.t8.c3⟩
           clear hK K; refine Tk 6 64 ?_; refine Tk 7 71 ?_; refine Tk 8 72 ?_; refine Tc 9 (fun K hK => ?_); go_simp; clear hHeld; refine Th hK ?_ (fun hHeld => ?_)
           ·exact ⟨(HKc.out.alloc _).c0, (HKc.out.alloc _).c1, (HKc.out.alloc _).c2, (HKc.out.alloc _).c3, (HKc.out.alloc _).c4, (HKc.out.alloc _).c5, (HKc.out.alloc _).c6, (HKc.out.alloc _).c7, (HKc.out.alloc _).t8.c0, (HKc.out.alloc _).t8.c1, (HKc.out.alloc _).t8.c2, (HKc.out.alloc _).t8.c3⟩
           clear hK K; obtain ⟨gj, hgj⟩ : ∃ g, g = v12.heap.size := ⟨_, rfl⟩; obtain ⟨v13, hv13⟩ : ∃ W, W = v12.alloc (.cells #[.slice none 0 0, .slice none 0 0, .slice none 0 0] 33) := ⟨_, rfl⟩
           have hb9 : Below v12.heap.size v12 v13 := by rw [hv13]; exact Dt.box_below _ _ _
           have hvg : v8.heap.size ≤ gj := by rw [hgj]; exact HBV.out.size
           have hwg : w.heap.size ≤ gj := by rw [hgj]; exact HKc.out.below.size
           have hnh : h ≠ gj := by have h := World.block_lt_of_cell? v12 _ HKc.out.c0; dsimp only at h; omega
           have hng : g ≠ gj := by have h := World.block_lt_of_cell? v12 _ HKc.out.c3; dsimp only at h; omega
           have hnp : p ≠ gj := by have h := World.block_lt_of_cell? v12 _ HKc.out.c6; dsimp only at h; omega
           have hnq : q ≠ gj := by have h := World.block_lt_of_cell? v12 _ HKc.out.t8.c0; dsimp only at h; omega
           have hns : s ≠ gj := by have h := World.block_lt_of_cell? v12 _ HKc.out.t8.c2; dsimp only at h; omega
           have b0 : v13.cell? ⟨gj, 0, none⟩ = some (.slice none 0 0) := by rw [hv13, hgj]; go_simp
           have b1 : v13.cell? ⟨gj, 1, none⟩ = some (.slice none 0 0) := by rw [hv13, hgj]; go_simp
           have b2 : v13.cell? ⟨gj, 2, none⟩ = some (.slice none 0 0) := by rw [hv13, hgj]; go_simp
           have HN := Lib.hid (HN.out.mono (ok' := fun b => b ≠ gj) (fun b _ hlt => by omega)); have HKc := Lib.hid (HKc.out.later hb9); have R := Lib.hid (RdT.later R.out hb9); have RX := Lib.hid (RX.out.later hb9); have RD := Lib.hid (RD.out.later hb9); have HBV := Lib.hid (HBV.out.trans (hb9.mono HBV.out.size)); have RK9 := Lib.hid (RK9.out.later hb9); have RW := Lib.hid (RW.out.later hb9); have HN := Lib.hid (HN.out.later hb9); have HZ : Hid (Kept [(⟨gj, 0, none⟩, .slice none 0 0), (⟨gj, 1, none⟩, .slice none 0 0), (⟨gj, 2, none⟩, .slice none 0 0)] v8 v13) := (((Kept.nil_of HBV.out).cons_of b2).cons_of b1).cons_of b0; have HF : Hid (Free gj v13) := ⟨by rw [hv13, hgj]; simp, fun j => by rw [hv13, hgj]; go_simp⟩; have hlt9 : gj < v13.heap.size := HF.out.1; (try rw [← hv13] at hHeld); rw [← hv13]; rw [← hgj]; clear hgj hv13 hb9 b0 b1 b2; have z0 := HZ.out.c0; have z1 := HZ.out.c1; have z2 := HZ.out.c2
           have m0 := HF.out.2 0; have m1 := HF.out.2 1; have m2 := HF.out.2 2; refine Tc 10 (fun K hK => ?_); go_simp; refine Th hK ?_ (fun hHeld2 => ?_)
           ·(try dsimp only)
            have h9 := HKc.out
            have h9 := h9.set (a := ⟨gj, 0, none⟩) hwg (fun x hx => by simp at hx; rcases hx with rfl | rfl | rfl | rfl | rfl | rfl | rfl | rfl | rfl | rfl | rfl | rfl <;> (dsimp only; omega)) (.slice Je je1 je2)
            have h9 := h9.set (a := ⟨gj, 1, none⟩) hwg (fun x hx => by simp at hx; rcases hx with rfl | rfl | rfl | rfl | rfl | rfl | rfl | rfl | rfl | rfl | rfl | rfl <;> (dsimp only; omega)) (.slice Jk jk1 jk2)
            have h9 := h9.set (a := ⟨gj, 2, none⟩) hwg (fun x hx => by simp at hx; rcases hx with rfl | rfl | rfl | rfl | rfl | rfl | rfl | rfl | rfl | rfl | rfl | rfl <;> (dsimp only; omega)) (.slice Jc jc1 jc2)
            exact ⟨h9.c0, h9.c1, h9.c2, h9.c3, h9.c4, h9.c5, h9.c6, h9.c7, h9.t8.c0, h9.t8.c1, h9.t8.c2, h9.t8.c3⟩
           clear hK K hHeld; have hHeld := hHeld2; clear hHeld2; refine Tk 11 14 ?_; refine wpAnyH_done (by kernel_rfl) ?_ _; clear hHeld
           have HMID : Hid (MidJ v8 gj ⟨kj, ⟨Je, je1, je2⟩, ⟨Jk, jk1, jk2⟩, ⟨Jc, jc1, jc2⟩⟩ (((v13.setCell ⟨gj, 0, none⟩ (.slice Je je1 je2)).setCell ⟨gj, 1, none⟩ (.slice Jk jk1 jk2)).setCell ⟨gj, 2, none⟩ (.slice Jc jc1 jc2))) := by
            obtain ⟨W9, hW9⟩ : ∃ W, W = (((v13.setCell ⟨gj, 0, none⟩ (.slice Je je1 je2)).setCell ⟨gj, 1, none⟩ (.slice Jk jk1 jk2)).setCell ⟨gj, 2, none⟩ (.slice Jc jc1 jc2)) := ⟨_, rfl⟩; rw [← hW9]
            have hb : Below v8.heap.size v8 W9 := by
             rw [hW9]; exact (((HBV.out.setCell (p := ⟨gj, 0, none⟩) hvg _).setCell (p := ⟨gj, 1, none⟩) hvg _).setCell (p := ⟨gj, 2, none⟩) hvg _)
            refine ⟨(HN.out.keep (by rw [hW9, cells3]; exact Nat.le_refl _) (fun b hb _ => by rw [hW9]; exact cells3_at b hb)).rd, ?_⟩
            refine (((Kept.nil_of hb).cons_of ?_).cons_of ?_).cons_of ?_ <;> (rw [hW9]; go_simp)
           clear z0 z1 z2 m0 m1 m2; go_wp2_with fail; go_meet; exact ⟨gj, ⟨kj, ⟨Je, je1, je2⟩, ⟨Jk, jk1, jk2⟩, ⟨Jc, jc1, jc2⟩⟩, rfl, rfl, HMID.out, HP.out⟩
          ·go_simp
           clear hHeld; refine Th hK ?_ (fun hHeld => ?_)
           ·exact ⟨(HKc.out.alloc _).c0, (HKc.out.alloc _).c1, (HKc.out.alloc _).c2, (HKc.out.alloc _).c3, (HKc.out.alloc _).c4, (HKc.out.alloc _).c5, (HKc.out.alloc _).c6, (HKc.out.alloc _).c7, (HKc.out.alloc _).t8.c0, (HKc.out.alloc _).t8.c1, (HKc.out.alloc _).t8.c2, (HKc.out.alloc _).t8.c3⟩
           clear hK K; obtain ⟨gj, hgj⟩ : ∃ g, g = v11.heap.size := ⟨_, rfl⟩; obtain ⟨v12, hv12⟩ : ∃ W, W = v11.alloc (.cells #[.slice none 0 0, .slice none 0 0, .slice none 0 0] 33) := ⟨_, rfl⟩
           have hb9 : Below v11.heap.size v11 v12 := by rw [hv12]; exact Dt.box_below _ _ _
           have hvg : v8.heap.size ≤ gj := by rw [hgj]; exact HBV.out.size
           have hwg : w.heap.size ≤ gj := by rw [hgj]; exact HKc.out.below.size
           have hnh : h ≠ gj := by have h := World.block_lt_of_cell? v11 _ HKc.out.c0; dsimp only at h; omega
           have hng : g ≠ gj := by have h := World.block_lt_of_cell? v11 _ HKc.out.c3; dsimp only at h; omega
           have hnp : p ≠ gj := by have h := World.block_lt_of_cell? v11 _ HKc.out.c6; dsimp only at h; omega
           have hnq : q ≠ gj := by have h := World.block_lt_of_cell? v11 _ HKc.out.t8.c0; dsimp only at h; omega
           have hns : s ≠ gj := by have h := World.block_lt_of_cell? v11 _ HKc.out.t8.c2; dsimp only at h; omega
           have b0 : v12.cell? ⟨gj, 0, none⟩ = some (.slice none 0 0) := by rw [hv12, hgj]; go_simp
           have b1 : v12.cell? ⟨gj, 1, none⟩ = some (.slice none 0 0) := by rw [hv12, hgj]; go_simp
           have b2 : v12.cell? ⟨gj, 2, none⟩ = some (.slice none 0 0) := by rw [hv12, hgj]; go_simp
           have HKc := Lib.hid (HKc.out.later hb9); have R := Lib.hid (RdT.later R.out hb9); have RX := Lib.hid (RX.out.later hb9); have RD := Lib.hid (RD.out.later hb9); have HBV := Lib.hid (HBV.out.trans (hb9.mono HBV.out.size)); have RK9 := Lib.hid (RK9.out.later hb9); have RW := Lib.hid (RW.out.later hb9); have HZ : Hid (Kept [(⟨gj, 0, none⟩, .slice none 0 0), (⟨gj, 1, none⟩, .slice none 0 0), (⟨gj, 2, none⟩, .slice none 0 0)] v8 v12) := (((Kept.nil_of HBV.out).cons_of b2).cons_of b1).cons_of b0; have HF : Hid (Free gj v12) := ⟨by rw [hv12, hgj]; simp, fun j => by rw [hv12, hgj]; go_simp⟩; have hlt9 : gj < v12.heap.size := HF.out.1; (try rw [← hv12] at hHeld); rw [← hv12]; rw [← hgj]; clear hgj hv12 hb9 b0 b1 b2; refine Tc 5 (fun K hK => ?_); go_simp; (go_at_call 29; refine (joinAllE_sum 3 [⟨(t, u), ⟨Ae, ne, ce⟩, ⟨Ak, nk, ck⟩, ⟨B9, m9, d9⟩⟩, ⟨kx, ⟨Xe, xe1, xe2⟩, ⟨Xk, xk1, xk2⟩, ⟨Xc, xc1, xc2⟩⟩, ⟨kd, ⟨De, de1, de2⟩, ⟨Dk, dk1, dk2⟩, ⟨Dc, dc1, dc2⟩⟩] (some ⟨gr, 0, none⟩) 3 v12 (by omega) RW.out HSUM.out).mono ?_)
           rintro e v13 ⟨kj, z9, hj, _, Je, je1, je2, Jk, jk1, jk2, Jc, jc1, jc2, rfl, how, hb9⟩
           obtain ⟨rfl, hall, hnn, hnc⟩ := hj (fun p hp => by
            simp at hp
            rcases hp with rfl | rfl | rfl
            ·exact JT.out
            ·exact JX.out
            ·exact JD.out)
           have HP : Hid (AllJ [(t, u), kx, kd] kj ∧ nodes kj.1 ≤ 1000 ∧ jc1 ≤ 1000) := ⟨hall, Nat.le_trans hnn HSUM.out.1, by rw [← how.len]; exact Nat.le_trans hnc HSUM.out.2⟩; have HN : Hid (NoC v13 (fun b => b ≠ gj) ⟨kj, ⟨Je, je1, je2⟩, ⟨Jk, jk1, jk2⟩, ⟨Jc, jc1, jc2⟩⟩) := NoC.of_own how (fun b hb _ => by have h := HF.out.1; omega); clear hj hall hnn hnc how; have HKc := Lib.hid (HKc.out.later hb9); have R := Lib.hid (RdT.later R.out hb9); have RX := Lib.hid (RX.out.later hb9); have RD := Lib.hid (RD.out.later hb9); have HBV := Lib.hid (HBV.out.trans (hb9.mono HBV.out.size)); have RK9 := Lib.hid (RK9.out.later hb9); have RW := Lib.hid (RW.out.later hb9); have HZ := Lib.hid (HZ.out.later hb9); have HF := Lib.hid (HF.out.later hb9); clear hb9; have z0 := HZ.out.c0; have z1 := HZ.out.c1; have z2 := HZ.out.c2; have m0 := HF.out.2 0; have m1 := HF.out.2 1; have m2 := HF.out.2 2; clear hHeld
           refine Th hK ?_ (fun hHeld => ?_)
           ·exact ⟨HKc.out.c0, HKc.out.c1, HKc.out.c2, HKc.out.c3, HKc.out.c4, HKc.out.c5, HKc.out.c6, HKc.out.c7, HKc.out.t8.c0, HKc.out.t8.c1, HKc.out.t8.c2, HKc.out.t8.c3⟩
           clear hK K; refine Tk 6 64 ?_; refine Tk 7 71 ?_; refine Tk 8 72 ?_; refine Tc 10 (fun K hK => ?_); go_simp; refine Th hK ?_ (fun hHeld2 => ?_)
           ·(try dsimp only)
            have h9 := HKc.out
            have h9 := h9.set (a := ⟨gj, 0, none⟩) hwg (fun x hx => by simp at hx; rcases hx with rfl | rfl | rfl | rfl | rfl | rfl | rfl | rfl | rfl | rfl | rfl | rfl <;> (dsimp only; omega)) (.slice Je je1 je2)
            have h9 := h9.set (a := ⟨gj, 1, none⟩) hwg (fun x hx => by simp at hx; rcases hx with rfl | rfl | rfl | rfl | rfl | rfl | rfl | rfl | rfl | rfl | rfl | rfl <;> (dsimp only; omega)) (.slice Jk jk1 jk2)
            have h9 := h9.set (a := ⟨gj, 2, none⟩) hwg (fun x hx => by simp at hx; rcases hx with rfl | rfl | rfl | rfl | rfl | rfl | rfl | rfl | rfl | rfl | rfl | rfl <;> (dsimp only; omega)) (.slice Jc jc1 jc2)
            exact ⟨h9.c0, h9.c1, h9.c2, h9.c3, h9.c4, h9.c5, h9.c6, h9.c7, h9.t8.c0, h9.t8.c1, h9.t8.c2, h9.t8.c3⟩
           clear hK K hHeld; have hHeld := hHeld2; clear hHeld2; refine Tk 11 14 ?_; refine wpAnyH_done (by kernel_rfl) ?_ _; clear hHeld
           have HMID : Hid (MidJ v8 gj ⟨kj, ⟨Je, je1, je2⟩, ⟨Jk, jk1, jk2⟩, ⟨Jc, jc1, jc2⟩⟩ (((v13.setCell ⟨gj, 0, none⟩ (.slice Je je1 je2)).setCell ⟨gj, 1, none⟩ (.slice Jk jk1 jk2)).setCell ⟨gj, 2, none⟩ (.slice Jc jc1 jc2))) := by
            obtain ⟨W9, hW9⟩ : ∃ W, W = (((v13.setCell ⟨gj, 0, none⟩ (.slice Je je1 je2)).setCell ⟨gj, 1, none⟩ (.slice Jk jk1 jk2)).setCell ⟨gj, 2, none⟩ (.slice Jc jc1 jc2)) := ⟨_, rfl⟩; rw [← hW9]
            have hb : Below v8.heap.size v8 W9 := by
             rw [hW9]; exact (((HBV.out.setCell (p := ⟨gj, 0, none⟩) hvg _).setCell (p := ⟨gj, 1, none⟩) hvg _).setCell (p := ⟨gj, 2, none⟩) hvg _)
            refine ⟨(HN.out.keep (by rw [hW9, cells3]; exact Nat.le_refl _) (fun b hb _ => by rw [hW9]; exact cells3_at b hb)).rd, ?_⟩
            refine (((Kept.nil_of hb).cons_of ?_).cons_of ?_).cons_of ?_ <;> (rw [hW9]; go_simp)
           clear z0 z1 z2 m0 m1 m2; go_wp2_with fail; go_meet; exact ⟨gj, ⟨kj, ⟨Je, je1, je2⟩, ⟨Jk, jk1, jk2⟩, ⟨Jc, jc1, jc2⟩⟩, rfl, rfl, HMID.out, HP.out⟩
         ·go_simp
          clear hHeld; refine Th hK ?_ (fun hHeld => ?_)
          ·exact ⟨(HKc.out.alloc _).c0, (HKc.out.alloc _).c1, (HKc.out.alloc _).c2, (HKc.out.alloc _).c3, (HKc.out.alloc _).c4, (HKc.out.alloc _).c5, (HKc.out.alloc _).c6, (HKc.out.alloc _).c7, (HKc.out.alloc _).t8.c0, (HKc.out.alloc _).t8.c1, (HKc.out.alloc _).t8.c2, (HKc.out.alloc _).t8.c3⟩
          clear hK K; obtain ⟨gj, hgj⟩ : ∃ g, g = v10.heap.size := ⟨_, rfl⟩; obtain ⟨v11, hv11⟩ : ∃ W, W = v10.alloc (.cells #[.slice none 0 0, .slice none 0 0, .slice none 0 0] 33) := ⟨_, rfl⟩
          have hb9 : Below v10.heap.size v10 v11 := by rw [hv11]; exact Dt.box_below _ _ _
          have hvg : v8.heap.size ≤ gj := by rw [hgj]; exact HBV.out.size
          have hwg : w.heap.size ≤ gj := by rw [hgj]; exact HKc.out.below.size
          have hnh : h ≠ gj := by have h := World.block_lt_of_cell? v10 _ HKc.out.c0; dsimp only at h; omega
          have hng : g ≠ gj := by have h := World.block_lt_of_cell? v10 _ HKc.out.c3; dsimp only at h; omega
          have hnp : p ≠ gj := by have h := World.block_lt_of_cell? v10 _ HKc.out.c6; dsimp only at h; omega
          have hnq : q ≠ gj := by have h := World.block_lt_of_cell? v10 _ HKc.out.t8.c0; dsimp only at h; omega
          have hns : s ≠ gj := by have h := World.block_lt_of_cell? v10 _ HKc.out.t8.c2; dsimp only at h; omega
          have b0 : v11.cell? ⟨gj, 0, none⟩ = some (.slice none 0 0) := by rw [hv11, hgj]; go_simp
          have b1 : v11.cell? ⟨gj, 1, none⟩ = some (.slice none 0 0) := by rw [hv11, hgj]; go_simp
          have b2 : v11.cell? ⟨gj, 2, none⟩ = some (.slice none 0 0) := by rw [hv11, hgj]; go_simp
          have HKc := Lib.hid (HKc.out.later hb9); have R := Lib.hid (RdT.later R.out hb9); have RX := Lib.hid (RX.out.later hb9); have RD := Lib.hid (RD.out.later hb9); have HBV := Lib.hid (HBV.out.trans (hb9.mono HBV.out.size)); have RK9 := Lib.hid (RK9.out.later hb9); have HZ : Hid (Kept [(⟨gj, 0, none⟩, .slice none 0 0), (⟨gj, 1, none⟩, .slice none 0 0), (⟨gj, 2, none⟩, .slice none 0 0)] v8 v11) := (((Kept.nil_of HBV.out).cons_of b2).cons_of b1).cons_of b0; have HF : Hid (Free gj v11) := ⟨by rw [hv11, hgj]; simp, fun j => by rw [hv11, hgj]; go_simp⟩; have hlt9 : gj < v11.heap.size := HF.out.1; (try rw [← hv11] at hHeld); rw [← hv11]; rw [← hgj]; clear hgj hv11 hb9 b0 b1 b2; refine Tc 4 (fun K hK => ?_); go_simp; clear hHeld; refine Th hK ?_ (fun hHeld => ?_)
          ·exact ⟨(HKc.out.alloc _).c0, (HKc.out.alloc _).c1, (HKc.out.alloc _).c2, (HKc.out.alloc _).c3, (HKc.out.alloc _).c4, (HKc.out.alloc _).c5, (HKc.out.alloc _).c6, (HKc.out.alloc _).c7, (HKc.out.alloc _).t8.c0, (HKc.out.alloc _).t8.c1, (HKc.out.alloc _).t8.c2, (HKc.out.alloc _).t8.c3⟩
          clear hK K; obtain ⟨gr, hgr⟩ : ∃ g, g = v11.heap.size := ⟨_, rfl⟩; obtain ⟨v12, hv12⟩ : ∃ W, W = v11.alloc (.cells #[.slice Ae ne ce, .slice Ak nk ck, .slice B9 m9 d9, .slice Xe xe1 xe2, .slice Xk xk1 xk2, .slice Xc xc1 xc2, .slice De de1 de2, .slice Dk dk1 dk2, .slice Dc dc1 dc2] 33) := ⟨_, rfl⟩
          have hb9 : Below v11.heap.size v11 v12 := by rw [hv12]; exact Dt.box_below _ _ _
          have hrow := rd_rowP v11 [⟨(t, u), ⟨Ae, ne, ce⟩, ⟨Ak, nk, ck⟩, ⟨B9, m9, d9⟩⟩, ⟨kx, ⟨Xe, xe1, xe2⟩, ⟨Xk, xk1, xk2⟩, ⟨Xc, xc1, xc2⟩⟩, ⟨kd, ⟨De, de1, de2⟩, ⟨Dk, dk1, dk2⟩, ⟨Dc, dc1, dc2⟩⟩] #[.slice Ae ne ce, .slice Ak nk ck, .slice B9 m9 d9, .slice Xe xe1 xe2, .slice Xk xk1 xk2, .slice Xc xc1 xc2, .slice De de1 de2, .slice Dk dk1 dk2, .slice Dc dc1 dc2] 3 rfl rfl; rw [← hv12, ← hgr] at hrow; have HKc := Lib.hid (HKc.out.later hb9); have R := Lib.hid (RdT.later R.out hb9); have RX := Lib.hid (RX.out.later hb9); have RD := Lib.hid (RD.out.later hb9); have HBV := Lib.hid (HBV.out.trans (hb9.mono HBV.out.size)); have RK9 := Lib.hid (RK9.out.later hb9); have HZ := Lib.hid (HZ.out.later hb9); have HF := Lib.hid (HF.out.later hb9)
          have RW : Hid (RowP v12 (some ⟨gr, 0, none⟩) 3 3 [⟨(t, u), ⟨Ae, ne, ce⟩, ⟨Ak, nk, ck⟩, ⟨B9, m9, d9⟩⟩, ⟨kx, ⟨Xe, xe1, xe2⟩, ⟨Xk, xk1, xk2⟩, ⟨Xc, xc1, xc2⟩⟩, ⟨kd, ⟨De, de1, de2⟩, ⟨Dk, dk1, dk2⟩, ⟨Dc, dc1, dc2⟩⟩]) := ⟨hrow.more (by rw [hv12, hgr]; simp), rfl, fun p hp => by
           simp at hp
           rcases hp with rfl | rfl | rfl
           ·exact RK9.out
           ·exact RX.out
           ·exact RD.out⟩
          (try rw [← hv12] at hHeld); rw [← hv12]; rw [← hgr]; clear hgr hv12 hb9 hrow; refine Tc 5 (fun K hK => ?_); go_simp; (go_at_call 29; refine (joinAllE_sum 3 [⟨(t, u), ⟨Ae, ne, ce⟩, ⟨Ak, nk, ck⟩, ⟨B9, m9, d9⟩⟩, ⟨kx, ⟨Xe, xe1, xe2⟩, ⟨Xk, xk1, xk2⟩, ⟨Xc, xc1, xc2⟩⟩, ⟨kd, ⟨De, de1, de2⟩, ⟨Dk, dk1, dk2⟩, ⟨Dc, dc1, dc2⟩⟩] (some ⟨gr, 0, none⟩) 3 v12 (by omega) RW.out HSUM.out).mono ?_); rintro e v13 ⟨kj, z9, hj, _, Je, je1, je2, Jk, jk1, jk2, Jc, jc1, jc2, rfl, how, hb9⟩
          obtain ⟨rfl, hall, hnn, hnc⟩ := hj (fun p hp => by
           simp at hp
           rcases hp with rfl | rfl | rfl
           ·exact JT.out
           ·exact JX.out
           ·exact JD.out)
          have HP : Hid (AllJ [(t, u), kx, kd] kj ∧ nodes kj.1 ≤ 1000 ∧ jc1 ≤ 1000) := ⟨hall, Nat.le_trans hnn HSUM.out.1, by rw [← how.len]; exact Nat.le_trans hnc HSUM.out.2⟩; have HN : Hid (NoC v13 (fun b => b ≠ gj) ⟨kj, ⟨Je, je1, je2⟩, ⟨Jk, jk1, jk2⟩, ⟨Jc, jc1, jc2⟩⟩) := NoC.of_own how (fun b hb _ => by have h := HF.out.1; omega); clear hj hall hnn hnc how; have HKc := Lib.hid (HKc.out.later hb9); have R := Lib.hid (RdT.later R.out hb9); have RX := Lib.hid (RX.out.later hb9); have RD := Lib.hid (RD.out.later hb9); have HBV := Lib.hid (HBV.out.trans (hb9.mono HBV.out.size)); have RK9 := Lib.hid (RK9.out.later hb9); have HZ := Lib.hid (HZ.out.later hb9); have HF := Lib.hid (HF.out.later hb9); have RW := Lib.hid (RW.out.later hb9); clear hb9; have z0 := HZ.out.c0; have z1 := HZ.out.c1; have z2 := HZ.out.c2; have m0 := HF.out.2 0; have m1 := HF.out.2 1; have m2 := HF.out.2 2; clear hHeld
          refine Th hK ?_ (fun hHeld => ?_)
          ·exact ⟨HKc.out.c0, HKc.out.c1, HKc.out.c2, HKc.out.c3, HKc.out.c4, HKc.out.c5, HKc.out.c6, HKc.out.c7, HKc.out.t8.c0, HKc.out.t8.c1, HKc.out.t8.c2, HKc.out.t8.c3⟩
          clear hK K; refine Tk 6 64 ?_; refine Tk 7 71 ?_; refine Tk 8 72 ?_; refine Tc 10 (fun K hK => ?_); go_simp; refine Th hK ?_ (fun hHeld2 => ?_)
          ·(try dsimp only)
           have h9 := HKc.out
           have h9 := h9.set (a := ⟨gj, 0, none⟩) hwg (fun x hx => by simp at hx; rcases hx with rfl | rfl | rfl | rfl | rfl | rfl | rfl | rfl | rfl | rfl | rfl | rfl <;> (dsimp only; omega)) (.slice Je je1 je2)
           have h9 := h9.set (a := ⟨gj, 1, none⟩) hwg (fun x hx => by simp at hx; rcases hx with rfl | rfl | rfl | rfl | rfl | rfl | rfl | rfl | rfl | rfl | rfl | rfl <;> (dsimp only; omega)) (.slice Jk jk1 jk2)
           have h9 := h9.set (a := ⟨gj, 2, none⟩) hwg (fun x hx => by simp at hx; rcases hx with rfl | rfl | rfl | rfl | rfl | rfl | rfl | rfl | rfl | rfl | rfl | rfl <;> (dsimp only; omega)) (.slice Jc jc1 jc2)
           exact ⟨h9.c0, h9.c1, h9.c2, h9.c3, h9.c4, h9.c5, h9.c6, h9.c7, h9.t8.c0, h9.t8.c1, h9.t8.c2, h9.t8.c3⟩
          clear hK K hHeld; have hHeld := hHeld2; clear hHeld2; refine Tk 11 14 ?_; refine wpAnyH_done (by kernel_rfl) ?_ _; clear hHeld
          have HMID : Hid (MidJ v8 gj ⟨kj, ⟨Je, je1, je2⟩, ⟨Jk, jk1, jk2⟩, ⟨Jc, jc1, jc2⟩⟩ (((v13.setCell ⟨gj, 0, none⟩ (.slice Je je1 je2)).setCell ⟨gj, 1, none⟩ (.slice Jk jk1 jk2)).setCell ⟨gj, 2, none⟩ (.slice Jc jc1 jc2))) := by
           obtain ⟨W9, hW9⟩ : ∃ W, W = (((v13.setCell ⟨gj, 0, none⟩ (.slice Je je1 je2)).setCell ⟨gj, 1, none⟩ (.slice Jk jk1 jk2)).setCell ⟨gj, 2, none⟩ (.slice Jc jc1 jc2)) := ⟨_, rfl⟩; rw [← hW9]
           have hb : Below v8.heap.size v8 W9 := by
            rw [hW9]; exact (((HBV.out.setCell (p := ⟨gj, 0, none⟩) hvg _).setCell (p := ⟨gj, 1, none⟩) hvg _).setCell (p := ⟨gj, 2, none⟩) hvg _)
           refine ⟨(HN.out.keep (by rw [hW9, cells3]; exact Nat.le_refl _) (fun b hb _ => by rw [hW9]; exact cells3_at b hb)).rd, ?_⟩
           refine (((Kept.nil_of hb).cons_of ?_).cons_of ?_).cons_of ?_ <;> (rw [hW9]; go_simp)
          clear z0 z1 z2 m0 m1 m2; go_wp2_with fail; go_meet; exact ⟨gj, ⟨kj, ⟨Je, je1, je2⟩, ⟨Jk, jk1, jk2⟩, ⟨Jc, jc1, jc2⟩⟩, rfl, rfl, HMID.out, HP.out⟩
        ·go_simp
         clear hHeld; refine Th hK ?_ (fun hHeld => ?_)
         ·exact ⟨(HKc.out.alloc _).c0, (HKc.out.alloc _).c1, (HKc.out.alloc _).c2, (HKc.out.alloc _).c3, (HKc.out.alloc _).c4, (HKc.out.alloc _).c5, (HKc.out.alloc _).c6, (HKc.out.alloc _).c7, (HKc.out.alloc _).t8.c0, (HKc.out.alloc _).t8.c1, (HKc.out.alloc _).t8.c2, (HKc.out.alloc _).t8.c3⟩
         clear hK K; obtain ⟨gj, hgj⟩ : ∃ g, g = v9.heap.size := ⟨_, rfl⟩; obtain ⟨v10, hv10⟩ : ∃ W, W = v9.alloc (.cells #[.slice none 0 0, .slice none 0 0, .slice none 0 0] 33) := ⟨_, rfl⟩
         have hb9 : Below v9.heap.size v9 v10 := by rw [hv10]; exact Dt.box_below _ _ _
         have hvg : v8.heap.size ≤ gj := by rw [hgj]; exact HBV.out.size
         have hwg : w.heap.size ≤ gj := by rw [hgj]; exact HKc.out.below.size
         have hnh : h ≠ gj := by have h := World.block_lt_of_cell? v9 _ HKc.out.c0; dsimp only at h; omega
         have hng : g ≠ gj := by have h := World.block_lt_of_cell? v9 _ HKc.out.c3; dsimp only at h; omega
         have hnp : p ≠ gj := by have h := World.block_lt_of_cell? v9 _ HKc.out.c6; dsimp only at h; omega
         have hnq : q ≠ gj := by have h := World.block_lt_of_cell? v9 _ HKc.out.t8.c0; dsimp only at h; omega
         have hns : s ≠ gj := by have h := World.block_lt_of_cell? v9 _ HKc.out.t8.c2; dsimp only at h; omega
         have b0 : v10.cell? ⟨gj, 0, none⟩ = some (.slice none 0 0) := by rw [hv10, hgj]; go_simp
         have b1 : v10.cell? ⟨gj, 1, none⟩ = some (.slice none 0 0) := by rw [hv10, hgj]; go_simp
         have b2 : v10.cell? ⟨gj, 2, none⟩ = some (.slice none 0 0) := by rw [hv10, hgj]; go_simp
         have HKc := Lib.hid (HKc.out.later hb9); have R := Lib.hid (RdT.later R.out hb9); have RX := Lib.hid (RX.out.later hb9); have RD := Lib.hid (RD.out.later hb9); have HBV := Lib.hid (HBV.out.trans (hb9.mono HBV.out.size)); have HZ : Hid (Kept [(⟨gj, 0, none⟩, .slice none 0 0), (⟨gj, 1, none⟩, .slice none 0 0), (⟨gj, 2, none⟩, .slice none 0 0)] v8 v10) := (((Kept.nil_of HBV.out).cons_of b2).cons_of b1).cons_of b0; have HF : Hid (Free gj v10) := ⟨by rw [hv10, hgj]; simp, fun j => by rw [hv10, hgj]; go_simp⟩; have hlt9 : gj < v10.heap.size := HF.out.1; (try rw [← hv10] at hHeld); rw [← hv10]; rw [← hgj]; clear hgj hv10 hb9 b0 b1 b2; refine Tc 1 (fun K hK => ?_); go_simp; (go_at_call 27; refine (refknown_any t Ae Ak ne nk ce ck u m9 v10 HT.out (by have := N.out; omega) R.out HU.out.1 HU.out.2.1 (by have := HU.out.2.2; omega)).mono ?_); rintro e v11 ⟨B9, d9, rfl, hro, hb9⟩
         have RK9 : Hid (RdP v11 ⟨(t, u), ⟨Ae, ne, ce⟩, ⟨Ak, nk, ck⟩, ⟨B9, m9, d9⟩⟩) := ⟨RdT.later R.out hb9, HU.out.2.1, hro.rd⟩; clear hro; have HKc := Lib.hid (HKc.out.later hb9); have R := Lib.hid (RdT.later R.out hb9); have RX := Lib.hid (RX.out.later hb9); have RD := Lib.hid (RD.out.later hb9); have HBV := Lib.hid (HBV.out.trans (hb9.mono HBV.out.size)); have HZ := Lib.hid (HZ.out.later hb9); have HF := Lib.hid (HF.out.later hb9); clear hb9; have HSUM := HSUM B9 d9; clear hHeld; refine Th hK ?_ (fun hHeld => ?_)
         ·exact ⟨HKc.out.c0, HKc.out.c1, HKc.out.c2, HKc.out.c3, HKc.out.c4, HKc.out.c5, HKc.out.c6, HKc.out.c7, HKc.out.t8.c0, HKc.out.t8.c1, HKc.out.t8.c2, HKc.out.t8.c3⟩
         clear hK K; refine Tc 4 (fun K hK => ?_); go_simp; clear hHeld; refine Th hK ?_ (fun hHeld => ?_)
         ·exact ⟨(HKc.out.alloc _).c0, (HKc.out.alloc _).c1, (HKc.out.alloc _).c2, (HKc.out.alloc _).c3, (HKc.out.alloc _).c4, (HKc.out.alloc _).c5, (HKc.out.alloc _).c6, (HKc.out.alloc _).c7, (HKc.out.alloc _).t8.c0, (HKc.out.alloc _).t8.c1, (HKc.out.alloc _).t8.c2, (HKc.out.alloc _).t8.c3⟩
         clear hK K; obtain ⟨gr, hgr⟩ : ∃ g, g = v11.heap.size := ⟨_, rfl⟩; obtain ⟨v12, hv12⟩ : ∃ W, W = v11.alloc (.cells #[.slice Ae ne ce, .slice Ak nk ck, .slice B9 m9 d9, .slice Xe xe1 xe2, .slice Xk xk1 xk2, .slice Xc xc1 xc2, .slice De de1 de2, .slice Dk dk1 dk2, .slice Dc dc1 dc2] 33) := ⟨_, rfl⟩
         have hb9 : Below v11.heap.size v11 v12 := by rw [hv12]; exact Dt.box_below _ _ _
         have hrow := rd_rowP v11 [⟨(t, u), ⟨Ae, ne, ce⟩, ⟨Ak, nk, ck⟩, ⟨B9, m9, d9⟩⟩, ⟨kx, ⟨Xe, xe1, xe2⟩, ⟨Xk, xk1, xk2⟩, ⟨Xc, xc1, xc2⟩⟩, ⟨kd, ⟨De, de1, de2⟩, ⟨Dk, dk1, dk2⟩, ⟨Dc, dc1, dc2⟩⟩] #[.slice Ae ne ce, .slice Ak nk ck, .slice B9 m9 d9, .slice Xe xe1 xe2, .slice Xk xk1 xk2, .slice Xc xc1 xc2, .slice De de1 de2, .slice Dk dk1 dk2, .slice Dc dc1 dc2] 3 rfl rfl; rw [← hv12, ← hgr] at hrow; have HKc := Lib.hid (HKc.out.later hb9); have R := Lib.hid (RdT.later R.out hb9); have RX := Lib.hid (RX.out.later hb9); have RD := Lib.hid (RD.out.later hb9); have HBV := Lib.hid (HBV.out.trans (hb9.mono HBV.out.size)); have HZ := Lib.hid (HZ.out.later hb9); have HF := Lib.hid (HF.out.later hb9); have RK9 := Lib.hid (RK9.out.later hb9)
         have RW : Hid (RowP v12 (some ⟨gr, 0, none⟩) 3 3 [⟨(t, u), ⟨Ae, ne, ce⟩, ⟨Ak, nk, ck⟩, ⟨B9, m9, d9⟩⟩, ⟨kx, ⟨Xe, xe1, xe2⟩, ⟨Xk, xk1, xk2⟩, ⟨Xc, xc1, xc2⟩⟩, ⟨kd, ⟨De, de1, de2⟩, ⟨Dk, dk1, dk2⟩, ⟨Dc, dc1, dc2⟩⟩]) := ⟨hrow.more (by rw [hv12, hgr]; simp), rfl, fun p hp => by
          simp at hp
          rcases hp with rfl | rfl | rfl
          ·exact RK9.out
          ·exact RX.out
          ·exact RD.out⟩
         (try rw [← hv12] at hHeld); rw [← hv12]; rw [← hgr]; clear hgr hv12 hb9 hrow; refine Tc 5 (fun K hK => ?_); go_simp; (go_at_call 29; refine (joinAllE_sum 3 [⟨(t, u), ⟨Ae, ne, ce⟩, ⟨Ak, nk, ck⟩, ⟨B9, m9, d9⟩⟩, ⟨kx, ⟨Xe, xe1, xe2⟩, ⟨Xk, xk1, xk2⟩, ⟨Xc, xc1, xc2⟩⟩, ⟨kd, ⟨De, de1, de2⟩, ⟨Dk, dk1, dk2⟩, ⟨Dc, dc1, dc2⟩⟩] (some ⟨gr, 0, none⟩) 3 v12 (by omega) RW.out HSUM.out).mono ?_); rintro e v13 ⟨kj, z9, hj, _, Je, je1, je2, Jk, jk1, jk2, Jc, jc1, jc2, rfl, how, hb9⟩
         obtain ⟨rfl, hall, hnn, hnc⟩ := hj (fun p hp => by
          simp at hp
          rcases hp with rfl | rfl | rfl
          ·exact JT.out
          ·exact JX.out
          ·exact JD.out)
         have HP : Hid (AllJ [(t, u), kx, kd] kj ∧ nodes kj.1 ≤ 1000 ∧ jc1 ≤ 1000) := ⟨hall, Nat.le_trans hnn HSUM.out.1, by rw [← how.len]; exact Nat.le_trans hnc HSUM.out.2⟩; have HN : Hid (NoC v13 (fun b => b ≠ gj) ⟨kj, ⟨Je, je1, je2⟩, ⟨Jk, jk1, jk2⟩, ⟨Jc, jc1, jc2⟩⟩) := NoC.of_own how (fun b hb _ => by have h := HF.out.1; omega); clear hj hall hnn hnc how; have HKc := Lib.hid (HKc.out.later hb9); have R := Lib.hid (RdT.later R.out hb9); have RX := Lib.hid (RX.out.later hb9); have RD := Lib.hid (RD.out.later hb9); have HBV := Lib.hid (HBV.out.trans (hb9.mono HBV.out.size)); have HZ := Lib.hid (HZ.out.later hb9); have HF := Lib.hid (HF.out.later hb9); have RK9 := Lib.hid (RK9.out.later hb9); have RW := Lib.hid (RW.out.later hb9); clear hb9; have z0 := HZ.out.c0; have z1 := HZ.out.c1; have z2 := HZ.out.c2; have m0 := HF.out.2 0; have m1 := HF.out.2 1; have m2 := HF.out.2 2; clear hHeld; refine Th hK ?_ (fun hHeld => ?_)
         ·exact ⟨HKc.out.c0, HKc.out.c1, HKc.out.c2, HKc.out.c3, HKc.out.c4, HKc.out.c5, HKc.out.c6, HKc.out.c7, HKc.out.t8.c0, HKc.out.t8.c1, HKc.out.t8.c2, HKc.out.t8.c3⟩
         clear hK K; refine Tk 6 64 ?_; refine Tk 7 71 ?_; refine Tk 8 72 ?_; refine Tc 10 (fun K hK => ?_); go_simp; refine Th hK ?_ (fun hHeld2 => ?_)
         ·(try dsimp only)
          have h9 := HKc.out
          have h9 := h9.set (a := ⟨gj, 0, none⟩) hwg (fun x hx => by simp at hx; rcases hx with rfl | rfl | rfl | rfl | rfl | rfl | rfl | rfl | rfl | rfl | rfl | rfl <;> (dsimp only; omega)) (.slice Je je1 je2)
          have h9 := h9.set (a := ⟨gj, 1, none⟩) hwg (fun x hx => by simp at hx; rcases hx with rfl | rfl | rfl | rfl | rfl | rfl | rfl | rfl | rfl | rfl | rfl | rfl <;> (dsimp only; omega)) (.slice Jk jk1 jk2)
          have h9 := h9.set (a := ⟨gj, 2, none⟩) hwg (fun x hx => by simp at hx; rcases hx with rfl | rfl | rfl | rfl | rfl | rfl | rfl | rfl | rfl | rfl | rfl | rfl <;> (dsimp only; omega)) (.slice Jc jc1 jc2)
          exact ⟨h9.c0, h9.c1, h9.c2, h9.c3, h9.c4, h9.c5, h9.c6, h9.c7, h9.t8.c0, h9.t8.c1, h9.t8.c2, h9.t8.c3⟩
         clear hK K hHeld; have hHeld := hHeld2; clear hHeld2; refine Tk 11 14 ?_; refine wpAnyH_done (by kernel_rfl) ?_ _; clear hHeld
         have HMID : Hid (MidJ v8 gj ⟨kj, ⟨Je, je1, je2⟩, ⟨Jk, jk1, jk2⟩, ⟨Jc, jc1, jc2⟩⟩ (((v13.setCell ⟨gj, 0, none⟩ (.slice Je je1 je2)).setCell ⟨gj, 1, none⟩ (.slice Jk jk1 jk2)).setCell ⟨gj, 2, none⟩ (.slice Jc jc1 jc2))) := by
          obtain ⟨W9, hW9⟩ : ∃ W, W = (((v13.setCell ⟨gj, 0, none⟩ (.slice Je je1 je2)).setCell ⟨gj, 1, none⟩ (.slice Jk jk1 jk2)).setCell ⟨gj, 2, none⟩ (.slice Jc jc1 jc2)) := ⟨_, rfl⟩; rw [← hW9]
          have hb : Below v8.heap.size v8 W9 := by
           rw [hW9]; exact (((HBV.out.setCell (p := ⟨gj, 0, none⟩) hvg _).setCell (p := ⟨gj, 1, none⟩) hvg _).setCell (p := ⟨gj, 2, none⟩) hvg _)
          refine ⟨(HN.out.keep (by rw [hW9, cells3]; exact Nat.le_refl _) (fun b hb _ => by rw [hW9]; exact cells3_at b hb)).rd, ?_⟩
          refine (((Kept.nil_of hb).cons_of ?_).cons_of ?_).cons_of ?_ <;> (rw [hW9]; go_simp)
         clear z0 z1 z2 m0 m1 m2; go_wp2_with fail; go_meet; exact ⟨gj, ⟨kj, ⟨Je, je1, je2⟩, ⟨Jk, jk1, jk2⟩, ⟨Jc, jc1, jc2⟩⟩, rfl, rfl, HMID.out, HP.out⟩
       case rest =>
        obtain ⟨wcgj, hwcgj⟩ : ∃ W, W = wc := ⟨_, rfl⟩; subst hwcgj; obtain ⟨gj, ⟨kj, ⟨Je, je1, je2⟩, ⟨Jk, jk1, jk2⟩, ⟨Jc, jc1, jc2⟩⟩, rfl, rfl, hmid, hprop⟩ := hcut; obtain ⟨hrp, hkp⟩ := hmid.out; have hb9 := hkp.below; have HKc := Lib.hid (HKc.out.later hb9); have R := Lib.hid (RdT.later R.out hb9); have RX := Lib.hid (RX.out.later hb9); have RD := Lib.hid (RD.out.later hb9); clear hb9; have RJ := Lib.hid hrp; have PJ : Hid (AllJ [(t, u), kx, kd] kj ∧ nodes kj.1 ≤ 1000 ∧ jc1 ≤ 1000) := hprop.out; have HKc : Hid (Kept [(⟨gj, 0, none⟩, .slice Je je1 je2), (⟨gj, 1, none⟩, .slice Jk jk1 jk2), (⟨gj, 2, none⟩, .slice Jc jc1 jc2), (⟨h, 0, none⟩, .slice De de1 de2), (⟨h, 1, none⟩, .slice Dk dk1 dk2), (⟨h, 2, none⟩, .slice Dc dc1 dc2), (⟨g, 0, none⟩, .slice Xe xe1 xe2), (⟨g, 1, none⟩, .slice Xk xk1 xk2), (⟨g, 2, none⟩, .slice Xc xc1 xc2), (⟨p, 0, none⟩, .slice Ae ne ce), (⟨p, 1, none⟩, .slice Ak nk ck), (⟨q, 0, none⟩, .int .i64 a), (⟨q, 1, none⟩, .int .i64 n), (⟨s, 0, none⟩, .int .i64 b), (⟨s, 1, none⟩, .int .i64 m)] w wcgj) := (((HKc.out.cons_of hkp.c2).cons_of hkp.c1).cons_of hkp.c0)
        clear hmid hprop hrp hkp; clear HSUM
        have EJ : Hid (tx ∈ elemsT kj.1) := by
         refine elem_of (d := 4) PJ.out.1.right.tree (q := keyE ⟨a, n, ⟨#[]⟩, 0⟩) (e := ⟨a, n, ⟨#[]⟩, 0⟩) (fresh_stays (t := t) (u := u) (v := kx.2) (w := u8) (e := ⟨a, n, ⟨#[]⟩, 0⟩) (s := tx) (y := kd) HT.out HU.out.1 H8.out.1 (flag_e HD.out) (check_iff.1 HCK.out).2.2 VX.out (seen_not HT.out H8.out.1 HD2.out VD.out (check_iff.1 HCK.out).2.2 HNE.out) PJ.out.1.right fun p q => ?_); rw [show (wrapT (oneT ⟨a, n, ⟨#[]⟩, 0⟩) [tx], kx.2) = kx from Prod.ext KX.out.symm rfl, PJ.out.1.st p q]; show mx _ (mx _ (mx _ none)) = _; rw [none_mx]
        have HSUM : ∀ (B9 : Option Addr) (d9 : Nat), Hid (sumN [⟨kd, ⟨De, de1, de2⟩, ⟨Dk, dk1, dk2⟩, ⟨Dc, dc1, dc2⟩⟩, ⟨kx, ⟨Xe, xe1, xe2⟩, ⟨Xk, xk1, xk2⟩, ⟨Xc, xc1, xc2⟩⟩, ⟨(t, u), ⟨Ae, ne, ce⟩, ⟨Ak, nk, ck⟩, ⟨B9, m9, d9⟩⟩] ≤ 1000 ∧ sumC [⟨kd, ⟨De, de1, de2⟩, ⟨Dk, dk1, dk2⟩, ⟨Dc, dc1, dc2⟩⟩, ⟨kx, ⟨Xe, xe1, xe2⟩, ⟨Xk, xk1, xk2⟩, ⟨Xc, xc1, xc2⟩⟩, ⟨(t, u), ⟨Ae, ne, ce⟩, ⟨Ak, nk, ck⟩, ⟨B9, m9, d9⟩⟩] ≤ 1000) := fun B9 d9 => by
         have h1 := N.out; have h2 := HU.out.2.2; have hbx := BX.out
         have hnx : nodes kx.1 ≤ 2 := by rw [KX.out, Cs.nodes_wrap, nodes_one]; simp
         have hbd := BD.out
         have hnd : nodes kd.1 ≤ 2 := by rw [KD.out, nodes_none]; omega
         unfold Hid; simp only [sumN, sumC, List.map_cons, List.map_nil, List.sum_cons, List.sum_nil]; omega
        have c0 := HKc.out.c0; have c1 := HKc.out.c1; have c2 := HKc.out.c2; have c3 := HKc.out.c3; have c4 := HKc.out.c4; have c5 := HKc.out.c5; have c6 := HKc.out.c6; have c7 := HKc.out.c7; have c8 := HKc.out.t8.c0; have c9 := HKc.out.t8.c1; have c10 := HKc.out.t8.c2; have c11 := HKc.out.t8.c3; have c12 := HKc.out.t8.c4; have c13 := HKc.out.t8.c5; have c14 := HKc.out.t8.c6; go_wp2_with fail; clear c0 c1 c2 c3 c4 c5 c6 c7 c8 c9 c10 c11 c12 c13 c14
        go_cut [15, 16] (fun s9 e9 wx => ∃ (g9 : Nat) (p9 : CP), s9 = .pointer (some ⟨g9, 0, none⟩) ∧ e9 = .int .i64 0 ∧ Hid (MidJ wcgj g9 p9 wx) ∧ Hid (AllJ [kd, kx, (t, u)] p9.k ∧ nodes p9.k.1 ≤ 1000 ∧ p9.c.n ≤ 1000))
        case first =>
         refine wp_region_held_drew (S := fun W => W.cell? ⟨gj, 0, none⟩ = some (.slice Je je1 je2) ∧ W.cell? ⟨gj, 1, none⟩ = some (.slice Jk jk1 jk2) ∧ W.cell? ⟨gj, 2, none⟩ = some (.slice Jc jc1 jc2) ∧ W.cell? ⟨h, 0, none⟩ = some (.slice De de1 de2) ∧ W.cell? ⟨h, 1, none⟩ = some (.slice Dk dk1 dk2) ∧ W.cell? ⟨h, 2, none⟩ = some (.slice Dc dc1 dc2) ∧ W.cell? ⟨g, 0, none⟩ = some (.slice Xe xe1 xe2) ∧ W.cell? ⟨g, 1, none⟩ = some (.slice Xk xk1 xk2) ∧ W.cell? ⟨g, 2, none⟩ = some (.slice Xc xc1 xc2) ∧ W.cell? ⟨p, 0, none⟩ = some (.slice Ae ne ce) ∧ W.cell? ⟨p, 1, none⟩ = some (.slice Ak nk ck) ∧ W.cell? ⟨q, 0, none⟩ = some (.int .i64 a) ∧ W.cell? ⟨q, 1, none⟩ = some (.int .i64 n) ∧ W.cell? ⟨s, 0, none⟩ = some (.int .i64 b) ∧ W.cell? ⟨s, 1, none⟩ = some (.int .i64 m)) (by kernel_rfl) (by have h9 := HKc.out.drew; exact ⟨h9.c0, h9.c1, h9.c2, h9.c3, h9.c4, h9.c5, h9.c6, h9.c7, h9.t8.c0, h9.t8.c1, h9.t8.c2, h9.t8.c3, h9.t8.c4, h9.t8.c5, h9.t8.c6⟩) (fun hHeld => ?_)
         obtain ⟨v9, hv9⟩ : ∃ v, v = wcgj.drew := ⟨_, rfl⟩
         have hb9 : Below wcgj.heap.size wcgj v9 := by rw [hv9]; exact (Below.refl _ _).drew
         have HKc := Lib.hid (HKc.out.later hb9); have R := Lib.hid (RdT.later R.out hb9); have RX := Lib.hid (RX.out.later hb9); have RD := Lib.hid (RD.out.later hb9); have RJ := Lib.hid (RJ.out.later hb9); clear hb9; have HBV9 : Hid (wcgj.drew = v9) := hv9.symm; rw [← hv9] at hHeld ⊢; clear hv9
         have HBV : Hid (Below wcgj.heap.size wcgj v9) := by unfold Hid; rw [← HBV9.out]; exact (Below.refl _ _).drew
         clear HBV9; refine Tk 0 74 ?_; refine Tk 1 75 ?_; refine Tk 2 76 ?_; refine wpAnyH_ready (rs := [3, 9]) (by kernel_rfl) (by simp) ?_; refine AllReadyH.cons (o := ⟨some 77, _, _, _, _, _⟩) rfl (fun K hK => ?_) (AllReadyH.cons (o := ⟨some 15, _, _, _, _, _⟩) rfl (fun K hK => ?_) (AllReadyH.nil))
         ·go_simp
          (go_at_call 27; refine (refknown_any t Ae Ak ne nk ce ck u m9 v9 HT.out (by have := N.out; omega) R.out HU.out.1 HU.out.2.1 (by have := HU.out.2.2; omega)).mono ?_); rintro e v10 ⟨B9, d9, rfl, hro, hb9⟩; have RK9 : Hid (RdP v10 ⟨(t, u), ⟨Ae, ne, ce⟩, ⟨Ak, nk, ck⟩, ⟨B9, m9, d9⟩⟩) := ⟨RdT.later R.out hb9, HU.out.2.1, hro.rd⟩; clear hro; have HKc := Lib.hid (HKc.out.later hb9); have R := Lib.hid (RdT.later R.out hb9); have RX := Lib.hid (RX.out.later hb9); have RD := Lib.hid (RD.out.later hb9); have RJ := Lib.hid (RJ.out.later hb9); have HBV := Lib.hid (HBV.out.trans (hb9.mono HBV.out.size)); clear hb9; have HSUM := HSUM B9 d9; clear hHeld; refine Th hK ?_ (fun hHeld => ?_)
          ·exact ⟨HKc.out.c0, HKc.out.c1, HKc.out.c2, HKc.out.c3, HKc.out.c4, HKc.out.c5, HKc.out.c6, HKc.out.c7, HKc.out.t8.c0, HKc.out.t8.c1, HKc.out.t8.c2, HKc.out.t8.c3, HKc.out.t8.c4, HKc.out.t8.c5, HKc.out.t8.c6⟩
          clear hK K; refine wpAnyH_ready (rs := [4, 9]) (by kernel_rfl) (by simp) ?_; refine AllReadyH.cons (o := ⟨some 78, _, _, _, _, _⟩) rfl (fun K hK => ?_) (AllReadyH.cons (o := ⟨some 15, _, _, _, _, _⟩) rfl (fun K hK => ?_) (AllReadyH.nil))
          ·go_simp
           clear hHeld; refine Th hK ?_ (fun hHeld => ?_)
           ·exact ⟨(HKc.out.alloc _).c0, (HKc.out.alloc _).c1, (HKc.out.alloc _).c2, (HKc.out.alloc _).c3, (HKc.out.alloc _).c4, (HKc.out.alloc _).c5, (HKc.out.alloc _).c6, (HKc.out.alloc _).c7, (HKc.out.alloc _).t8.c0, (HKc.out.alloc _).t8.c1, (HKc.out.alloc _).t8.c2, (HKc.out.alloc _).t8.c3, (HKc.out.alloc _).t8.c4, (HKc.out.alloc _).t8.c5, (HKc.out.alloc _).t8.c6⟩
           clear hK K; obtain ⟨gr, hgr⟩ : ∃ g, g = v10.heap.size := ⟨_, rfl⟩; obtain ⟨v11, hv11⟩ : ∃ W, W = v10.alloc (.cells #[.slice De de1 de2, .slice Dk dk1 dk2, .slice Dc dc1 dc2, .slice Xe xe1 xe2, .slice Xk xk1 xk2, .slice Xc xc1 xc2, .slice Ae ne ce, .slice Ak nk ck, .slice B9 m9 d9] 33) := ⟨_, rfl⟩
           have hb9 : Below v10.heap.size v10 v11 := by rw [hv11]; exact Dt.box_below _ _ _
           have hrow := rd_rowP v10 [⟨kd, ⟨De, de1, de2⟩, ⟨Dk, dk1, dk2⟩, ⟨Dc, dc1, dc2⟩⟩, ⟨kx, ⟨Xe, xe1, xe2⟩, ⟨Xk, xk1, xk2⟩, ⟨Xc, xc1, xc2⟩⟩, ⟨(t, u), ⟨Ae, ne, ce⟩, ⟨Ak, nk, ck⟩, ⟨B9, m9, d9⟩⟩] #[.slice De de1 de2, .slice Dk dk1 dk2, .slice Dc dc1 dc2, .slice Xe xe1 xe2, .slice Xk xk1 xk2, .slice Xc xc1 xc2, .slice Ae ne ce, .slice Ak nk ck, .slice B9 m9 d9] 3 rfl rfl; rw [← hv11, ← hgr] at hrow; have HKc := Lib.hid (HKc.out.later hb9); have R := Lib.hid (RdT.later R.out hb9); have RX := Lib.hid (RX.out.later hb9); have RD := Lib.hid (RD.out.later hb9); have RJ := Lib.hid (RJ.out.later hb9); have HBV := Lib.hid (HBV.out.trans (hb9.mono HBV.out.size)); have RK9 := Lib.hid (RK9.out.later hb9)
           have RW : Hid (RowP v11 (some ⟨gr, 0, none⟩) 3 3 [⟨kd, ⟨De, de1, de2⟩, ⟨Dk, dk1, dk2⟩, ⟨Dc, dc1, dc2⟩⟩, ⟨kx, ⟨Xe, xe1, xe2⟩, ⟨Xk, xk1, xk2⟩, ⟨Xc, xc1, xc2⟩⟩, ⟨(t, u), ⟨Ae, ne, ce⟩, ⟨Ak, nk, ck⟩, ⟨B9, m9, d9⟩⟩]) := ⟨hrow.more (by rw [hv11, hgr]; simp), rfl, fun p hp => by
            simp at hp
            rcases hp with rfl | rfl | rfl
            ·exact RD.out
            ·exact RX.out
            ·exact RK9.out⟩
           (try rw [← hv11] at hHeld); rw [← hv11]; rw [← hgr]; clear hgr hv11 hb9 hrow; refine wpAnyH_ready (rs := [5, 9]) (by kernel_rfl) (by simp) ?_; refine AllReadyH.cons (o := ⟨some 79, _, _, _, _, _⟩) rfl (fun K hK => ?_) (AllReadyH.cons (o := ⟨some 15, _, _, _, _, _⟩) rfl (fun K hK => ?_) (AllReadyH.nil))
           ·go_simp
            (go_at_call 29; refine (joinAllE_sum 3 [⟨kd, ⟨De, de1, de2⟩, ⟨Dk, dk1, dk2⟩, ⟨Dc, dc1, dc2⟩⟩, ⟨kx, ⟨Xe, xe1, xe2⟩, ⟨Xk, xk1, xk2⟩, ⟨Xc, xc1, xc2⟩⟩, ⟨(t, u), ⟨Ae, ne, ce⟩, ⟨Ak, nk, ck⟩, ⟨B9, m9, d9⟩⟩] (some ⟨gr, 0, none⟩) 3 v11 (by omega) RW.out HSUM.out).mono ?_); rintro e v12 ⟨ki, z9, hj, _, Ie, ie1, ie2, Ik, ik1, ik2, Ic, ic1, ic2, rfl, how, hb9⟩
            obtain ⟨rfl, hall, hnn, hnc⟩ := hj (fun p hp => by
             simp at hp
             rcases hp with rfl | rfl | rfl
             ·exact JD.out
             ·exact JX.out
             ·exact JT.out)
            have HP : Hid (AllJ [kd, kx, (t, u)] ki ∧ nodes ki.1 ≤ 1000 ∧ ic1 ≤ 1000) := ⟨hall, Nat.le_trans hnn HSUM.out.1, by rw [← how.len]; exact Nat.le_trans hnc HSUM.out.2⟩; have HN : Hid (NoC v12 (fun _ => True) ⟨ki, ⟨Ie, ie1, ie2⟩, ⟨Ik, ik1, ik2⟩, ⟨Ic, ic1, ic2⟩⟩) := NoC.of_own how (fun b hb _ => trivial); clear hj hall hnn hnc how; have HKc := Lib.hid (HKc.out.later hb9); have R := Lib.hid (RdT.later R.out hb9); have RX := Lib.hid (RX.out.later hb9); have RD := Lib.hid (RD.out.later hb9); have RJ := Lib.hid (RJ.out.later hb9); have HBV := Lib.hid (HBV.out.trans (hb9.mono HBV.out.size)); have RK9 := Lib.hid (RK9.out.later hb9); have RW := Lib.hid (RW.out.later hb9); clear hb9; clear hHeld; refine Th hK ?_ (fun hHeld => ?_)
            ·exact ⟨HKc.out.c0, HKc.out.c1, HKc.out.c2, HKc.out.c3, HKc.out.c4, HKc.out.c5, HKc.out.c6, HKc.out.c7, HKc.out.t8.c0, HKc.out.t8.c1, HKc.out.t8.c2, HKc.out.t8.c3, HKc.out.t8.c4, HKc.out.t8.c5, HKc.out.t8.c6⟩
            clear hK K; refine Tk 6 73 ?_; refine Tk 7 80 ?_; refine Tk 8 81 ?_; refine Tc 9 (fun K hK => ?_); go_simp; clear hHeld; refine Th hK ?_ (fun hHeld => ?_)
            ·exact ⟨(HKc.out.alloc _).c0, (HKc.out.alloc _).c1, (HKc.out.alloc _).c2, (HKc.out.alloc _).c3, (HKc.out.alloc _).c4, (HKc.out.alloc _).c5, (HKc.out.alloc _).c6, (HKc.out.alloc _).c7, (HKc.out.alloc _).t8.c0, (HKc.out.alloc _).t8.c1, (HKc.out.alloc _).t8.c2, (HKc.out.alloc _).t8.c3, (HKc.out.alloc _).t8.c4, (HKc.out.alloc _).t8.c5, (HKc.out.alloc _).t8.c6⟩
            clear hK K; obtain ⟨gi, hgi⟩ : ∃ g, g = v12.heap.size := ⟨_, rfl⟩; obtain ⟨v13, hv13⟩ : ∃ W, W = v12.alloc (.cells #[.slice none 0 0, .slice none 0 0, .slice none 0 0] 33) := ⟨_, rfl⟩
            have hb9 : Below v12.heap.size v12 v13 := by rw [hv13]; exact Dt.box_below _ _ _
            have hvg : wcgj.heap.size ≤ gi := by rw [hgi]; exact HBV.out.size
            have hwg : w.heap.size ≤ gi := by rw [hgi]; exact HKc.out.below.size
            have hngj : gj ≠ gi := by have h := World.block_lt_of_cell? v12 _ HKc.out.c0; dsimp only at h; omega
            have hnh : h ≠ gi := by have h := World.block_lt_of_cell? v12 _ HKc.out.c3; dsimp only at h; omega
            have hng : g ≠ gi := by have h := World.block_lt_of_cell? v12 _ HKc.out.c6; dsimp only at h; omega
            have hnp : p ≠ gi := by have h := World.block_lt_of_cell? v12 _ HKc.out.t8.c1; dsimp only at h; omega
            have hnq : q ≠ gi := by have h := World.block_lt_of_cell? v12 _ HKc.out.t8.c3; dsimp only at h; omega
            have hns : s ≠ gi := by have h := World.block_lt_of_cell? v12 _ HKc.out.t8.c5; dsimp only at h; omega
            have b0 : v13.cell? ⟨gi, 0, none⟩ = some (.slice none 0 0) := by rw [hv13, hgi]; go_simp
            have b1 : v13.cell? ⟨gi, 1, none⟩ = some (.slice none 0 0) := by rw [hv13, hgi]; go_simp
            have b2 : v13.cell? ⟨gi, 2, none⟩ = some (.slice none 0 0) := by rw [hv13, hgi]; go_simp
            have HN := Lib.hid (HN.out.mono (ok' := fun b => b ≠ gi) (fun b _ hlt => by omega)); have HKc := Lib.hid (HKc.out.later hb9); have R := Lib.hid (RdT.later R.out hb9); have RX := Lib.hid (RX.out.later hb9); have RD := Lib.hid (RD.out.later hb9); have RJ := Lib.hid (RJ.out.later hb9); have HBV := Lib.hid (HBV.out.trans (hb9.mono HBV.out.size)); have RK9 := Lib.hid (RK9.out.later hb9); have RW := Lib.hid (RW.out.later hb9); have HN := Lib.hid (HN.out.later hb9); have HZ : Hid (Kept [(⟨gi, 0, none⟩, .slice none 0 0), (⟨gi, 1, none⟩, .slice none 0 0), (⟨gi, 2, none⟩, .slice none 0 0)] wcgj v13) := (((Kept.nil_of HBV.out).cons_of b2).cons_of b1).cons_of b0; have HF : Hid (Free gi v13) := ⟨by rw [hv13, hgi]; simp, fun j => by rw [hv13, hgi]; go_simp⟩; have hlt9 : gi < v13.heap.size := HF.out.1; (try rw [← hv13] at hHeld); rw [← hv13]; rw [← hgi]; clear hgi hv13 hb9 b0 b1 b2; have z0 := HZ.out.c0
            have z1 := HZ.out.c1; have z2 := HZ.out.c2; have m0 := HF.out.2 0; have m1 := HF.out.2 1; have m2 := HF.out.2 2; refine Tc 10 (fun K hK => ?_); go_simp; refine Th hK ?_ (fun hHeld2 => ?_)
            ·(try dsimp only)
             have h9 := HKc.out
             have h9 := h9.set (a := ⟨gi, 0, none⟩) hwg (fun x hx => by simp at hx; rcases hx with rfl | rfl | rfl | rfl | rfl | rfl | rfl | rfl | rfl | rfl | rfl | rfl | rfl | rfl | rfl <;> (dsimp only; omega)) (.slice Ie ie1 ie2)
             have h9 := h9.set (a := ⟨gi, 1, none⟩) hwg (fun x hx => by simp at hx; rcases hx with rfl | rfl | rfl | rfl | rfl | rfl | rfl | rfl | rfl | rfl | rfl | rfl | rfl | rfl | rfl <;> (dsimp only; omega)) (.slice Ik ik1 ik2)
             have h9 := h9.set (a := ⟨gi, 2, none⟩) hwg (fun x hx => by simp at hx; rcases hx with rfl | rfl | rfl | rfl | rfl | rfl | rfl | rfl | rfl | rfl | rfl | rfl | rfl | rfl | rfl <;> (dsimp only; omega)) (.slice Ic ic1 ic2)
             exact ⟨h9.c0, h9.c1, h9.c2, h9.c3, h9.c4, h9.c5, h9.c6, h9.c7, h9.t8.c0, h9.t8.c1, h9.t8.c2, h9.t8.c3, h9.t8.c4, h9.t8.c5, h9.t8.c6⟩
            clear hK K hHeld; have hHeld := hHeld2; clear hHeld2; refine Tk 11 16 ?_; refine wpAnyH_done (by kernel_rfl) ?_ _; clear hHeld
            have HMID : Hid (MidJ wcgj gi ⟨ki, ⟨Ie, ie1, ie2⟩, ⟨Ik, ik1, ik2⟩, ⟨Ic, ic1, ic2⟩⟩ (((v13.setCell ⟨gi, 0, none⟩ (.slice Ie ie1 ie2)).setCell ⟨gi, 1, none⟩ (.slice Ik ik1 ik2)).setCell ⟨gi, 2, none⟩ (.slice Ic ic1 ic2))) := by
             obtain ⟨W9, hW9⟩ : ∃ W, W = (((v13.setCell ⟨gi, 0, none⟩ (.slice Ie ie1 ie2)).setCell ⟨gi, 1, none⟩ (.slice Ik ik1 ik2)).setCell ⟨gi, 2, none⟩ (.slice Ic ic1 ic2)) := ⟨_, rfl⟩; rw [← hW9]
             have hb : Below wcgj.heap.size wcgj W9 := by
              rw [hW9]; exact (((HBV.out.setCell (p := ⟨gi, 0, none⟩) hvg _).setCell (p := ⟨gi, 1, none⟩) hvg _).setCell (p := ⟨gi, 2, none⟩) hvg _)
             refine ⟨(HN.out.keep (by rw [hW9, cells3]; exact Nat.le_refl _) (fun b hb _ => by rw [hW9]; exact cells3_at b hb)).rd, ?_⟩
             refine (((Kept.nil_of hb).cons_of ?_).cons_of ?_).cons_of ?_ <;> (rw [hW9]; go_simp)
            clear z0 z1 z2 m0 m1 m2; go_wp2_with fail; go_meet; exact ⟨gi, ⟨ki, ⟨Ie, ie1, ie2⟩, ⟨Ik, ik1, ik2⟩, ⟨Ic, ic1, ic2⟩⟩, rfl, rfl, HMID.out, HP.out⟩
           ·go_simp
            clear hHeld; refine Th hK ?_ (fun hHeld => ?_)
            ·exact ⟨(HKc.out.alloc _).c0, (HKc.out.alloc _).c1, (HKc.out.alloc _).c2, (HKc.out.alloc _).c3, (HKc.out.alloc _).c4, (HKc.out.alloc _).c5, (HKc.out.alloc _).c6, (HKc.out.alloc _).c7, (HKc.out.alloc _).t8.c0, (HKc.out.alloc _).t8.c1, (HKc.out.alloc _).t8.c2, (HKc.out.alloc _).t8.c3, (HKc.out.alloc _).t8.c4, (HKc.out.alloc _).t8.c5, (HKc.out.alloc _).t8.c6⟩
            clear hK K; obtain ⟨gi, hgi⟩ : ∃ g, g = v11.heap.size := ⟨_, rfl⟩; obtain ⟨v12, hv12⟩ : ∃ W, W = v11.alloc (.cells #[.slice none 0 0, .slice none 0 0, .slice none 0 0] 33) := ⟨_, rfl⟩
            have hb9 : Below v11.heap.size v11 v12 := by rw [hv12]; exact Dt.box_below _ _ _
            have hvg : wcgj.heap.size ≤ gi := by rw [hgi]; exact HBV.out.size
            have hwg : w.heap.size ≤ gi := by rw [hgi]; exact HKc.out.below.size
            have hngj : gj ≠ gi := by have h := World.block_lt_of_cell? v11 _ HKc.out.c0; dsimp only at h; omega
            have hnh : h ≠ gi := by have h := World.block_lt_of_cell? v11 _ HKc.out.c3; dsimp only at h; omega
            have hng : g ≠ gi := by have h := World.block_lt_of_cell? v11 _ HKc.out.c6; dsimp only at h; omega
            have hnp : p ≠ gi := by have h := World.block_lt_of_cell? v11 _ HKc.out.t8.c1; dsimp only at h; omega
            have hnq : q ≠ gi := by have h := World.block_lt_of_cell? v11 _ HKc.out.t8.c3; dsimp only at h; omega
            have hns : s ≠ gi := by have h := World.block_lt_of_cell? v11 _ HKc.out.t8.c5; dsimp only at h; omega
            have b0 : v12.cell? ⟨gi, 0, none⟩ = some (.slice none 0 0) := by rw [hv12, hgi]; go_simp
            have b1 : v12.cell? ⟨gi, 1, none⟩ = some (.slice none 0 0) := by rw [hv12, hgi]; go_simp
            have b2 : v12.cell? ⟨gi, 2, none⟩ = some (.slice none 0 0) := by rw [hv12, hgi]; go_simp
            have HKc := Lib.hid (HKc.out.later hb9); have R := Lib.hid (RdT.later R.out hb9); have RX := Lib.hid (RX.out.later hb9); have RD := Lib.hid (RD.out.later hb9); have RJ := Lib.hid (RJ.out.later hb9); have HBV := Lib.hid (HBV.out.trans (hb9.mono HBV.out.size)); have RK9 := Lib.hid (RK9.out.later hb9); have RW := Lib.hid (RW.out.later hb9); have HZ : Hid (Kept [(⟨gi, 0, none⟩, .slice none 0 0), (⟨gi, 1, none⟩, .slice none 0 0), (⟨gi, 2, none⟩, .slice none 0 0)] wcgj v12) := (((Kept.nil_of HBV.out).cons_of b2).cons_of b1).cons_of b0; have HF : Hid (Free gi v12) := ⟨by rw [hv12, hgi]; simp, fun j => by rw [hv12, hgi]; go_simp⟩; have hlt9 : gi < v12.heap.size := HF.out.1; (try rw [← hv12] at hHeld); rw [← hv12]; rw [← hgi]; clear hgi hv12 hb9 b0 b1 b2; refine Tc 5 (fun K hK => ?_); go_simp; (go_at_call 29; refine (joinAllE_sum 3 [⟨kd, ⟨De, de1, de2⟩, ⟨Dk, dk1, dk2⟩, ⟨Dc, dc1, dc2⟩⟩, ⟨kx, ⟨Xe, xe1, xe2⟩, ⟨Xk, xk1, xk2⟩, ⟨Xc, xc1, xc2⟩⟩, ⟨(t, u), ⟨Ae, ne, ce⟩, ⟨Ak, nk, ck⟩, ⟨B9, m9, d9⟩⟩] (some ⟨gr, 0, none⟩) 3 v12 (by omega) RW.out HSUM.out).mono ?_)
            rintro e v13 ⟨ki, z9, hj, _, Ie, ie1, ie2, Ik, ik1, ik2, Ic, ic1, ic2, rfl, how, hb9⟩
            obtain ⟨rfl, hall, hnn, hnc⟩ := hj (fun p hp => by
             simp at hp
             rcases hp with rfl | rfl | rfl
             ·exact JD.out
             ·exact JX.out
             ·exact JT.out)
            have HP : Hid (AllJ [kd, kx, (t, u)] ki ∧ nodes ki.1 ≤ 1000 ∧ ic1 ≤ 1000) := ⟨hall, Nat.le_trans hnn HSUM.out.1, by rw [← how.len]; exact Nat.le_trans hnc HSUM.out.2⟩; have HN : Hid (NoC v13 (fun b => b ≠ gi) ⟨ki, ⟨Ie, ie1, ie2⟩, ⟨Ik, ik1, ik2⟩, ⟨Ic, ic1, ic2⟩⟩) := NoC.of_own how (fun b hb _ => by have h := HF.out.1; omega); clear hj hall hnn hnc how; have HKc := Lib.hid (HKc.out.later hb9); have R := Lib.hid (RdT.later R.out hb9); have RX := Lib.hid (RX.out.later hb9); have RD := Lib.hid (RD.out.later hb9); have RJ := Lib.hid (RJ.out.later hb9); have HBV := Lib.hid (HBV.out.trans (hb9.mono HBV.out.size)); have RK9 := Lib.hid (RK9.out.later hb9); have RW := Lib.hid (RW.out.later hb9); have HZ := Lib.hid (HZ.out.later hb9); have HF := Lib.hid (HF.out.later hb9); clear hb9; have z0 := HZ.out.c0; have z1 := HZ.out.c1; have z2 := HZ.out.c2; have m0 := HF.out.2 0; have m1 := HF.out.2 1
            have m2 := HF.out.2 2; clear hHeld; refine Th hK ?_ (fun hHeld => ?_)
            ·exact ⟨HKc.out.c0, HKc.out.c1, HKc.out.c2, HKc.out.c3, HKc.out.c4, HKc.out.c5, HKc.out.c6, HKc.out.c7, HKc.out.t8.c0, HKc.out.t8.c1, HKc.out.t8.c2, HKc.out.t8.c3, HKc.out.t8.c4, HKc.out.t8.c5, HKc.out.t8.c6⟩
            clear hK K; refine Tk 6 73 ?_; refine Tk 7 80 ?_; refine Tk 8 81 ?_; refine Tc 10 (fun K hK => ?_); go_simp; refine Th hK ?_ (fun hHeld2 => ?_)
            ·(try dsimp only)
             have h9 := HKc.out
             have h9 := h9.set (a := ⟨gi, 0, none⟩) hwg (fun x hx => by simp at hx; rcases hx with rfl | rfl | rfl | rfl | rfl | rfl | rfl | rfl | rfl | rfl | rfl | rfl | rfl | rfl | rfl <;> (dsimp only; omega)) (.slice Ie ie1 ie2)
             have h9 := h9.set (a := ⟨gi, 1, none⟩) hwg (fun x hx => by simp at hx; rcases hx with rfl | rfl | rfl | rfl | rfl | rfl | rfl | rfl | rfl | rfl | rfl | rfl | rfl | rfl | rfl <;> (dsimp only; omega)) (.slice Ik ik1 ik2)
             have h9 := h9.set (a := ⟨gi, 2, none⟩) hwg (fun x hx => by simp at hx; rcases hx with rfl | rfl | rfl | rfl | rfl | rfl | rfl | rfl | rfl | rfl | rfl | rfl | rfl | rfl | rfl <;> (dsimp only; omega)) (.slice Ic ic1 ic2)
             exact ⟨h9.c0, h9.c1, h9.c2, h9.c3, h9.c4, h9.c5, h9.c6, h9.c7, h9.t8.c0, h9.t8.c1, h9.t8.c2, h9.t8.c3, h9.t8.c4, h9.t8.c5, h9.t8.c6⟩
            clear hK K hHeld; have hHeld := hHeld2; clear hHeld2; refine Tk 11 16 ?_; refine wpAnyH_done (by kernel_rfl) ?_ _; clear hHeld
            have HMID : Hid (MidJ wcgj gi ⟨ki, ⟨Ie, ie1, ie2⟩, ⟨Ik, ik1, ik2⟩, ⟨Ic, ic1, ic2⟩⟩ (((v13.setCell ⟨gi, 0, none⟩ (.slice Ie ie1 ie2)).setCell ⟨gi, 1, none⟩ (.slice Ik ik1 ik2)).setCell ⟨gi, 2, none⟩ (.slice Ic ic1 ic2))) := by
             obtain ⟨W9, hW9⟩ : ∃ W, W = (((v13.setCell ⟨gi, 0, none⟩ (.slice Ie ie1 ie2)).setCell ⟨gi, 1, none⟩ (.slice Ik ik1 ik2)).setCell ⟨gi, 2, none⟩ (.slice Ic ic1 ic2)) := ⟨_, rfl⟩; rw [← hW9]
             have hb : Below wcgj.heap.size wcgj W9 := by
              rw [hW9]; exact (((HBV.out.setCell (p := ⟨gi, 0, none⟩) hvg _).setCell (p := ⟨gi, 1, none⟩) hvg _).setCell (p := ⟨gi, 2, none⟩) hvg _)
             refine ⟨(HN.out.keep (by rw [hW9, cells3]; exact Nat.le_refl _) (fun b hb _ => by rw [hW9]; exact cells3_at b hb)).rd, ?_⟩
             refine (((Kept.nil_of hb).cons_of ?_).cons_of ?_).cons_of ?_ <;> (rw [hW9]; go_simp)
            clear z0 z1 z2 m0 m1 m2; go_wp2_with fail; go_meet; exact ⟨gi, ⟨ki, ⟨Ie, ie1, ie2⟩, ⟨Ik, ik1, ik2⟩, ⟨Ic, ic1, ic2⟩⟩, rfl, rfl, HMID.out, HP.out⟩
          ·go_simp
           clear hHeld; refine Th hK ?_ (fun hHeld => ?_)
           ·exact ⟨(HKc.out.alloc _).c0, (HKc.out.alloc _).c1, (HKc.out.alloc _).c2, (HKc.out.alloc _).c3, (HKc.out.alloc _).c4, (HKc.out.alloc _).c5, (HKc.out.alloc _).c6, (HKc.out.alloc _).c7, (HKc.out.alloc _).t8.c0, (HKc.out.alloc _).t8.c1, (HKc.out.alloc _).t8.c2, (HKc.out.alloc _).t8.c3, (HKc.out.alloc _).t8.c4, (HKc.out.alloc _).t8.c5, (HKc.out.alloc _).t8.c6⟩
           clear hK K; obtain ⟨gi, hgi⟩ : ∃ g, g = v10.heap.size := ⟨_, rfl⟩; obtain ⟨v11, hv11⟩ : ∃ W, W = v10.alloc (.cells #[.slice none 0 0, .slice none 0 0, .slice none 0 0] 33) := ⟨_, rfl⟩
           have hb9 : Below v10.heap.size v10 v11 := by rw [hv11]; exact Dt.box_below _ _ _
           have hvg : wcgj.heap.size ≤ gi := by rw [hgi]; exact HBV.out.size
           have hwg : w.heap.size ≤ gi := by rw [hgi]; exact HKc.out.below.size
           have hngj : gj ≠ gi := by have h := World.block_lt_of_cell? v10 _ HKc.out.c0; dsimp only at h; omega
           have hnh : h ≠ gi := by have h := World.block_lt_of_cell? v10 _ HKc.out.c3; dsimp only at h; omega
           have hng : g ≠ gi := by have h := World.block_lt_of_cell? v10 _ HKc.out.c6; dsimp only at h; omega
           have hnp : p ≠ gi := by have h := World.block_lt_of_cell? v10 _ HKc.out.t8.c1; dsimp only at h; omega
           have hnq : q ≠ gi := by have h := World.block_lt_of_cell? v10 _ HKc.out.t8.c3; dsimp only at h; omega
           have hns : s ≠ gi := by have h := World.block_lt_of_cell? v10 _ HKc.out.t8.c5; dsimp only at h; omega
           have b0 : v11.cell? ⟨gi, 0, none⟩ = some (.slice none 0 0) := by rw [hv11, hgi]; go_simp
           have b1 : v11.cell? ⟨gi, 1, none⟩ = some (.slice none 0 0) := by rw [hv11, hgi]; go_simp
           have b2 : v11.cell? ⟨gi, 2, none⟩ = some (.slice none 0 0) := by rw [hv11, hgi]; go_simp
           have HKc := Lib.hid (HKc.out.later hb9); have R := Lib.hid (RdT.later R.out hb9); have RX := Lib.hid (RX.out.later hb9); have RD := Lib.hid (RD.out.later hb9); have RJ := Lib.hid (RJ.out.later hb9); have HBV := Lib.hid (HBV.out.trans (hb9.mono HBV.out.size)); have RK9 := Lib.hid (RK9.out.later hb9); have HZ : Hid (Kept [(⟨gi, 0, none⟩, .slice none 0 0), (⟨gi, 1, none⟩, .slice none 0 0), (⟨gi, 2, none⟩, .slice none 0 0)] wcgj v11) := (((Kept.nil_of HBV.out).cons_of b2).cons_of b1).cons_of b0; have HF : Hid (Free gi v11) := ⟨by rw [hv11, hgi]; simp, fun j => by rw [hv11, hgi]; go_simp⟩; have hlt9 : gi < v11.heap.size := HF.out.1; (try rw [← hv11] at hHeld); rw [← hv11]; rw [← hgi]; clear hgi hv11 hb9 b0 b1 b2; refine Tc 4 (fun K hK => ?_); go_simp; clear hHeld; refine Th hK ?_ (fun hHeld => ?_)
           ·exact ⟨(HKc.out.alloc _).c0, (HKc.out.alloc _).c1, (HKc.out.alloc _).c2, (HKc.out.alloc _).c3, (HKc.out.alloc _).c4, (HKc.out.alloc _).c5, (HKc.out.alloc _).c6, (HKc.out.alloc _).c7, (HKc.out.alloc _).t8.c0, (HKc.out.alloc _).t8.c1, (HKc.out.alloc _).t8.c2, (HKc.out.alloc _).t8.c3, (HKc.out.alloc _).t8.c4, (HKc.out.alloc _).t8.c5, (HKc.out.alloc _).t8.c6⟩
           clear hK K; obtain ⟨gr, hgr⟩ : ∃ g, g = v11.heap.size := ⟨_, rfl⟩; obtain ⟨v12, hv12⟩ : ∃ W, W = v11.alloc (.cells #[.slice De de1 de2, .slice Dk dk1 dk2, .slice Dc dc1 dc2, .slice Xe xe1 xe2, .slice Xk xk1 xk2, .slice Xc xc1 xc2, .slice Ae ne ce, .slice Ak nk ck, .slice B9 m9 d9] 33) := ⟨_, rfl⟩
           have hb9 : Below v11.heap.size v11 v12 := by rw [hv12]; exact Dt.box_below _ _ _
           have hrow := rd_rowP v11 [⟨kd, ⟨De, de1, de2⟩, ⟨Dk, dk1, dk2⟩, ⟨Dc, dc1, dc2⟩⟩, ⟨kx, ⟨Xe, xe1, xe2⟩, ⟨Xk, xk1, xk2⟩, ⟨Xc, xc1, xc2⟩⟩, ⟨(t, u), ⟨Ae, ne, ce⟩, ⟨Ak, nk, ck⟩, ⟨B9, m9, d9⟩⟩] #[.slice De de1 de2, .slice Dk dk1 dk2, .slice Dc dc1 dc2, .slice Xe xe1 xe2, .slice Xk xk1 xk2, .slice Xc xc1 xc2, .slice Ae ne ce, .slice Ak nk ck, .slice B9 m9 d9] 3 rfl rfl; rw [← hv12, ← hgr] at hrow; have HKc := Lib.hid (HKc.out.later hb9); have R := Lib.hid (RdT.later R.out hb9); have RX := Lib.hid (RX.out.later hb9); have RD := Lib.hid (RD.out.later hb9); have RJ := Lib.hid (RJ.out.later hb9); have HBV := Lib.hid (HBV.out.trans (hb9.mono HBV.out.size)); have RK9 := Lib.hid (RK9.out.later hb9); have HZ := Lib.hid (HZ.out.later hb9); have HF := Lib.hid (HF.out.later hb9)
           have RW : Hid (RowP v12 (some ⟨gr, 0, none⟩) 3 3 [⟨kd, ⟨De, de1, de2⟩, ⟨Dk, dk1, dk2⟩, ⟨Dc, dc1, dc2⟩⟩, ⟨kx, ⟨Xe, xe1, xe2⟩, ⟨Xk, xk1, xk2⟩, ⟨Xc, xc1, xc2⟩⟩, ⟨(t, u), ⟨Ae, ne, ce⟩, ⟨Ak, nk, ck⟩, ⟨B9, m9, d9⟩⟩]) := ⟨hrow.more (by rw [hv12, hgr]; simp), rfl, fun p hp => by
            simp at hp
            rcases hp with rfl | rfl | rfl
            ·exact RD.out
            ·exact RX.out
            ·exact RK9.out⟩
           (try rw [← hv12] at hHeld); rw [← hv12]; rw [← hgr]; clear hgr hv12 hb9 hrow; refine Tc 5 (fun K hK => ?_); go_simp; (go_at_call 29; refine (joinAllE_sum 3 [⟨kd, ⟨De, de1, de2⟩, ⟨Dk, dk1, dk2⟩, ⟨Dc, dc1, dc2⟩⟩, ⟨kx, ⟨Xe, xe1, xe2⟩, ⟨Xk, xk1, xk2⟩, ⟨Xc, xc1, xc2⟩⟩, ⟨(t, u), ⟨Ae, ne, ce⟩, ⟨Ak, nk, ck⟩, ⟨B9, m9, d9⟩⟩] (some ⟨gr, 0, none⟩) 3 v12 (by omega) RW.out HSUM.out).mono ?_); rintro e v13 ⟨ki, z9, hj, _, Ie, ie1, ie2, Ik, ik1, ik2, Ic, ic1, ic2, rfl, how, hb9⟩
           obtain ⟨rfl, hall, hnn, hnc⟩ := hj (fun p hp => by
            simp at hp
            rcases hp with rfl | rfl | rfl
            ·exact JD.out
            ·exact JX.out
            ·exact JT.out)
           have HP : Hid (AllJ [kd, kx, (t, u)] ki ∧ nodes ki.1 ≤ 1000 ∧ ic1 ≤ 1000) := ⟨hall, Nat.le_trans hnn HSUM.out.1, by rw [← how.len]; exact Nat.le_trans hnc HSUM.out.2⟩; have HN : Hid (NoC v13 (fun b => b ≠ gi) ⟨ki, ⟨Ie, ie1, ie2⟩, ⟨Ik, ik1, ik2⟩, ⟨Ic, ic1, ic2⟩⟩) := NoC.of_own how (fun b hb _ => by have h := HF.out.1; omega); clear hj hall hnn hnc how; have HKc := Lib.hid (HKc.out.later hb9); have R := Lib.hid (RdT.later R.out hb9); have RX := Lib.hid (RX.out.later hb9); have RD := Lib.hid (RD.out.later hb9); have RJ := Lib.hid (RJ.out.later hb9); have HBV := Lib.hid (HBV.out.trans (hb9.mono HBV.out.size)); have RK9 := Lib.hid (RK9.out.later hb9); have HZ := Lib.hid (HZ.out.later hb9); have HF := Lib.hid (HF.out.later hb9); have RW := Lib.hid (RW.out.later hb9); clear hb9; have z0 := HZ.out.c0; have z1 := HZ.out.c1; have z2 := HZ.out.c2; have m0 := HF.out.2 0; have m1 := HF.out.2 1
           have m2 := HF.out.2 2; clear hHeld; refine Th hK ?_ (fun hHeld => ?_)
           ·exact ⟨HKc.out.c0, HKc.out.c1, HKc.out.c2, HKc.out.c3, HKc.out.c4, HKc.out.c5, HKc.out.c6, HKc.out.c7, HKc.out.t8.c0, HKc.out.t8.c1, HKc.out.t8.c2, HKc.out.t8.c3, HKc.out.t8.c4, HKc.out.t8.c5, HKc.out.t8.c6⟩
           clear hK K; refine Tk 6 73 ?_; refine Tk 7 80 ?_; refine Tk 8 81 ?_; refine Tc 10 (fun K hK => ?_); go_simp; refine Th hK ?_ (fun hHeld2 => ?_)
           ·(try dsimp only)
            have h9 := HKc.out
            have h9 := h9.set (a := ⟨gi, 0, none⟩) hwg (fun x hx => by simp at hx; rcases hx with rfl | rfl | rfl | rfl | rfl | rfl | rfl | rfl | rfl | rfl | rfl | rfl | rfl | rfl | rfl <;> (dsimp only; omega)) (.slice Ie ie1 ie2)
            have h9 := h9.set (a := ⟨gi, 1, none⟩) hwg (fun x hx => by simp at hx; rcases hx with rfl | rfl | rfl | rfl | rfl | rfl | rfl | rfl | rfl | rfl | rfl | rfl | rfl | rfl | rfl <;> (dsimp only; omega)) (.slice Ik ik1 ik2)
            have h9 := h9.set (a := ⟨gi, 2, none⟩) hwg (fun x hx => by simp at hx; rcases hx with rfl | rfl | rfl | rfl | rfl | rfl | rfl | rfl | rfl | rfl | rfl | rfl | rfl | rfl | rfl <;> (dsimp only; omega)) (.slice Ic ic1 ic2)
            exact ⟨h9.c0, h9.c1, h9.c2, h9.c3, h9.c4, h9.c5, h9.c6, h9.c7, h9.t8.c0, h9.t8.c1, h9.t8.c2, h9.t8.c3, h9.t8.c4, h9.t8.c5, h9.t8.c6⟩
           clear hK K hHeld; have hHeld := hHeld2; clear hHeld2; refine Tk 11 16 ?_; refine wpAnyH_done (by kernel_rfl) ?_ _; clear hHeld
           have HMID : Hid (MidJ wcgj gi ⟨ki, ⟨Ie, ie1, ie2⟩, ⟨Ik, ik1, ik2⟩, ⟨Ic, ic1, ic2⟩⟩ (((v13.setCell ⟨gi, 0, none⟩ (.slice Ie ie1 ie2)).setCell ⟨gi, 1, none⟩ (.slice Ik ik1 ik2)).setCell ⟨gi, 2, none⟩ (.slice Ic ic1 ic2))) := by
            obtain ⟨W9, hW9⟩ : ∃ W, W = (((v13.setCell ⟨gi, 0, none⟩ (.slice Ie ie1 ie2)).setCell ⟨gi, 1, none⟩ (.slice Ik ik1 ik2)).setCell ⟨gi, 2, none⟩ (.slice Ic ic1 ic2)) := ⟨_, rfl⟩; rw [← hW9]
            have hb : Below wcgj.heap.size wcgj W9 := by
             rw [hW9]; exact (((HBV.out.setCell (p := ⟨gi, 0, none⟩) hvg _).setCell (p := ⟨gi, 1, none⟩) hvg _).setCell (p := ⟨gi, 2, none⟩) hvg _)
            refine ⟨(HN.out.keep (by rw [hW9, cells3]; exact Nat.le_refl _) (fun b hb _ => by rw [hW9]; exact cells3_at b hb)).rd, ?_⟩
            refine (((Kept.nil_of hb).cons_of ?_).cons_of ?_).cons_of ?_ <;> (rw [hW9]; go_simp)
           clear z0 z1 z2 m0 m1 m2; go_wp2_with fail; go_meet; exact ⟨gi, ⟨ki, ⟨Ie, ie1, ie2⟩, ⟨Ik, ik1, ik2⟩, ⟨Ic, ic1, ic2⟩⟩, rfl, rfl, HMID.out, HP.out⟩
         ·go_simp
          clear hHeld; refine Th hK ?_ (fun hHeld => ?_)
          ·exact ⟨(HKc.out.alloc _).c0, (HKc.out.alloc _).c1, (HKc.out.alloc _).c2, (HKc.out.alloc _).c3, (HKc.out.alloc _).c4, (HKc.out.alloc _).c5, (HKc.out.alloc _).c6, (HKc.out.alloc _).c7, (HKc.out.alloc _).t8.c0, (HKc.out.alloc _).t8.c1, (HKc.out.alloc _).t8.c2, (HKc.out.alloc _).t8.c3, (HKc.out.alloc _).t8.c4, (HKc.out.alloc _).t8.c5, (HKc.out.alloc _).t8.c6⟩
          clear hK K; obtain ⟨gi, hgi⟩ : ∃ g, g = v9.heap.size := ⟨_, rfl⟩; obtain ⟨v10, hv10⟩ : ∃ W, W = v9.alloc (.cells #[.slice none 0 0, .slice none 0 0, .slice none 0 0] 33) := ⟨_, rfl⟩
          have hb9 : Below v9.heap.size v9 v10 := by rw [hv10]; exact Dt.box_below _ _ _
          have hvg : wcgj.heap.size ≤ gi := by rw [hgi]; exact HBV.out.size
          have hwg : w.heap.size ≤ gi := by rw [hgi]; exact HKc.out.below.size
          have hngj : gj ≠ gi := by have h := World.block_lt_of_cell? v9 _ HKc.out.c0; dsimp only at h; omega
          have hnh : h ≠ gi := by have h := World.block_lt_of_cell? v9 _ HKc.out.c3; dsimp only at h; omega
          have hng : g ≠ gi := by have h := World.block_lt_of_cell? v9 _ HKc.out.c6; dsimp only at h; omega
          have hnp : p ≠ gi := by have h := World.block_lt_of_cell? v9 _ HKc.out.t8.c1; dsimp only at h; omega
          have hnq : q ≠ gi := by have h := World.block_lt_of_cell? v9 _ HKc.out.t8.c3; dsimp only at h; omega
          have hns : s ≠ gi := by have h := World.block_lt_of_cell? v9 _ HKc.out.t8.c5; dsimp only at h; omega
          have b0 : v10.cell? ⟨gi, 0, none⟩ = some (.slice none 0 0) := by rw [hv10, hgi]; go_simp
          have b1 : v10.cell? ⟨gi, 1, none⟩ = some (.slice none 0 0) := by rw [hv10, hgi]; go_simp
          have b2 : v10.cell? ⟨gi, 2, none⟩ = some (.slice none 0 0) := by rw [hv10, hgi]; go_simp
          have HKc := Lib.hid (HKc.out.later hb9); have R := Lib.hid (RdT.later R.out hb9); have RX := Lib.hid (RX.out.later hb9); have RD := Lib.hid (RD.out.later hb9); have RJ := Lib.hid (RJ.out.later hb9); have HBV := Lib.hid (HBV.out.trans (hb9.mono HBV.out.size)); have HZ : Hid (Kept [(⟨gi, 0, none⟩, .slice none 0 0), (⟨gi, 1, none⟩, .slice none 0 0), (⟨gi, 2, none⟩, .slice none 0 0)] wcgj v10) := (((Kept.nil_of HBV.out).cons_of b2).cons_of b1).cons_of b0; have HF : Hid (Free gi v10) := ⟨by rw [hv10, hgi]; simp, fun j => by rw [hv10, hgi]; go_simp⟩; have hlt9 : gi < v10.heap.size := HF.out.1; (try rw [← hv10] at hHeld); rw [← hv10]; rw [← hgi]; clear hgi hv10 hb9 b0 b1 b2; refine Tc 3 (fun K hK => ?_); go_simp; (go_at_call 27; refine (refknown_any t Ae Ak ne nk ce ck u m9 v10 HT.out (by have := N.out; omega) R.out HU.out.1 HU.out.2.1 (by have := HU.out.2.2; omega)).mono ?_)
          rintro e v11 ⟨B9, d9, rfl, hro, hb9⟩; have RK9 : Hid (RdP v11 ⟨(t, u), ⟨Ae, ne, ce⟩, ⟨Ak, nk, ck⟩, ⟨B9, m9, d9⟩⟩) := ⟨RdT.later R.out hb9, HU.out.2.1, hro.rd⟩; clear hro; have HKc := Lib.hid (HKc.out.later hb9); have R := Lib.hid (RdT.later R.out hb9); have RX := Lib.hid (RX.out.later hb9); have RD := Lib.hid (RD.out.later hb9); have RJ := Lib.hid (RJ.out.later hb9); have HBV := Lib.hid (HBV.out.trans (hb9.mono HBV.out.size)); have HZ := Lib.hid (HZ.out.later hb9); have HF := Lib.hid (HF.out.later hb9); clear hb9; have HSUM := HSUM B9 d9; clear hHeld; refine Th hK ?_ (fun hHeld => ?_)
          ·exact ⟨HKc.out.c0, HKc.out.c1, HKc.out.c2, HKc.out.c3, HKc.out.c4, HKc.out.c5, HKc.out.c6, HKc.out.c7, HKc.out.t8.c0, HKc.out.t8.c1, HKc.out.t8.c2, HKc.out.t8.c3, HKc.out.t8.c4, HKc.out.t8.c5, HKc.out.t8.c6⟩
          clear hK K; refine Tc 4 (fun K hK => ?_); go_simp; clear hHeld; refine Th hK ?_ (fun hHeld => ?_)
          ·exact ⟨(HKc.out.alloc _).c0, (HKc.out.alloc _).c1, (HKc.out.alloc _).c2, (HKc.out.alloc _).c3, (HKc.out.alloc _).c4, (HKc.out.alloc _).c5, (HKc.out.alloc _).c6, (HKc.out.alloc _).c7, (HKc.out.alloc _).t8.c0, (HKc.out.alloc _).t8.c1, (HKc.out.alloc _).t8.c2, (HKc.out.alloc _).t8.c3, (HKc.out.alloc _).t8.c4, (HKc.out.alloc _).t8.c5, (HKc.out.alloc _).t8.c6⟩
          clear hK K; obtain ⟨gr, hgr⟩ : ∃ g, g = v11.heap.size := ⟨_, rfl⟩; obtain ⟨v12, hv12⟩ : ∃ W, W = v11.alloc (.cells #[.slice De de1 de2, .slice Dk dk1 dk2, .slice Dc dc1 dc2, .slice Xe xe1 xe2, .slice Xk xk1 xk2, .slice Xc xc1 xc2, .slice Ae ne ce, .slice Ak nk ck, .slice B9 m9 d9] 33) := ⟨_, rfl⟩
          have hb9 : Below v11.heap.size v11 v12 := by rw [hv12]; exact Dt.box_below _ _ _
          have hrow := rd_rowP v11 [⟨kd, ⟨De, de1, de2⟩, ⟨Dk, dk1, dk2⟩, ⟨Dc, dc1, dc2⟩⟩, ⟨kx, ⟨Xe, xe1, xe2⟩, ⟨Xk, xk1, xk2⟩, ⟨Xc, xc1, xc2⟩⟩, ⟨(t, u), ⟨Ae, ne, ce⟩, ⟨Ak, nk, ck⟩, ⟨B9, m9, d9⟩⟩] #[.slice De de1 de2, .slice Dk dk1 dk2, .slice Dc dc1 dc2, .slice Xe xe1 xe2, .slice Xk xk1 xk2, .slice Xc xc1 xc2, .slice Ae ne ce, .slice Ak nk ck, .slice B9 m9 d9] 3 rfl rfl; rw [← hv12, ← hgr] at hrow; have HKc := Lib.hid (HKc.out.later hb9); have R := Lib.hid (RdT.later R.out hb9); have RX := Lib.hid (RX.out.later hb9); have RD := Lib.hid (RD.out.later hb9); have RJ := Lib.hid (RJ.out.later hb9); have HBV := Lib.hid (HBV.out.trans (hb9.mono HBV.out.size)); have HZ := Lib.hid (HZ.out.later hb9); have HF := Lib.hid (HF.out.later hb9); have RK9 := Lib.hid (RK9.out.later hb9)
          have RW : Hid (RowP v12 (some ⟨gr, 0, none⟩) 3 3 [⟨kd, ⟨De, de1, de2⟩, ⟨Dk, dk1, dk2⟩, ⟨Dc, dc1, dc2⟩⟩, ⟨kx, ⟨Xe, xe1, xe2⟩, ⟨Xk, xk1, xk2⟩, ⟨Xc, xc1, xc2⟩⟩, ⟨(t, u), ⟨Ae, ne, ce⟩, ⟨Ak, nk, ck⟩, ⟨B9, m9, d9⟩⟩]) := ⟨hrow.more (by rw [hv12, hgr]; simp), rfl, fun p hp => by
           simp at hp
           rcases hp with rfl | rfl | rfl
           ·exact RD.out
           ·exact RX.out
           ·exact RK9.out⟩
          (try rw [← hv12] at hHeld); rw [← hv12]; rw [← hgr]; clear hgr hv12 hb9 hrow; refine Tc 5 (fun K hK => ?_); go_simp; (go_at_call 29; refine (joinAllE_sum 3 [⟨kd, ⟨De, de1, de2⟩, ⟨Dk, dk1, dk2⟩, ⟨Dc, dc1, dc2⟩⟩, ⟨kx, ⟨Xe, xe1, xe2⟩, ⟨Xk, xk1, xk2⟩, ⟨Xc, xc1, xc2⟩⟩, ⟨(t, u), ⟨Ae, ne, ce⟩, ⟨Ak, nk, ck⟩, ⟨B9, m9, d9⟩⟩] (some ⟨gr, 0, none⟩) 3 v12 (by omega) RW.out HSUM.out).mono ?_); rintro e v13 ⟨ki, z9, hj, _, Ie, ie1, ie2, Ik, ik1, ik2, Ic, ic1, ic2, rfl, how, hb9⟩
          obtain ⟨rfl, hall, hnn, hnc⟩ := hj (fun p hp => by
           simp at hp
           rcases hp with rfl | rfl | rfl
           ·exact JD.out
           ·exact JX.out
           ·exact JT.out)
          have HP : Hid (AllJ [kd, kx, (t, u)] ki ∧ nodes ki.1 ≤ 1000 ∧ ic1 ≤ 1000) := ⟨hall, Nat.le_trans hnn HSUM.out.1, by rw [← how.len]; exact Nat.le_trans hnc HSUM.out.2⟩; have HN : Hid (NoC v13 (fun b => b ≠ gi) ⟨ki, ⟨Ie, ie1, ie2⟩, ⟨Ik, ik1, ik2⟩, ⟨Ic, ic1, ic2⟩⟩) := NoC.of_own how (fun b hb _ => by have h := HF.out.1; omega); clear hj hall hnn hnc how; have HKc := Lib.hid (HKc.out.later hb9); have R := Lib.hid (RdT.later R.out hb9); have RX := Lib.hid (RX.out.later hb9); have RD := Lib.hid (RD.out.later hb9); have RJ := Lib.hid (RJ.out.later hb9); have HBV := Lib.hid (HBV.out.trans (hb9.mono HBV.out.size)); have HZ := Lib.hid (HZ.out.later hb9); have HF := Lib.hid (HF.out.later hb9); have RK9 := Lib.hid (RK9.out.later hb9); have RW := Lib.hid (RW.out.later hb9); clear hb9; have z0 := HZ.out.c0; have z1 := HZ.out.c1; have z2 := HZ.out.c2; have m0 := HF.out.2 0; have m1 := HF.out.2 1
          have m2 := HF.out.2 2; clear hHeld; refine Th hK ?_ (fun hHeld => ?_)
          ·exact ⟨HKc.out.c0, HKc.out.c1, HKc.out.c2, HKc.out.c3, HKc.out.c4, HKc.out.c5, HKc.out.c6, HKc.out.c7, HKc.out.t8.c0, HKc.out.t8.c1, HKc.out.t8.c2, HKc.out.t8.c3, HKc.out.t8.c4, HKc.out.t8.c5, HKc.out.t8.c6⟩
          clear hK K; refine Tk 6 73 ?_; refine Tk 7 80 ?_; refine Tk 8 81 ?_; refine Tc 10 (fun K hK => ?_); go_simp; refine Th hK ?_ (fun hHeld2 => ?_)
          ·(try dsimp only)
           have h9 := HKc.out
           have h9 := h9.set (a := ⟨gi, 0, none⟩) hwg (fun x hx => by simp at hx; rcases hx with rfl | rfl | rfl | rfl | rfl | rfl | rfl | rfl | rfl | rfl | rfl | rfl | rfl | rfl | rfl <;> (dsimp only; omega)) (.slice Ie ie1 ie2)
           have h9 := h9.set (a := ⟨gi, 1, none⟩) hwg (fun x hx => by simp at hx; rcases hx with rfl | rfl | rfl | rfl | rfl | rfl | rfl | rfl | rfl | rfl | rfl | rfl | rfl | rfl | rfl <;> (dsimp only; omega)) (.slice Ik ik1 ik2)
           have h9 := h9.set (a := ⟨gi, 2, none⟩) hwg (fun x hx => by simp at hx; rcases hx with rfl | rfl | rfl | rfl | rfl | rfl | rfl | rfl | rfl | rfl | rfl | rfl | rfl | rfl | rfl <;> (dsimp only; omega)) (.slice Ic ic1 ic2)
           exact ⟨h9.c0, h9.c1, h9.c2, h9.c3, h9.c4, h9.c5, h9.c6, h9.c7, h9.t8.c0, h9.t8.c1, h9.t8.c2, h9.t8.c3, h9.t8.c4, h9.t8.c5, h9.t8.c6⟩
          clear hK K hHeld; have hHeld := hHeld2; clear hHeld2; refine Tk 11 16 ?_; refine wpAnyH_done (by kernel_rfl) ?_ _; clear hHeld
          have HMID : Hid (MidJ wcgj gi ⟨ki, ⟨Ie, ie1, ie2⟩, ⟨Ik, ik1, ik2⟩, ⟨Ic, ic1, ic2⟩⟩ (((v13.setCell ⟨gi, 0, none⟩ (.slice Ie ie1 ie2)).setCell ⟨gi, 1, none⟩ (.slice Ik ik1 ik2)).setCell ⟨gi, 2, none⟩ (.slice Ic ic1 ic2))) := by
           obtain ⟨W9, hW9⟩ : ∃ W, W = (((v13.setCell ⟨gi, 0, none⟩ (.slice Ie ie1 ie2)).setCell ⟨gi, 1, none⟩ (.slice Ik ik1 ik2)).setCell ⟨gi, 2, none⟩ (.slice Ic ic1 ic2)) := ⟨_, rfl⟩; rw [← hW9]
           have hb : Below wcgj.heap.size wcgj W9 := by
            rw [hW9]; exact (((HBV.out.setCell (p := ⟨gi, 0, none⟩) hvg _).setCell (p := ⟨gi, 1, none⟩) hvg _).setCell (p := ⟨gi, 2, none⟩) hvg _)
           refine ⟨(HN.out.keep (by rw [hW9, cells3]; exact Nat.le_refl _) (fun b hb _ => by rw [hW9]; exact cells3_at b hb)).rd, ?_⟩
           refine (((Kept.nil_of hb).cons_of ?_).cons_of ?_).cons_of ?_ <;> (rw [hW9]; go_simp)
          clear z0 z1 z2 m0 m1 m2; go_wp2_with fail; go_meet; exact ⟨gi, ⟨ki, ⟨Ie, ie1, ie2⟩, ⟨Ik, ik1, ik2⟩, ⟨Ic, ic1, ic2⟩⟩, rfl, rfl, HMID.out, HP.out⟩
        case rest =>
         obtain ⟨wcgi, hwcgi⟩ : ∃ W, W = wc := ⟨_, rfl⟩; subst hwcgi; obtain ⟨gi, ⟨ki, ⟨Ie, ie1, ie2⟩, ⟨Ik, ik1, ik2⟩, ⟨Ic, ic1, ic2⟩⟩, rfl, rfl, hmid, hprop⟩ := hcut; obtain ⟨hrp, hkp⟩ := hmid.out; have hb9 := hkp.below; have HKc := Lib.hid (HKc.out.later hb9); have R := Lib.hid (RdT.later R.out hb9); have RX := Lib.hid (RX.out.later hb9); have RD := Lib.hid (RD.out.later hb9); have RJ := Lib.hid (RJ.out.later hb9); clear hb9; have RI := Lib.hid hrp; have PI : Hid (AllJ [kd, kx, (t, u)] ki ∧ nodes ki.1 ≤ 1000 ∧ ic1 ≤ 1000) := hprop.out; have HKc : Hid (Kept [(⟨gi, 0, none⟩, .slice Ie ie1 ie2), (⟨gi, 1, none⟩, .slice Ik ik1 ik2), (⟨gi, 2, none⟩, .slice Ic ic1 ic2), (⟨gj, 0, none⟩, .slice Je je1 je2), (⟨gj, 1, none⟩, .slice Jk jk1 jk2), (⟨gj, 2, none⟩, .slice Jc jc1 jc2), (⟨h, 0, none⟩, .slice De de1 de2), (⟨h, 1, none⟩, .slice Dk dk1 dk2), (⟨h, 2, none⟩, .slice Dc dc1 dc2), (⟨g, 0, none⟩, .slice Xe xe1 xe2), (⟨g, 1, none⟩, .slice Xk xk1 xk2), (⟨g, 2, none⟩, .slice Xc xc1 xc2), (⟨p, 0, none⟩, .slice Ae ne ce), (⟨p, 1, none⟩, .slice Ak nk ck), (⟨q, 0, none⟩, .int .i64 a), (⟨q, 1, none⟩, .int .i64 n), (⟨s, 0, none⟩, .int .i64 b), (⟨s, 1, none⟩, .int .i64 m)] w wcgi) := (((HKc.out.cons_of hkp.c2).cons_of hkp.c1).cons_of hkp.c0)
         clear hmid hprop hrp hkp
         have EI : Hid (kj = ki) := by
          have h := PJ.out.1.reverse; exact h.eq PI.out.1
         have HIN : Hid ((Tr.rightB 5 kj.1 && decide (tx ∈ elemsT kj.1)) = true) := by
          unfold Hid; rw [Tr.rightB_iff.2 PJ.out.1.right.tree, decide_eq_true EJ.out]; rfl
         have c0 := HKc.out.c0; have c1 := HKc.out.c1; have c2 := HKc.out.c2; have c3 := HKc.out.c3; have c4 := HKc.out.c4; have c5 := HKc.out.c5; have c6 := HKc.out.c6; have c7 := HKc.out.c7; have c8 := HKc.out.t8.c0; have c9 := HKc.out.t8.c1; have c10 := HKc.out.t8.c2; have c11 := HKc.out.t8.c3; have c12 := HKc.out.t8.c4; have c13 := HKc.out.t8.c5; have c14 := HKc.out.t8.c6; have c15 := HKc.out.t8.c7; have c16 := HKc.out.t8.t8.c0; have c17 := HKc.out.t8.t8.c1; go_wp2_with fail; refine (shas_any kj.1 Je Jk je1 jk1 je2 jk2 tx wcgi true HIN.out (LenT.few (by have := PJ.out.2.1; omega)) PJ.out.2.1 RJ.out.tree).mono ?_; rintro e v9 ⟨rfl, hb9⟩; have HKc := Lib.hid (HKc.out.later hb9); have R := Lib.hid (RdT.later R.out hb9); have RX := Lib.hid (RX.out.later hb9); have RD := Lib.hid (RD.out.later hb9); have RJ := Lib.hid (RJ.out.later hb9); have RI := Lib.hid (RI.out.later hb9); clear hb9; clear c0 c1 c2 c3 c4 c5 c6 c7 c8 c9 c10 c11 c12 c13 c14 c15 c16 c17
         have c0 := HKc.out.c0; have c1 := HKc.out.c1; have c2 := HKc.out.c2; have c3 := HKc.out.c3; have c4 := HKc.out.c4; have c5 := HKc.out.c5; have c6 := HKc.out.c6; have c7 := HKc.out.c7; have c8 := HKc.out.t8.c0; have c9 := HKc.out.t8.c1; have c10 := HKc.out.t8.c2; have c11 := HKc.out.t8.c3; have c12 := HKc.out.t8.c4; have c13 := HKc.out.t8.c5; have c14 := HKc.out.t8.c6; have c15 := HKc.out.t8.c7; have c16 := HKc.out.t8.t8.c0; have c17 := HKc.out.t8.t8.c1; go_wp2_with fail; refine (sameK_any kj.1 ki.1 kj.2 ki.2 Je Jk Jc Ie Ik Ic je1 jk1 je2 jk2 jc1 jc2 ie1 ik1 ie2 ik2 ic1 ic2 v9 PJ.out.2.1 RJ.out.len PJ.out.2.2 RJ.out.tree RJ.out.ctx PI.out.2.1 RI.out.len PI.out.2.2 RI.out.tree RI.out.ctx).mono ?_; rw [show sameKB (kj.1, kj.2) (ki.1, ki.2) = true from same_true PJ.out.1.right EI.out]; rintro e v10 ⟨rfl, hb9⟩; have HKc := Lib.hid (HKc.out.later hb9); have R := Lib.hid (RdT.later R.out hb9)
         have RX := Lib.hid (RX.out.later hb9); have RD := Lib.hid (RD.out.later hb9); have RJ := Lib.hid (RJ.out.later hb9); have RI := Lib.hid (RI.out.later hb9); clear hb9; clear c0 c1 c2 c3 c4 c5 c6 c7 c8 c9 c10 c11 c12 c13 c14 c15 c16 c17; go_wp2_with fail; go_ret
         exact ⟨by first | rfl | simp, HKc.out.below⟩)
set_option maxRecDepth 100000 in
theorem lifted (os : Os) (started : os.Started) (H : Type) (enc : TypeId × Value → H) :
  ReturnsInHanded {} Tryz.checked os 7 .any (Rows.setWinsSpec.pre6 enc Tryz.prog Tryz.f7 Rows.setWinsRow.domain false) (Rows.setWinsSpec.post enc Tryz.prog Tryz.f7 false true false false) := by
 refine returnsInHanded_of_change_sized (C := Tryz.checked) own started (by kernel_rfl) Tryz.func7
  (ChangeSpec.witness6 (enc := enc) (C := Tryz.checked) false ⟨#[], #[.agg #[.slice none 0 0, .slice none 0 0], .string ByteArray.empty, .agg #[.int .i64 0, .int .i64 0], .agg #[.int .i64 0, .int .i64 0]], []⟩ 8 (by kernel_rfl) (by kernel_rfl) (by kernel_rfl) (by kernel_rfl)) ?_
 intro W base args ds gs before hval0 hW _ hsz0 _; have hval : ∀ (j : Nat) t v, Tryz.f7.params[j]? = some t → args[j]? = some v → Value.okWide Tryz.prog W .any base t v := hval0; have hW' := hW; obtain ⟨p, q, hA0, hV, rfl, hfz, hnd⟩ := hW; have hA : DataW.TrodAll enc Tryz.prog W 0 (fun _ => true) true Tryz.f7.params.toList args.toList ds p := hA0; rw [Tryz.params7] at hA hval; obtain ⟨v0, v1, v2, v3, d0, d1, d2, d3, p0, p1, p2, p3, rfl, rfl, rfl, h0, h1, h2, h3⟩ := trodAll_four hA; obtain ⟨rfl, rfl⟩ := trodVars_none hV; have hsz : (DataW.weightsEach Tryz.prog (25 :: 9 :: 27 :: 27 :: _) (d0 :: d1 :: d2 :: d3 :: _)).all (· ≤ reachBytes) = true := hsz0; obtain ⟨hw0, hsz⟩ := Tr.weights_head hsz; obtain ⟨t0, ae0, ak0, ne0, nk0, ce0, ck0, rfl, hr0, hl0⟩ := Tr.treeV_of_trod (hval 0 25 v0 rfl rfl) h0 hw0
 obtain ⟨s1, rfl, rfl, rfl, hs1⟩ := Go.ChangeMaps.open_string Tryz.underlying9 (hval 1 9 v1 rfl rfl) h1; obtain ⟨da2, dn2, rfl, _, _⟩ := Dt.dot_of_trod (hval 2 27 v2 rfl rfl) h2; obtain ⟨da3, dn3, rfl, _, _⟩ := Dt.dot_of_trod (hval 3 27 v3 rfl rfl) h3; refine (walk_any t0 ae0 ak0 ne0 nk0 ce0 ck0 s1 da2 dn2 da3 dn3 W hr0 hl0).mono fun e W' ⟨he, hb⟩ => ?_; subst he; exact ⟨_, rfl, law_post hW' (by kernel_rfl) rfl rfl rfl hb⟩
theorem proved : Rows.SetWinsSaid :=
 OpenClaim.holds_of_wide 7 Tryz.f7 rfl rfl rfl rfl rfl rfl rfl ⟨rfl, rfl, rfl, rfl, rfl⟩ rfl rfl rfl rfl rfl (by kernel_rfl) Tryz.func7 (by kernel_rfl)
  (of_decide_eq_true (by kernel_rfl)) (by unfold Func.isWrapper; first | (rw [if_pos (by decide +kernel)]; kernel_rfl) | (rw [if_neg (by decide +kernel)]; exact ⟨rfl, rfl⟩))
  (fun os started H enc _ => lifted os started H enc)
#print axioms proved
end lawSetWins
end Go.Proofs.YtemilfojnecldaaGreat
