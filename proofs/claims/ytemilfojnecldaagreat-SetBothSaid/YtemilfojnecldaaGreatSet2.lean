/- Sets: an element is added: the program. -/
import Derived.Test.YtemilfojnecldaaGreatSet1
import Derived.Test.YtemilfojnecldaaGreatG10
import Derived.Test.YtemilfojnecldaaGreatG20
namespace Go.Proofs.YtemilfojnecldaaGreat
open Go.ChangeShapes Go.WideShapes Go.ChangeAt Go.RowKit
namespace Cs
open Tr Cx Sp Rw Classical
theorem levels_one (e : E) : levels (oneT e) = 1 := by
 unfold oneT; rw [levels_mk]; rfl
theorem wrapE_one {e : E} {s : ByteArray} (he : RightE e) (hs : KeyOk s) : wrapE (oneT e) [s] = 0 := by
 unfold wrapE; rw [if_neg, if_neg, if_neg, if_neg]
 ·rw [levels_one]; simp
 ·unfold oneT; simp [T.es]
 ·simp
 ·rw [Tr.rightB_iff.2 (right_oneT (d := 4) he), show badB [s] = false from badB_iff.2 fun k hk => by rw [List.mem_singleton.1 hk]; exact hs]
  simp
theorem wrapR_one {e : E} {s : ByteArray} (he : RightE e) (hs : KeyOk s) : wrapR (oneT e) [s] = wrapT (oneT e) [s] := by
 unfold wrapR; rw [if_pos ⟨wrapE_one he hs, by unfold oneT; simp [T.es]⟩]
noncomputable def roomB (t : T) (s : ByteArray) : Bool := decide (t.ks.length < 24) || decide (s ∈ keysOf t.ks)
theorem kid_some {t : T} {s : ByteArray} (h : RightT 5 t) : s ∈ keysOf t.ks ↔ ¬ ((kidAt t.ks s).es = [] ∧ (kidAt t.ks s).ks = []) := by
 constructor
 ·intro hs
  obtain ⟨x, hx, rfl⟩ := List.mem_map.1 hs
  cases t with
  | mk es ks =>
   rw [show kidAt (T.mk es ks).ks x.1 = x.2 from kidAt_of h.2.2.1 hx]; exact (h.2.2.2 x hx).2.1
 ·intro hs
  by_cases h2 : s ∈ keysOf t.ks
  ·exact h2
  ·exact absurd (by rw [kidAt_no h2]; exact ⟨rfl, rfl⟩) hs
theorem kid_none {w : World} {B : Nat} {u : T} {Ge Gk : Option Addr} {gn gm gc gd : Nat} (h : RdT w B u ⟨Ge, gn, gc⟩ ⟨Gk, gm, gd⟩) : (gn = 0 ∧ gm = 0) ↔ (u.es = [] ∧ u.ks = []) := by
 have h2 := h; rw [← T.eta u] at h2; have h3 := rd_lens h2; rw [← h3.1, ← h3.2, List.length_eq_zero_iff, List.length_eq_zero_iff]
set_option maxRecDepth 100000 in
set_option maxHeartbeats 4000000 in
theorem sadd_any (t : T) (Ae Ak : Option Addr) (ne nk ce ck : Nat) (s : ByteArray) (a n : Int) (w : World) (hl : LenT reachBytes t) (hn : nodes t ≤ 1000) (hr : RdT w w.heap.size t ⟨Ae, ne, ce⟩ ⟨Ak, nk, ck⟩) :
  Calls Tryz.prog 11 #[.agg #[.slice Ae ne ce, .slice Ak nk ck], .string s, .agg #[.int .i64 a, .int .i64 n]] w (DeltaIs w.heap.size (mayB t s a n && roomB t s) (if mayB t s a n = true then 4 else 1) (wrapT (oneT ⟨a, n, ⟨#[]⟩, 0⟩) [s]) (dl (kidAt t.ks s)) a n (4 * nodes t + 4) w) := by
 obtain ⟨ok, hok⟩ : ∃ x, (mayB t s a n && roomB t s) = x := ⟨_, rfl⟩
 obtain ⟨er, her⟩ : ∃ x : Int, (if mayB t s a n = true then 4 else 1) = x := ⟨_, rfl⟩
 rw [hok, her]; have HOK0 := Lib.hid hok; have HER0 := Lib.hid her; clear hok her; obtain ⟨W, p, q, r, HW, HP, HQ, HR0, HKc, HKR, HFR⟩ := boxTDC w Ae Ak ne nk ce ck a n
 have hwr : w.heap.size ≤ r := by have := HP.out; have := HR0.out; omega
 have hpr : p < r := by have := HP.out; have := HR0.out; omega
 have hqr : q < r := by have := HQ.out; have := HR0.out; omega
 obtain ⟨z, hz⟩ : ∃ z, mayB t s a n = z := ⟨_, rfl⟩; have HR := Lib.hid (RdT.more HKc.out.below.size _ (RdT.below hr HKc.out.below)); have HD := Lib.hid (scheck_any t Ae Ak ne nk ce ck s a n W z hz hl hn HR.out); have HN := Lib.hid (And.intro hl hn); have HMB := Lib.hid hz; clear hl hn hr hz; have c0 := HKc.out.c0; have c1 := HKc.out.c1; have c2 := HKc.out.c2; have c3 := HKc.out.c3; go_enter Tryz.func11, Tryz.ntmps11; go_wp2_with fail; rw [← HP.out, ← HW.out]
 try rw [← HR0.out]
 try rw [← HQ.out]
 refine HD.out.mono ?_; rintro e v1 ⟨rfl, hb9⟩; have HKc := Lib.hid (HKc.out.later hb9); have HKR := Lib.hid (HKR.out.later hb9); have HFR := Lib.hid (HFR.out.later hb9); have HR := Lib.hid (RdT.later HR.out hb9); clear hb9 HD c0 c1 c2 c3
 cases z with
 | false =>
  have HOK : Hid (ok = false) := by unfold Hid; rw [← HOK0.out, HMB.out]; rfl
  have HER : Hid ((1 : Int) = er) := by unfold Hid; rw [← HER0.out, HMB.out]; rfl
  have z0 := HKR.out.c0; have z1 := HKR.out.c1; have z2 := HKR.out.c2; have m0 := HFR.out.2 0; have m1 := HFR.out.2 1; have m2 := HFR.out.2 2; obtain ⟨W9, hW9⟩ : ∃ W, W = ((v1.setCell ⟨r, 0, none⟩ (.slice none 0 0)).setCell ⟨r, 1, none⟩ (.slice none 0 0)).setCell ⟨r, 2, none⟩ (.slice none 0 0) := ⟨_, rfl⟩
  have HB9 : Hid (Below w.heap.size w W9) := by
   unfold Hid; rw [hW9]; exact ((HKc.out.below.setCell (p := ⟨r, 0, none⟩) hwr _).setCell (p := ⟨r, 1, none⟩) hwr _).setCell (p := ⟨r, 2, none⟩) hwr _
  have l0 : W9.cell? ⟨r, 0, none⟩ = some (.slice none 0 0) := by rw [hW9]; go_simp
  have l1 : W9.cell? ⟨r, 1, none⟩ = some (.slice none 0 0) := by rw [hW9]; go_simp
  have l2 : W9.cell? ⟨r, 2, none⟩ = some (.slice none 0 0) := by rw [hW9]; go_simp
  have HW9 := Lib.hid hW9; clear hW9; go_wp2_with fail; rw [← HW9.out]; refine bodyPost_ret (v := .tuple #[.agg #[.slice none 0 0, .slice none 0 0, .slice none 0 0], .int .i64 1]) (by simp [results, Tryz.results11, go_sem, l0, l1, l2]) rfl ⟨noneK, 1, none, 0, 0, none, 0, 0, none, 0, 0, rfl, OwC.no _ _, Lib.hid (And.intro (fun h => by rw [HOK.out] at h; cases h) (fun _ => ⟨HER.out, rfl⟩)), HB9.out⟩
 | true =>
  have HCB : Hid (checkB t a n = true) := (may_iff.1 HMB.out).1; have HKY : Hid (KeyOk s) := (may_iff.1 HMB.out).2; have HTT : Hid (RightT 5 t) := (check_iff.1 HCB.out).1; have HT : Hid (Tr.rightB 5 t = true) := Tr.rightB_iff.2 HTT.out; have HE : Hid (RightE ⟨a, n, ⟨#[]⟩, 0⟩) := flag_e (check_iff.1 HCB.out).2.1
  have HER : Hid ((4 : Int) = er) := by unfold Hid; rw [← HER0.out, HMB.out]; rfl
  have c0 := HKc.out.c0; have c1 := HKc.out.c1; have c2 := HKc.out.c2; have c3 := HKc.out.c3; obtain ⟨g, hg⟩ : ∃ g, g = v1.heap.size := ⟨_, rfl⟩; obtain ⟨v2, hv2⟩ : ∃ W, W = v1.alloc (.cells #[.string s] 9) := ⟨_, rfl⟩
  have hb9 : Below v1.heap.size v1 v2 := by rw [hv2]; exact Dt.box_below _ _ _
  have HS : Hid (Rd v2 v2.heap.size 1 (some ⟨g, 0, none⟩) 1 1 (strs [s])) := by unfold Hid; rw [hv2, hg]; exact rd_one1 _ _
  have HKc := Lib.hid (HKc.out.later hb9); have HKR := Lib.hid (HKR.out.later hb9); have HFR := Lib.hid (HFR.out.later hb9); have HR := Lib.hid (RdT.later HR.out hb9); have Hg := Lib.hid hg; have Hv2 := Lib.hid hv2; clear hb9 hg hv2; go_wp2_with fail; rw [← Hg.out, ← Hv2.out]; clear c0 c1 c2 c3; refine (get_any t Ae Ak ne nk ce ck v2 [s] (some ⟨g, 0, none⟩) 1 1 rfl (by omega) HS.out HN.out.1 (by have := HN.out.2; omega) HR.out).mono ?_; rintro e v3 ⟨Ge, gn, gc, Gk, gm, gd, rfl, ho, hb9⟩
  have HG : Hid (RdT v3 v3.heap.size (kidAt t.ks s) ⟨Ge, gn, gc⟩ ⟨Gk, gm, gd⟩) := by
   have h := ho.rd; rw [if_pos HT.out] at h; exact h
  have HKc := Lib.hid (HKc.out.later hb9); have HKR := Lib.hid (HKR.out.later hb9); have HFR := Lib.hid (HFR.out.later hb9); have HR := Lib.hid (RdT.later HR.out hb9); clear ho hb9 HS
  have HEM : Hid ((gn = 0 ∧ gm = 0) ↔ ¬ s ∈ keysOf t.ks) := by unfold Hid; rw [kid_none HG.out, kid_some HTT.out]; exact not_not.symm
  have HNK : Hid (t.ks.length = nk) := by
   have h := HR.out; rw [← T.eta t] at h; exact (rd_lens h).2
  obtain ⟨h, hh⟩ : ∃ g, g = v3.heap.size := ⟨_, rfl⟩; obtain ⟨v4, hv4⟩ : ∃ W, W = v3.alloc (.cells #[.slice Ge gn gc, .slice Gk gm gd] 25) := ⟨_, rfl⟩
  have hb9 : Below v3.heap.size v3 v4 := by rw [hv4]; exact Dt.box_below _ _ _
  have b0 : v4.cell? ⟨h, 0, none⟩ = some (.slice Ge gn gc) := by rw [hv4, hh]; go_simp
  have b1 : v4.cell? ⟨h, 1, none⟩ = some (.slice Gk gm gd) := by rw [hv4, hh]; go_simp
  have HKc := Lib.hid (HKc.out.later hb9); have HKR := Lib.hid (HKR.out.later hb9); have HFR := Lib.hid (HFR.out.later hb9); have HR := Lib.hid (RdT.later HR.out hb9); have HG := Lib.hid (RdT.later HG.out hb9); have HKc := Lib.hid ((HKc.out.cons_of b1).cons_of b0); have Hh := Lib.hid hh; have Hv4 := Lib.hid hv4; clear hb9 hh hv4 b0 b1; have c0 := HKc.out.c0; have c1 := HKc.out.c1; have c2 := HKc.out.c2; have c3 := HKc.out.c3; have c4 := HKc.out.c4; have c5 := HKc.out.c5; rw [Hv4.out] at c0 c1 c2 c3 c4 c5; rw [Hh.out] at c0 c1; go_wp2_with fail; rw [← Hh.out, ← Hv4.out]; clear c0 c1 c2 c3 c4 c5; obtain ⟨y, hy⟩ : ∃ y, decide (gn = 0 ∧ gm = 0) = y := ⟨_, rfl⟩; refine (empty_any Ge Gk gn gm gc gd v4).mono ?_; rw [hy]; rintro e v5 ⟨rfl, hb9⟩; have HKc := Lib.hid (HKc.out.later hb9); have HKR := Lib.hid (HKR.out.later hb9); have HFR := Lib.hid (HFR.out.later hb9); have HR := Lib.hid (RdT.later HR.out hb9)
  have HG := Lib.hid (RdT.later HG.out hb9); have HY := Lib.hid hy; clear hb9 hy
  cases y with
  | false =>
   have HOK : Hid (ok = true) := by
    have h := of_decide_eq_false HY.out; unfold Hid; rw [← HOK0.out]; unfold roomB; rw [HMB.out, decide_eq_true (p := s ∈ keysOf t.ks) (Classical.byContradiction fun h2 => h (HEM.out.2 h2)), Bool.or_true]; rfl
   have c0 := HKc.out.c0; have c1 := HKc.out.c1; have c2 := HKc.out.c2; have c3 := HKc.out.c3; have c4 := HKc.out.c4; have c5 := HKc.out.c5; go_wp2_with fail; clear c0 c1 c2 c3 c4 c5; refine (enable_any (kidAt t.ks s) Ge Gk gn gm gc gd a n v5 (LenT.few (by have := nodes_kid_at t s; have := HN.out.2; omega)) (by have := nodes_kid_at t s; have := HN.out.2; omega) HG.out).mono ?_; rintro e v6 ⟨k, z9, De, dn, dc, Dk, dm, dd, Rc, rq, re, rfl, how, hz9, hb9⟩; obtain ⟨rfl, hk1, hna, hu⟩ := hz9.out.1 (kid_check HCB.out); have hrlo : r < v5.heap.size := HFR.out.1; have HRV : Hid (k.2.length = rq ∧ RO v6 (fun b => r < b) 3 Rc rq re (spsC k.2)) := ⟨how.out.len, how.out.ctx.mono fun b hb _ => Nat.lt_of_lt_of_le hrlo hb⟩; have HDT := Lib.hid how.out.rdT; have HU : Hid (k.1 = oneT ⟨a, n, ⟨#[]⟩, 0⟩ ∧ rq ≤ 4 * nodes t + 4 ∧ ∃ u, OfC (dl (kidAt t.ks s)) u ∧ PutC uniF u (oneC a n) k.2) := ⟨hk1, by have := nodes_kid_at t s; omega, hu⟩
   have HKc := Lib.hid (HKc.out.later hb9); have HKR := Lib.hid (HKR.out.later hb9); have HFR := Lib.hid (HFR.out.later hb9); have HR := Lib.hid (RdT.later HR.out hb9); clear how hz9 hb9 hk1 hna hu hrlo; obtain ⟨d, hd⟩ : ∃ g, g = v6.heap.size := ⟨_, rfl⟩; obtain ⟨v7, hv7⟩ : ∃ W, W = v6.alloc (.cells #[.slice De dn dc, .slice Dk dm dd, .slice Rc rq re] 33) := ⟨_, rfl⟩
   have hb9 : Below v6.heap.size v6 v7 := by rw [hv7]; exact Dt.box_below _ _ _
   have b0 : v7.cell? ⟨d, 0, none⟩ = some (.slice De dn dc) := by rw [hv7, hd]; go_simp
   have b1 : v7.cell? ⟨d, 1, none⟩ = some (.slice Dk dm dd) := by rw [hv7, hd]; go_simp
   have b2 : v7.cell? ⟨d, 2, none⟩ = some (.slice Rc rq re) := by rw [hv7, hd]; go_simp
   have HKc := Lib.hid (HKc.out.later hb9); have HKR := Lib.hid (HKR.out.later hb9); have HFR := Lib.hid (HFR.out.later hb9); have HR := Lib.hid (RdT.later HR.out hb9); have HDT := Lib.hid (RdT.later HDT.out hb9); have HRV := Lib.hid (And.intro HRV.out.1 (HRV.out.2.keep hb9.size fun b _ hlt => hb9.block b hlt)); have HKc := Lib.hid (((HKc.out.cons_of b2).cons_of b1).cons_of b0); have Hd := Lib.hid hd; have Hv7 := Lib.hid hv7; clear hb9 hd hv7 b0 b1 b2; have c0 := HKc.out.c0; have c1 := HKc.out.c1; have c2 := HKc.out.c2; have c3 := HKc.out.c3; have c4 := HKc.out.c4; have c5 := HKc.out.c5; have c6 := HKc.out.c6; have c7 := HKc.out.c7; have c8 := HKc.out.t8.c0; rw [Hv7.out] at c0 c1 c2 c3 c4 c5 c6 c7 c8; rw [Hd.out] at c0 c1 c2
   have hs0 : v7.heap.size = d + 1 := by rw [Hv7.out, Hd.out]; simp
   obtain ⟨g2, hg2⟩ : ∃ z, z = d + 1 := ⟨_, rfl⟩; obtain ⟨v8, hv8⟩ : ∃ W, W = v7.alloc (.cells #[.string s] 9) := ⟨_, rfl⟩
   have hb9 : Below v7.heap.size v7 v8 := by rw [hv8]; exact Dt.box_below _ _ _
   have HS : Hid (Rd v8 v8.heap.size 1 (some ⟨g2, 0, none⟩) 1 1 (strs [s])) := by unfold Hid; rw [hv8, hg2, ← hs0]; exact rd_one1 _ _
   have HKc := Lib.hid (HKc.out.later hb9); have HKR := Lib.hid (HKR.out.later hb9); have HFR := Lib.hid (HFR.out.later hb9); have HR := Lib.hid (RdT.later HR.out hb9); have HDT := Lib.hid (RdT.later HDT.out hb9); have HRV := Lib.hid (And.intro HRV.out.1 (HRV.out.2.keep hb9.size fun b _ hlt => hb9.block b hlt)); have Hg2 := Lib.hid hg2; have Hv8 := Lib.hid hv8; clear hs0 hb9 hg2 hv8; go_wp2_with fail; rw [← Hd.out, ← Hv7.out, ← Hg2.out, ← Hv8.out]; clear c0 c1 c2 c3 c4 c5 c6 c7 c8; refine (wrap_any k.1 De Dk dn dm dc dd [s] (some ⟨g2, 0, none⟩) 1 1 v8 rfl (by omega) HS.out (LenT.few (by rw [HU.out.1, nodes_one]; omega)) (by rw [HU.out.1, nodes_one]; omega) HDT.out).mono ?_; rw [HU.out.1, wrapE_one HE.out HKY.out, wrapR_one HE.out HKY.out]; rintro e v9 ⟨Re, rn, rc, Rk, rm, rd, rfl, ho, hb9⟩; have hrlo : r < v8.heap.size := HFR.out.1; have HRT : Hid (RdO v9 (fun b => r < b) (wrapT (oneT ⟨a, n, ⟨#[]⟩, 0⟩) [s]) ⟨Re, rn, rc⟩ ⟨Rk, rm, rd⟩) := RdO.mono (fun b hb _ => Nat.lt_of_lt_of_le hrlo hb) _ ho
   have HKc := Lib.hid (HKc.out.later hb9); have HKR := Lib.hid (HKR.out.later hb9); have HFR := Lib.hid (HFR.out.later hb9); have HR := Lib.hid (RdT.later HR.out hb9); have HDT := Lib.hid (RdT.later HDT.out hb9); have HRV := Lib.hid (And.intro HRV.out.1 (HRV.out.2.keep hb9.size fun b _ hlt => hb9.block b hlt)); clear ho hb9 hrlo HS; obtain ⟨i, hi⟩ : ∃ g, g = v9.heap.size := ⟨_, rfl⟩; obtain ⟨v10, hv10⟩ : ∃ W, W = v9.alloc (.cells #[.slice Re rn rc, .slice Rk rm rd] 25) := ⟨_, rfl⟩
   have hb9 : Below v9.heap.size v9 v10 := by rw [hv10]; exact Dt.box_below _ _ _
   have b0 : v10.cell? ⟨i, 0, none⟩ = some (.slice Re rn rc) := by rw [hv10, hi]; go_simp
   have b1 : v10.cell? ⟨i, 1, none⟩ = some (.slice Rk rm rd) := by rw [hv10, hi]; go_simp
   have HKc := Lib.hid (HKc.out.later hb9); have HKR := Lib.hid (HKR.out.later hb9); have HFR := Lib.hid (HFR.out.later hb9); have HR := Lib.hid (RdT.later HR.out hb9); have HDT := Lib.hid (RdT.later HDT.out hb9); have HRV := Lib.hid (And.intro HRV.out.1 (HRV.out.2.keep hb9.size fun b _ hlt => hb9.block b hlt)); have HRT := Lib.hid (RdO.later HRT.out hb9); have HKc := Lib.hid ((HKc.out.cons_of b1).cons_of b0); have Hi := Lib.hid hi; have Hv10 := Lib.hid hv10; clear hb9 hi hv10 b0 b1; have c0 := HKc.out.c0; have c1 := HKc.out.c1; have c2 := HKc.out.c2; have c3 := HKc.out.c3; have c4 := HKc.out.c4; have c5 := HKc.out.c5; have c6 := HKc.out.c6; have c7 := HKc.out.c7; have c8 := HKc.out.t8.c0; have c9 := HKc.out.t8.c1; have c10 := HKc.out.t8.c2; rw [Hv10.out] at c0 c1 c2 c3 c4 c5 c6 c7 c8 c9 c10; rw [Hi.out] at c0 c1; have z0 := HKR.out.c0; have z1 := HKR.out.c1; have z2 := HKR.out.c2; have m0 := HFR.out.2 0
   have m1 := HFR.out.2 1; have m2 := HFR.out.2 2; obtain ⟨W9, hW9⟩ : ∃ W, W = ((v10.setCell ⟨r, 0, none⟩ (.slice Re rn rc)).setCell ⟨r, 1, none⟩ (.slice Rk rm rd)).setCell ⟨r, 2, none⟩ (.slice Rc rq re) := ⟨_, rfl⟩
   have HB9 : Hid (Below w.heap.size w W9) := by
    unfold Hid; rw [hW9]; exact ((HKc.out.below.setCell (p := ⟨r, 0, none⟩) hwr _).setCell (p := ⟨r, 1, none⟩) hwr _).setCell (p := ⟨r, 2, none⟩) hwr _
   have HO9 : Hid (OwC W9 w.heap.size (wrapT (oneT ⟨a, n, ⟨#[]⟩, 0⟩) [s], k.2) Re rn rc Rk rm rd Rc rq re) := by
    unfold Hid; rw [hW9]; exact ⟨RdO.mono (fun b hb _ => Nat.le_trans hwr (Nat.le_of_lt hb)) _ (RdO.keep (by rw [cells3]; exact Nat.le_refl _) (fun b hb _ => cells3_at b (by omega)) _ HRT.out), HRV.out.1, (HRV.out.2.keep (by rw [cells3]; exact Nat.le_refl _) (fun b hb _ => cells3_at b (by omega))).mono fun b hb _ => Nat.le_trans hwr (Nat.le_of_lt hb)⟩
   have l0 : W9.cell? ⟨r, 0, none⟩ = some (.slice Re rn rc) := by rw [hW9]; go_simp
   have l1 : W9.cell? ⟨r, 1, none⟩ = some (.slice Rk rm rd) := by rw [hW9]; go_simp
   have l2 : W9.cell? ⟨r, 2, none⟩ = some (.slice Rc rq re) := by rw [hW9]; go_simp
   have HW9 := Lib.hid hW9; clear hW9; rw [Hv10.out] at z0 z1 z2 m0 m1 m2; go_wp2_with fail; rw [← Hi.out, ← Hv10.out, ← HW9.out]; refine bodyPost_ret (v := .tuple #[.agg #[.slice Re rn rc, .slice Rk rm rd, .slice Rc rq re], .int .i64 0]) (by simp [results, Tryz.results11, go_sem, l0, l1, l2]) rfl ⟨(wrapT (oneT ⟨a, n, ⟨#[]⟩, 0⟩) [s], k.2), 0, Re, rn, rc, Rk, rm, rd, Rc, rq, re, rfl, HO9.out, Lib.hid (And.intro (fun _ => ⟨rfl, rfl, HU.out.2.1, HU.out.2.2⟩) (fun h => by rw [HOK.out] at h; cases h)), HB9.out⟩
  | true =>
   have HNO : Hid (¬ s ∈ keysOf t.ks) := HEM.out.1 (of_decide_eq_true HY.out)
   by_cases h24 : 24 ≤ nk
   ·have f24 : decide ((24 : Int) ≤ (nk : Int)) = true := by simp; omega
    have HOK : Hid (ok = false) := by
     unfold Hid; rw [← HOK0.out]; unfold roomB; rw [decide_eq_false HNO.out, decide_eq_false (by rw [HNK.out]; omega)]; simp
    have c0 := HKc.out.c0; have c1 := HKc.out.c1; have c2 := HKc.out.c2; have c3 := HKc.out.c3; have c4 := HKc.out.c4; have c5 := HKc.out.c5; have z0 := HKR.out.c0; have z1 := HKR.out.c1; have z2 := HKR.out.c2; have m0 := HFR.out.2 0; have m1 := HFR.out.2 1; have m2 := HFR.out.2 2; obtain ⟨W9, hW9⟩ : ∃ W, W = ((v5.setCell ⟨r, 0, none⟩ (.slice none 0 0)).setCell ⟨r, 1, none⟩ (.slice none 0 0)).setCell ⟨r, 2, none⟩ (.slice none 0 0) := ⟨_, rfl⟩
    have HB9 : Hid (Below w.heap.size w W9) := by
     unfold Hid; rw [hW9]; exact ((HKc.out.below.setCell (p := ⟨r, 0, none⟩) hwr _).setCell (p := ⟨r, 1, none⟩) hwr _).setCell (p := ⟨r, 2, none⟩) hwr _
    have l0 : W9.cell? ⟨r, 0, none⟩ = some (.slice none 0 0) := by rw [hW9]; go_simp
    have l1 : W9.cell? ⟨r, 1, none⟩ = some (.slice none 0 0) := by rw [hW9]; go_simp
    have l2 : W9.cell? ⟨r, 2, none⟩ = some (.slice none 0 0) := by rw [hW9]; go_simp
    have HW9 := Lib.hid hW9; clear hW9; go_wp2_with fail; rw [← HW9.out]; refine bodyPost_ret (v := .tuple #[.agg #[.slice none 0 0, .slice none 0 0, .slice none 0 0], .int .i64 4]) (by simp [results, Tryz.results11, go_sem, l0, l1, l2]) rfl ⟨noneK, 4, none, 0, 0, none, 0, 0, none, 0, 0, rfl, OwC.no _ _, Lib.hid (And.intro (fun h => by rw [HOK.out] at h; cases h) (fun _ => ⟨HER.out, rfl⟩)), HB9.out⟩
   ·have f24 : decide ((24 : Int) ≤ (nk : Int)) = false := by simp; omega
    have HOK : Hid (ok = true) := by
     unfold Hid; rw [← HOK0.out]; unfold roomB; rw [HMB.out, decide_eq_true (p := t.ks.length < 24) (by rw [HNK.out]; omega)]; rfl
    have c0 := HKc.out.c0; have c1 := HKc.out.c1; have c2 := HKc.out.c2; have c3 := HKc.out.c3; have c4 := HKc.out.c4; have c5 := HKc.out.c5; go_wp2_with fail; clear c0 c1 c2 c3 c4 c5; refine (enable_any (kidAt t.ks s) Ge Gk gn gm gc gd a n v5 (LenT.few (by have := nodes_kid_at t s; have := HN.out.2; omega)) (by have := nodes_kid_at t s; have := HN.out.2; omega) HG.out).mono ?_; rintro e v6 ⟨k, z9, De, dn, dc, Dk, dm, dd, Rc, rq, re, rfl, how, hz9, hb9⟩; obtain ⟨rfl, hk1, hna, hu⟩ := hz9.out.1 (kid_check HCB.out); have hrlo : r < v5.heap.size := HFR.out.1; have HRV : Hid (k.2.length = rq ∧ RO v6 (fun b => r < b) 3 Rc rq re (spsC k.2)) := ⟨how.out.len, how.out.ctx.mono fun b hb _ => Nat.lt_of_lt_of_le hrlo hb⟩; have HDT := Lib.hid how.out.rdT; have HU : Hid (k.1 = oneT ⟨a, n, ⟨#[]⟩, 0⟩ ∧ rq ≤ 4 * nodes t + 4 ∧ ∃ u, OfC (dl (kidAt t.ks s)) u ∧ PutC uniF u (oneC a n) k.2) := ⟨hk1, by have := nodes_kid_at t s; omega, hu⟩
    have HKc := Lib.hid (HKc.out.later hb9); have HKR := Lib.hid (HKR.out.later hb9); have HFR := Lib.hid (HFR.out.later hb9); have HR := Lib.hid (RdT.later HR.out hb9); clear how hz9 hb9 hk1 hna hu hrlo; obtain ⟨d, hd⟩ : ∃ g, g = v6.heap.size := ⟨_, rfl⟩; obtain ⟨v7, hv7⟩ : ∃ W, W = v6.alloc (.cells #[.slice De dn dc, .slice Dk dm dd, .slice Rc rq re] 33) := ⟨_, rfl⟩
    have hb9 : Below v6.heap.size v6 v7 := by rw [hv7]; exact Dt.box_below _ _ _
    have b0 : v7.cell? ⟨d, 0, none⟩ = some (.slice De dn dc) := by rw [hv7, hd]; go_simp
    have b1 : v7.cell? ⟨d, 1, none⟩ = some (.slice Dk dm dd) := by rw [hv7, hd]; go_simp
    have b2 : v7.cell? ⟨d, 2, none⟩ = some (.slice Rc rq re) := by rw [hv7, hd]; go_simp
    have HKc := Lib.hid (HKc.out.later hb9); have HKR := Lib.hid (HKR.out.later hb9); have HFR := Lib.hid (HFR.out.later hb9); have HR := Lib.hid (RdT.later HR.out hb9); have HDT := Lib.hid (RdT.later HDT.out hb9); have HRV := Lib.hid (And.intro HRV.out.1 (HRV.out.2.keep hb9.size fun b _ hlt => hb9.block b hlt)); have HKc := Lib.hid (((HKc.out.cons_of b2).cons_of b1).cons_of b0); have Hd := Lib.hid hd; have Hv7 := Lib.hid hv7; clear hb9 hd hv7 b0 b1 b2; have c0 := HKc.out.c0; have c1 := HKc.out.c1; have c2 := HKc.out.c2; have c3 := HKc.out.c3; have c4 := HKc.out.c4; have c5 := HKc.out.c5; have c6 := HKc.out.c6; have c7 := HKc.out.c7; have c8 := HKc.out.t8.c0; rw [Hv7.out] at c0 c1 c2 c3 c4 c5 c6 c7 c8; rw [Hd.out] at c0 c1 c2
    have hs0 : v7.heap.size = d + 1 := by rw [Hv7.out, Hd.out]; simp
    obtain ⟨g2, hg2⟩ : ∃ z, z = d + 1 := ⟨_, rfl⟩; obtain ⟨v8, hv8⟩ : ∃ W, W = v7.alloc (.cells #[.string s] 9) := ⟨_, rfl⟩
    have hb9 : Below v7.heap.size v7 v8 := by rw [hv8]; exact Dt.box_below _ _ _
    have HS : Hid (Rd v8 v8.heap.size 1 (some ⟨g2, 0, none⟩) 1 1 (strs [s])) := by unfold Hid; rw [hv8, hg2, ← hs0]; exact rd_one1 _ _
    have HKc := Lib.hid (HKc.out.later hb9); have HKR := Lib.hid (HKR.out.later hb9); have HFR := Lib.hid (HFR.out.later hb9); have HR := Lib.hid (RdT.later HR.out hb9); have HDT := Lib.hid (RdT.later HDT.out hb9); have HRV := Lib.hid (And.intro HRV.out.1 (HRV.out.2.keep hb9.size fun b _ hlt => hb9.block b hlt)); have Hg2 := Lib.hid hg2; have Hv8 := Lib.hid hv8; clear hs0 hb9 hg2 hv8; go_wp2_with fail; rw [← Hd.out, ← Hv7.out, ← Hg2.out, ← Hv8.out]; clear c0 c1 c2 c3 c4 c5 c6 c7 c8; refine (wrap_any k.1 De Dk dn dm dc dd [s] (some ⟨g2, 0, none⟩) 1 1 v8 rfl (by omega) HS.out (LenT.few (by rw [HU.out.1, nodes_one]; omega)) (by rw [HU.out.1, nodes_one]; omega) HDT.out).mono ?_; rw [HU.out.1, wrapE_one HE.out HKY.out, wrapR_one HE.out HKY.out]; rintro e v9 ⟨Re, rn, rc, Rk, rm, rd, rfl, ho, hb9⟩; have hrlo : r < v8.heap.size := HFR.out.1; have HRT : Hid (RdO v9 (fun b => r < b) (wrapT (oneT ⟨a, n, ⟨#[]⟩, 0⟩) [s]) ⟨Re, rn, rc⟩ ⟨Rk, rm, rd⟩) := RdO.mono (fun b hb _ => Nat.lt_of_lt_of_le hrlo hb) _ ho
    have HKc := Lib.hid (HKc.out.later hb9); have HKR := Lib.hid (HKR.out.later hb9); have HFR := Lib.hid (HFR.out.later hb9); have HR := Lib.hid (RdT.later HR.out hb9); have HDT := Lib.hid (RdT.later HDT.out hb9); have HRV := Lib.hid (And.intro HRV.out.1 (HRV.out.2.keep hb9.size fun b _ hlt => hb9.block b hlt)); clear ho hb9 hrlo HS; obtain ⟨i, hi⟩ : ∃ g, g = v9.heap.size := ⟨_, rfl⟩; obtain ⟨v10, hv10⟩ : ∃ W, W = v9.alloc (.cells #[.slice Re rn rc, .slice Rk rm rd] 25) := ⟨_, rfl⟩
    have hb9 : Below v9.heap.size v9 v10 := by rw [hv10]; exact Dt.box_below _ _ _
    have b0 : v10.cell? ⟨i, 0, none⟩ = some (.slice Re rn rc) := by rw [hv10, hi]; go_simp
    have b1 : v10.cell? ⟨i, 1, none⟩ = some (.slice Rk rm rd) := by rw [hv10, hi]; go_simp
    have HKc := Lib.hid (HKc.out.later hb9); have HKR := Lib.hid (HKR.out.later hb9); have HFR := Lib.hid (HFR.out.later hb9); have HR := Lib.hid (RdT.later HR.out hb9); have HDT := Lib.hid (RdT.later HDT.out hb9); have HRV := Lib.hid (And.intro HRV.out.1 (HRV.out.2.keep hb9.size fun b _ hlt => hb9.block b hlt)); have HRT := Lib.hid (RdO.later HRT.out hb9); have HKc := Lib.hid ((HKc.out.cons_of b1).cons_of b0); have Hi := Lib.hid hi; have Hv10 := Lib.hid hv10; clear hb9 hi hv10 b0 b1; have c0 := HKc.out.c0; have c1 := HKc.out.c1; have c2 := HKc.out.c2; have c3 := HKc.out.c3; have c4 := HKc.out.c4; have c5 := HKc.out.c5; have c6 := HKc.out.c6; have c7 := HKc.out.c7; have c8 := HKc.out.t8.c0; have c9 := HKc.out.t8.c1; have c10 := HKc.out.t8.c2; rw [Hv10.out] at c0 c1 c2 c3 c4 c5 c6 c7 c8 c9 c10; rw [Hi.out] at c0 c1; have z0 := HKR.out.c0; have z1 := HKR.out.c1; have z2 := HKR.out.c2; have m0 := HFR.out.2 0
    have m1 := HFR.out.2 1; have m2 := HFR.out.2 2; obtain ⟨W9, hW9⟩ : ∃ W, W = ((v10.setCell ⟨r, 0, none⟩ (.slice Re rn rc)).setCell ⟨r, 1, none⟩ (.slice Rk rm rd)).setCell ⟨r, 2, none⟩ (.slice Rc rq re) := ⟨_, rfl⟩
    have HB9 : Hid (Below w.heap.size w W9) := by
     unfold Hid; rw [hW9]; exact ((HKc.out.below.setCell (p := ⟨r, 0, none⟩) hwr _).setCell (p := ⟨r, 1, none⟩) hwr _).setCell (p := ⟨r, 2, none⟩) hwr _
    have HO9 : Hid (OwC W9 w.heap.size (wrapT (oneT ⟨a, n, ⟨#[]⟩, 0⟩) [s], k.2) Re rn rc Rk rm rd Rc rq re) := by
     unfold Hid; rw [hW9]; exact ⟨RdO.mono (fun b hb _ => Nat.le_trans hwr (Nat.le_of_lt hb)) _ (RdO.keep (by rw [cells3]; exact Nat.le_refl _) (fun b hb _ => cells3_at b (by omega)) _ HRT.out), HRV.out.1, (HRV.out.2.keep (by rw [cells3]; exact Nat.le_refl _) (fun b hb _ => cells3_at b (by omega))).mono fun b hb _ => Nat.le_trans hwr (Nat.le_of_lt hb)⟩
    have l0 : W9.cell? ⟨r, 0, none⟩ = some (.slice Re rn rc) := by rw [hW9]; go_simp
    have l1 : W9.cell? ⟨r, 1, none⟩ = some (.slice Rk rm rd) := by rw [hW9]; go_simp
    have l2 : W9.cell? ⟨r, 2, none⟩ = some (.slice Rc rq re) := by rw [hW9]; go_simp
    have HW9 := Lib.hid hW9; clear hW9; rw [Hv10.out] at z0 z1 z2 m0 m1 m2; go_wp2_with fail; rw [← Hi.out, ← Hv10.out, ← HW9.out]; refine bodyPost_ret (v := .tuple #[.agg #[.slice Re rn rc, .slice Rk rm rd, .slice Rc rq re], .int .i64 0]) (by simp [results, Tryz.results11, go_sem, l0, l1, l2]) rfl ⟨(wrapT (oneT ⟨a, n, ⟨#[]⟩, 0⟩) [s], k.2), 0, Re, rn, rc, Rk, rm, rd, Rc, rq, re, rfl, HO9.out, Lib.hid (And.intro (fun _ => ⟨rfl, rfl, HU.out.2.1, HU.out.2.2⟩) (fun h => by rw [HOK.out] at h; cases h)), HB9.out⟩
end Cs
end Go.Proofs.YtemilfojnecldaaGreat
