/- Registers: to write. -/
import Derived.Test.YtnlojpolfkjkoaaGreatG90
import Derived.Test.YtnlojpolfkjkoaaGreatG1220
import Derived.Test.YtnlojpolfkjkoaaGreatFlag2
import Derived.Test.YtnlojpolfkjkoaaGreatCtxOf
namespace Go.Proofs.YtnlojpolfkjkoaaGreat
open Go.ChangeShapes Go.WideShapes Go.ChangeAt Go.RowKit
namespace Cs
open Tr Cx Sp Rw Classical
noncomputable def wB (t : T) (s : ByteArray) (a n : Int) : Bool := checkB t a n && decide (s.size ≤ 30)
theorem wB_iff {t : T} {s : ByteArray} {a n : Int} : wB t s a n = true ↔ checkB t a n = true ∧ s.size ≤ 30 := by
 unfold wB; rw [Bool.and_eq_true, decide_eq_true_iff]
theorem wB_no {t : T} {s : ByteArray} {a n : Int} (h : checkB t a n = false) : wB t s a n = false := by
 unfold wB; rw [h, Bool.false_and]
theorem wB_long {t : T} {s : ByteArray} {a n : Int} (h : ¬ s.size ≤ 30) : wB t s a n = false := by
 unfold wB; rw [decide_eq_false h, Bool.and_false]
theorem own_check {t : T} {a n : Int} (h : checkB t a n = true) : checkB (.mk t.es []) a n = true := by
 obtain ⟨h1, h2, h3⟩ := check_iff.1 h; refine check_iff.2 ⟨right_own h1, h2, fun h4 => h3 ?_⟩; rw [ownD_dl] at h4; exact own_sub h1 h4
theorem own_nodes (t : T) : nodes (.mk t.es []) ≤ nodes t := by
 rw [nodes_mk]; have h := nodes_es t.es t.ks; rw [T.eta] at h; simp; omega
theorem own_rd {w : World} {B : Nat} {t : T} {Ae Ak : Option Addr} {ne nk ce ck : Nat} (hr : RdT w B t ⟨Ae, ne, ce⟩ ⟨Ak, nk, ck⟩) : RdT w B (.mk t.es []) ⟨Ae, ne, ce⟩ ⟨none, 0, 0⟩ := by
 have h := hr; rw [← T.eta t, rdT_mk] at h; rw [rdT_mk]; exact ⟨h.1, h.2.1, rfl, [], Rd.nil _, fun i hi => by simp at hi⟩
theorem text_e {a n : Int} {s : ByteArray} (h : Dt.rightB a n = true) (hs : s.size ≤ 30) : RightE ⟨a, n, s, 0⟩ := ⟨h, hs, by show (-1099511627776 : Int) ≤ 0; decide, by show (0 : Int) ≤ 1099511627776; decide⟩
set_option maxRecDepth 100000 in
set_option maxHeartbeats 4000000 in
theorem rwrite_any (t : T) (Ae Ak : Option Addr) (ne nk ce ck : Nat) (s : ByteArray) (a n : Int) (w : World) (hl : LenT reachBytes t) (hn : nodes t ≤ 1000) (hr : RdT w w.heap.size t ⟨Ae, ne, ce⟩ ⟨Ak, nk, ck⟩) :
  Calls Tryz.prog 9 #[.agg #[.slice Ae ne ce, .slice Ak nk ck], .string s, .agg #[.int .i64 a, .int .i64 n]] w (DeltaIs w.heap.size (wB t s a n) 1 (oneT ⟨a, n, s, 0⟩) (ownD t) a n (4 * nodes t + 4) w) := by
 obtain ⟨W, p, q, r, HW, HP, HQ, HR0, HKc, HKR, HFR⟩ := boxTDC w Ae Ak ne nk ce ck a n
 have hwr : w.heap.size ≤ r := by have := HP.out; have := HR0.out; omega
 have hpr : p < r := by have := HP.out; have := HR0.out; omega
 have hqr : q < r := by have := HQ.out; have := HR0.out; omega
 obtain ⟨ok, hok⟩ : ∃ ok, wB t s a n = ok := ⟨_, rfl⟩; rw [hok]; have HOK := Lib.hid hok; obtain ⟨z, hz⟩ : ∃ z, checkB t a n = z := ⟨_, rfl⟩; have HR := Lib.hid (RdT.more HKc.out.below.size _ (RdT.below hr HKc.out.below)); have HD := Lib.hid (fcheck_any t Ae Ak ne nk ce ck a n W z hz hl hn HR.out); have HMB := Lib.hid hz; have HN := Lib.hid hn; clear hl hn hr hz hok; have c0 := HKc.out.c0; have c1 := HKc.out.c1; have c2 := HKc.out.c2; have c3 := HKc.out.c3; go_enter Tryz.func9, Tryz.ntmps9; go_wp2_with fail; rw [← HP.out, ← HW.out]
 try rw [← HR0.out]
 try rw [← HQ.out]
 refine HD.out.mono ?_; rintro e v1 ⟨rfl, hb9⟩; have HKc := Lib.hid (HKc.out.later hb9); have HKR := Lib.hid (HKR.out.later hb9); have HFR := Lib.hid (HFR.out.later hb9); have HR := Lib.hid (RdT.later HR.out hb9); clear hb9 HD c0 c1 c2 c3
 cases z with
 | false =>
  have HNO : Hid (ok = false) := by unfold Hid; rw [← HOK.out]; exact wB_no HMB.out
  have z0 := HKR.out.c0; have z1 := HKR.out.c1; have z2 := HKR.out.c2; have m0 := HFR.out.2 0; have m1 := HFR.out.2 1; have m2 := HFR.out.2 2; obtain ⟨W9, hW9⟩ : ∃ W, W = ((v1.setCell ⟨r, 0, none⟩ (.slice none 0 0)).setCell ⟨r, 1, none⟩ (.slice none 0 0)).setCell ⟨r, 2, none⟩ (.slice none 0 0) := ⟨_, rfl⟩
  have HB9 : Hid (Below w.heap.size w W9) := by
   unfold Hid; rw [hW9]; exact ((HKc.out.below.setCell (p := ⟨r, 0, none⟩) hwr _).setCell (p := ⟨r, 1, none⟩) hwr _).setCell (p := ⟨r, 2, none⟩) hwr _
  have l0 : W9.cell? ⟨r, 0, none⟩ = some (.slice none 0 0) := by rw [hW9]; go_simp
  have l1 : W9.cell? ⟨r, 1, none⟩ = some (.slice none 0 0) := by rw [hW9]; go_simp
  have l2 : W9.cell? ⟨r, 2, none⟩ = some (.slice none 0 0) := by rw [hW9]; go_simp
  have HW9 := Lib.hid hW9; clear hW9; go_wp2_with fail; rw [← HW9.out]; refine bodyPost_ret (v := .tuple #[.agg #[.slice none 0 0, .slice none 0 0, .slice none 0 0], .int .i64 1]) (by simp [results, Tryz.results9, go_sem, l0, l1, l2]) rfl ⟨noneK, 1, none, 0, 0, none, 0, 0, none, 0, 0, rfl, OwC.no _ _, Lib.hid (And.intro (fun h => by rw [HNO.out] at h; cases h) (fun _ => ⟨rfl, rfl⟩)), HB9.out⟩
 | true =>
  by_cases h1 : s.size ≤ 30
  ·have f1 : decide ((30 : Int) < (s.size : Int)) = false := decide_eq_false (by omega)
   have HYE : Hid (ok = true) := by unfold Hid; rw [← HOK.out]; exact wB_iff.2 ⟨HMB.out, h1⟩
   clear h1; have c0 := HKc.out.c0; have c1 := HKc.out.c1; have c2 := HKc.out.c2; have c3 := HKc.out.c3; go_wp2_with fail; clear c0 c1 c2 c3; refine (enable_any (.mk t.es []) Ae none ne 0 ce 0 a n v1 (LenT.few (by have := own_nodes t; have := HN.out; omega)) (by have := own_nodes t; have := HN.out; omega) (own_rd HR.out)).mono ?_; rintro e v2 ⟨k, z9, De, dn, dc, Dk, dm, dd, Rc, rq, re, rfl, how, hz9, hb9⟩; obtain ⟨rfl, hk1, hna, u, hu, hpv⟩ := hz9.out.1 (own_check HMB.out); rw [ownD_dl] at hu; have hrlo : r < v1.heap.size := HFR.out.1; have HRV : Hid (k.2.length = rq ∧ RO v2 (fun b => r < b) 3 Rc rq re (spsC k.2)) := ⟨how.out.len, how.out.ctx.mono fun b hb _ => Nat.lt_of_lt_of_le hrlo hb⟩; have HU : Hid (rq ≤ 4 * nodes t + 4 ∧ ∃ u, OfC (ownD t) u ∧ PutC uniF u (oneC a n) k.2) := ⟨by have := own_nodes t; omega, u, hu, hpv⟩; have HKc := Lib.hid (HKc.out.later hb9); have HKR := Lib.hid (HKR.out.later hb9)
   have HFR := Lib.hid (HFR.out.later hb9); have HR := Lib.hid (RdT.later HR.out hb9); clear how hz9 hb9 hk1 hna hu hpv hrlo; obtain ⟨d, hd⟩ : ∃ g, g = v2.heap.size := ⟨_, rfl⟩; obtain ⟨v3, hv3⟩ : ∃ W, W = v2.alloc (.cells #[.slice De dn dc, .slice Dk dm dd, .slice Rc rq re] 33) := ⟨_, rfl⟩
   have hb9 : Below v2.heap.size v2 v3 := by rw [hv3]; exact Dt.box_below _ _ _
   have b0 : v3.cell? ⟨d, 0, none⟩ = some (.slice De dn dc) := by rw [hv3, hd]; go_simp
   have b1 : v3.cell? ⟨d, 1, none⟩ = some (.slice Dk dm dd) := by rw [hv3, hd]; go_simp
   have b2 : v3.cell? ⟨d, 2, none⟩ = some (.slice Rc rq re) := by rw [hv3, hd]; go_simp
   have hs3 : v3.heap.size = d + 1 := by rw [hv3, hd]; simp
   have hrv : r < v2.heap.size := HFR.out.1; have z0 := HKR.out.c0; have z1 := HKR.out.c1; have z2 := HKR.out.c2; have m0 := HFR.out.2 0; have m1 := HFR.out.2 1; have m2 := HFR.out.2 2; have HB2 := Lib.hid HKc.out.below
   have hrd : r < d := by rw [hd]; exact hrv
   have HKc := Lib.hid (HKc.out.later hb9); have HKc := Lib.hid (((HKc.out.cons_of b2).cons_of b1).cons_of b0); obtain ⟨h, hh⟩ : ∃ g, g = d + 1 := ⟨_, rfl⟩; obtain ⟨W7, hW7⟩ : ∃ W, W = ((v2.setCell ⟨r, 0, none⟩ (.slice (some ⟨h, 0, none⟩) 1 1)).setCell ⟨r, 1, none⟩ (.slice none 0 0)).setCell ⟨r, 2, none⟩ (.slice Rc rq re) := ⟨_, rfl⟩; obtain ⟨W8, hW8⟩ : ∃ W, W = W7.alloc (.cells #[.slice De dn dc, .slice Dk dm dd, .slice Rc rq re] 33) := ⟨_, rfl⟩; obtain ⟨W9, hW9⟩ : ∃ W, W = W8.alloc (.cells #[.int .i64 a, .int .i64 n, .string s, .int .i64 0] 41) := ⟨_, rfl⟩
   have hs7 : W7.heap.size = d := by rw [hW7, cells3, hd]
   have hs8 : W8.heap.size = h := by rw [hW8]; simp; omega
   have hb7 : Below w.heap.size w W7 := by
    rw [hW7]; exact ((HB2.out.setCell (p := ⟨r, 0, none⟩) hwr _).setCell (p := ⟨r, 1, none⟩) hwr _).setCell (p := ⟨r, 2, none⟩) hwr _
   have hb78 : Below W7.heap.size W7 W8 := by rw [hW8]; exact Dt.box_below _ _ _
   have hb89 : Below W8.heap.size W8 W9 := by rw [hW9]; exact Dt.box_below _ _ _
   have hb79 : Below W7.heap.size W7 W9 := hb78.trans (hb89.mono hb78.size); have HB9 : Hid (Below w.heap.size w W9) := hb7.trans (hb79.mono hb7.size)
   have hr7 : r < W7.heap.size := by rw [hs7]; exact hrd
   have hwh : w.heap.size ≤ h := by omega
   have Hh := Lib.hid hh; have Hd := Lib.hid hd; have Hv3 := Lib.hid hv3; clear hh hd hv3
   have l0' : W7.cell? ⟨r, 0, none⟩ = some (.slice (some ⟨h, 0, none⟩) 1 1) := by rw [hW7]; go_simp
   have l1' : W7.cell? ⟨r, 1, none⟩ = some (.slice none 0 0) := by rw [hW7]; go_simp
   have l2' : W7.cell? ⟨r, 2, none⟩ = some (.slice Rc rq re) := by rw [hW7]; go_simp
   have l0 := (hb79.cell (p := ⟨r, 0, none⟩) hr7).trans l0'; have l1 := (hb79.cell (p := ⟨r, 1, none⟩) hr7).trans l1'; have l2 := (hb79.cell (p := ⟨r, 2, none⟩) hr7).trans l2'
   have HE : RO W9 (fun b => h ≤ b) 4 (some ⟨h, 0, none⟩) 1 1 (entsC [⟨a, n, s, 0⟩]) := by
    refine ⟨rfl, Nat.le_refl _, fun u hu => ?_, fun _ => ⟨_, _, rfl, Nat.le_refl _, by rw [hW9]; simp; omega, fun j => by rw [hW9, ← hs8]; go_simp, fun j u hu => ?_⟩⟩
    ·simp [entsC, entC] at hu
     rcases hu with rfl | rfl | rfl | rfl <;> rfl
    ·rw [Nat.zero_add, hW9, ← hs8, cell_of_row _ _ j _ _ (0, 0) (heap_alloc_new _ _)]
     simpa [entsC, entC] using hu
   have HO9 : Hid (OwC W9 w.heap.size (oneT ⟨a, n, s, 0⟩, k.2) (some ⟨h, 0, none⟩) 1 1 none 0 0 Rc rq re) := by
    have h8 : RO W7 (fun b => r < b) 3 Rc rq re (spsC k.2) := HRV.out.2.keep (by rw [hW7, cells3]; exact Nat.le_refl _) fun b hb _ => by rw [hW7]; exact cells3_at b (by omega)
    refine ⟨?_, HRV.out.1, (h8.keep hb79.size fun b _ hlt => hb79.block b hlt).mono fun b hb _ => Nat.le_trans hwr (Nat.le_of_lt hb)⟩; show RdO _ _ (.mk [_] []) _ _; rw [rdO_mk]; exact ⟨rfl, HE.mono fun b hb _ => Nat.le_trans hwh hb, rfl, [], RO.nil _ _ _ _ _, fun i hi => by simp at hi⟩
   have HW7 := Lib.hid hW7; have HW8 := Lib.hid hW8; have HW9 := Lib.hid hW9; clear hW7 hW8 hW9 hb9 hb7 hb78 hb89 hb79 hs7 hs8 hs3 hr7 l0' l1' l2' HE b0 b1 b2; have c0 := HKc.out.c0; have c1 := HKc.out.c1; have c2 := HKc.out.c2; have c3 := HKc.out.c3; have c4 := HKc.out.c4; have c5 := HKc.out.c5; have c6 := HKc.out.c6; rw [Hv3.out] at c0 c1 c2 c3 c4 c5 c6; rw [Hd.out] at c0 c1 c2; go_wp2_with fail; rw [← Hd.out, ← Hh.out, ← HW7.out, ← HW8.out, ← HW9.out]; refine bodyPost_ret (v := .tuple #[.agg #[.slice (some ⟨h, 0, none⟩) 1 1, .slice none 0 0, .slice Rc rq re], .int .i64 0]) (by simp [results, Tryz.results9, go_sem, l0, l1, l2]) rfl ⟨(oneT ⟨a, n, s, 0⟩, k.2), 0, some ⟨h, 0, none⟩, 1, 1, none, 0, 0, Rc, rq, re, rfl, HO9.out, Lib.hid (And.intro (fun _ => ⟨rfl, rfl, HU.out.1, HU.out.2⟩) (fun h => by rw [HYE.out] at h; cases h)), HB9.out⟩
  ·have f1 : decide ((30 : Int) < (s.size : Int)) = true := decide_eq_true (by omega)
   have HNO : Hid (ok = false) := by unfold Hid; rw [← HOK.out]; exact wB_long h1
   clear h1; have z0 := HKR.out.c0; have z1 := HKR.out.c1; have z2 := HKR.out.c2; have m0 := HFR.out.2 0; have m1 := HFR.out.2 1; have m2 := HFR.out.2 2; obtain ⟨W9, hW9⟩ : ∃ W, W = ((v1.setCell ⟨r, 0, none⟩ (.slice none 0 0)).setCell ⟨r, 1, none⟩ (.slice none 0 0)).setCell ⟨r, 2, none⟩ (.slice none 0 0) := ⟨_, rfl⟩
   have HB9 : Hid (Below w.heap.size w W9) := by
    unfold Hid; rw [hW9]; exact ((HKc.out.below.setCell (p := ⟨r, 0, none⟩) hwr _).setCell (p := ⟨r, 1, none⟩) hwr _).setCell (p := ⟨r, 2, none⟩) hwr _
   have l0 : W9.cell? ⟨r, 0, none⟩ = some (.slice none 0 0) := by rw [hW9]; go_simp
   have l1 : W9.cell? ⟨r, 1, none⟩ = some (.slice none 0 0) := by rw [hW9]; go_simp
   have l2 : W9.cell? ⟨r, 2, none⟩ = some (.slice none 0 0) := by rw [hW9]; go_simp
   have HW9 := Lib.hid hW9; clear hW9; go_wp2_with fail; rw [← HW9.out]; refine bodyPost_ret (v := .tuple #[.agg #[.slice none 0 0, .slice none 0 0, .slice none 0 0], .int .i64 1]) (by simp [results, Tryz.results9, go_sem, l0, l1, l2]) rfl ⟨noneK, 1, none, 0, 0, none, 0, 0, none, 0, 0, rfl, OwC.no _ _, Lib.hid (And.intro (fun h => by rw [HNO.out] at h; cases h) (fun _ => ⟨rfl, rfl⟩)), HB9.out⟩
end Cs
end Go.Proofs.YtnlojpolfkjkoaaGreat
