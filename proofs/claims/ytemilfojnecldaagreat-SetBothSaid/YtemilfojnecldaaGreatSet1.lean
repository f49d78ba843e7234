/- Sets: what may be changed; an element is taken away: the program. -/
import Derived.Test.YtemilfojnecldaaGreatG00
import Derived.Test.YtemilfojnecldaaGreatG1220
import Derived.Test.YtemilfojnecldaaGreatFlag2
import Derived.Test.YtemilfojnecldaaGreatG90
import Derived.Test.YtemilfojnecldaaGreatG20
import Derived.Test.YtemilfojnecldaaGreatG10
import Derived.Test.YtemilfojnecldaaGreatG140
set_option maxRecDepth 100000
set_option maxHeartbeats 4000000
namespace Go.Proofs.YtemilfojnecldaaGreat
open Go.ChangeShapes Go.WideShapes Go.ChangeAt Go.RowKit
namespace Cs
open Tr Cx Sp Rw Classical
noncomputable def mayB (t : T) (s : ByteArray) (a n : Int) : Bool := checkB t a n && keyB s
theorem may_iff {t : T} {s : ByteArray} {a n : Int} : mayB t s a n = true ↔ checkB t a n = true ∧ KeyOk s := by
 unfold mayB; rw [Bool.and_eq_true, keyB_iff]
theorem kid_check {t : T} {s : ByteArray} {a n : Int} (h : checkB t a n = true) : checkB (kidAt t.ks s) a n = true := by
 obtain ⟨h1, h2, h3⟩ := check_iff.1 h; exact check_iff.2 ⟨kid_right h1 s, h2, fun h4 => h3 (kid_sub h1 h4)⟩
theorem nodes_kid_at (t : T) (s : ByteArray) : nodes (kidAt t.ks s) ≤ nodes t := by
 cases t
 exact nodes_kidAt _ _ _
theorem scheck_any (t : T) (Ae Ak : Option Addr) (ne nk ce ck : Nat) (s : ByteArray) (a n : Int) (w : World) (z : Bool) (hz : mayB t s a n = z) (hl : LenT reachBytes t) (hn : nodes t ≤ 1000) (hr : RdT w w.heap.size t ⟨Ae, ne, ce⟩ ⟨Ak, nk, ck⟩) :
  Calls Tryz.prog 32 #[.agg #[.slice Ae ne ce, .slice Ak nk ck], .string s, .agg #[.int .i64 a, .int .i64 n]] w fun e w' => e = .returned (.int .i64 (if z = true then 0 else 1)) ∧ Below w.heap.size w w' := by
 obtain ⟨W, p, q, HW, HP, HQ, HKc⟩ := boxTD w Ae Ak ne nk ce ck a n; obtain ⟨y, hy⟩ : ∃ y, checkB t a n = y := ⟨_, rfl⟩; have HD := Lib.hid (fcheck_any t Ae Ak ne nk ce ck a n W y hy hl hn (RdT.more HKc.out.below.size _ (RdT.below hr HKc.out.below)))
 have HZ : Hid ((y && keyB s) = z) := by unfold Hid; rw [← hy]; exact hz
 clear hl hn hr hz hy; have c0 := HKc.out.c0; have c1 := HKc.out.c1; have c2 := HKc.out.c2; have c3 := HKc.out.c3
 cases y with
 | false =>
  obtain rfl : z = false := by rw [← HZ.out]; rfl
  go_enter Tryz.func32, Tryz.ntmps32; go_wp2_with fail; rw [← HP.out, ← HW.out]
  try rw [← HQ.out]
  refine HD.out.mono ?_; rintro e v1 ⟨rfl, hb9⟩; have HKc := Lib.hid (HKc.out.later hb9); clear hb9 HD c0 c1 c2 c3; go_wp2_with fail; go_ret; exact ⟨rfl, HKc.out.below⟩
 | true =>
  have hzk : keyB s = z := by rw [← HZ.out]; rfl
  have HZK := Lib.hid hzk; clear hzk
  by_cases h0 : 1 ≤ s.size
  ·have f0 : decide ((s.size : Int) < 1) = false := by simp; omega
   by_cases h1 : s.size ≤ 30
   ·have f1 : decide ((30 : Int) < (s.size : Int)) = false := by simp; omega
    obtain rfl : z = true := by rw [← HZK.out]; exact keyB_iff.2 ⟨h0, h1⟩
    go_enter Tryz.func32, Tryz.ntmps32; go_wp2_with fail; rw [← HP.out, ← HW.out]
    try rw [← HQ.out]
    refine HD.out.mono ?_; rintro e v1 ⟨rfl, hb9⟩; have HKc := Lib.hid (HKc.out.later hb9); clear hb9 HD c0 c1 c2 c3; go_wp2_with fail; go_ret; exact ⟨rfl, HKc.out.below⟩
   ·have f1 : decide ((30 : Int) < (s.size : Int)) = true := by simp; omega
    obtain rfl : z = false := by
     rw [← HZK.out]
     cases h : keyB s with
     | false => rfl
     | true => exact absurd (keyB_iff.1 h).2 h1
    go_enter Tryz.func32, Tryz.ntmps32; go_wp2_with fail; rw [← HP.out, ← HW.out]
    try rw [← HQ.out]
    refine HD.out.mono ?_; rintro e v1 ⟨rfl, hb9⟩; have HKc := Lib.hid (HKc.out.later hb9); clear hb9 HD c0 c1 c2 c3; go_wp2_with fail; go_ret; exact ⟨rfl, HKc.out.below⟩
  ·have f0 : decide ((s.size : Int) < 1) = true := by simp; omega
   obtain rfl : z = false := by
    rw [← HZK.out]
    cases h : keyB s with
    | false => rfl
    | true => exact absurd (keyB_iff.1 h).1 h0
   go_enter Tryz.func32, Tryz.ntmps32; go_wp2_with fail; rw [← HP.out, ← HW.out]
   try rw [← HQ.out]
   refine HD.out.mono ?_; rintro e v1 ⟨rfl, hb9⟩; have HKc := Lib.hid (HKc.out.later hb9); clear hb9 HD c0 c1 c2 c3; go_wp2_with fail; go_ret; exact ⟨rfl, HKc.out.below⟩
theorem sdel_any (t : T) (Ae Ak : Option Addr) (ne nk ce ck : Nat) (s : ByteArray) (a n : Int) (w : World) (hl : LenT reachBytes t) (hn : nodes t ≤ 1000) (hr : RdT w w.heap.size t ⟨Ae, ne, ce⟩ ⟨Ak, nk, ck⟩) :
  Calls Tryz.prog 17 #[.agg #[.slice Ae ne ce, .slice Ak nk ck], .string s, .agg #[.int .i64 a, .int .i64 n]] w (DeltaIs w.heap.size (mayB t s a n) 1 none_ (dl (kidAt t.ks s)) a n (4 * nodes t + 4) w) := by
 obtain ⟨W, p, q, r, HW, HP, HQ, HR0, HKc, HKR, HFR⟩ := boxTDC w Ae Ak ne nk ce ck a n
 have hwr : w.heap.size ≤ r := by have := HP.out; have := HR0.out; omega
 have hpr : p < r := by have := HP.out; have := HR0.out; omega
 have hqr : q < r := by have := HQ.out; have := HR0.out; omega
 obtain ⟨z, hz⟩ : ∃ z, mayB t s a n = z := ⟨_, rfl⟩; have HR := Lib.hid (RdT.more HKc.out.below.size _ (RdT.below hr HKc.out.below)); have HD := Lib.hid (scheck_any t Ae Ak ne nk ce ck s a n W z hz hl hn HR.out); have HN := Lib.hid (And.intro hl hn); have HMB := Lib.hid hz; clear hl hn hr hz; have c0 := HKc.out.c0; have c1 := HKc.out.c1; have c2 := HKc.out.c2; have c3 := HKc.out.c3; go_enter Tryz.func17, Tryz.ntmps17; go_wp2_with fail; rw [← HP.out, ← HW.out]
 try rw [← HR0.out]
 try rw [← HQ.out]
 refine HD.out.mono ?_; rintro e v1 ⟨rfl, hb9⟩; have HKc := Lib.hid (HKc.out.later hb9); have HKR := Lib.hid (HKR.out.later hb9); have HFR := Lib.hid (HFR.out.later hb9); have HR := Lib.hid (RdT.later HR.out hb9); clear hb9 HD c0 c1 c2 c3
 cases z with
 | false =>
  have z0 := HKR.out.c0; have z1 := HKR.out.c1; have z2 := HKR.out.c2; have m0 := HFR.out.2 0; have m1 := HFR.out.2 1; have m2 := HFR.out.2 2; obtain ⟨W9, hW9⟩ : ∃ W, W = ((v1.setCell ⟨r, 0, none⟩ (.slice none 0 0)).setCell ⟨r, 1, none⟩ (.slice none 0 0)).setCell ⟨r, 2, none⟩ (.slice none 0 0) := ⟨_, rfl⟩
  have HB9 : Hid (Below w.heap.size w W9) := by
   unfold Hid; rw [hW9]; exact ((HKc.out.below.setCell (p := ⟨r, 0, none⟩) hwr _).setCell (p := ⟨r, 1, none⟩) hwr _).setCell (p := ⟨r, 2, none⟩) hwr _
  have l0 : W9.cell? ⟨r, 0, none⟩ = some (.slice none 0 0) := by rw [hW9]; go_simp
  have l1 : W9.cell? ⟨r, 1, none⟩ = some (.slice none 0 0) := by rw [hW9]; go_simp
  have l2 : W9.cell? ⟨r, 2, none⟩ = some (.slice none 0 0) := by rw [hW9]; go_simp
  have HW9 := Lib.hid hW9; clear hW9; go_wp2_with fail; rw [← HW9.out]; refine bodyPost_ret (v := .tuple #[.agg #[.slice none 0 0, .slice none 0 0, .slice none 0 0], .int .i64 1]) (by simp [results, Tryz.results17, go_sem, l0, l1, l2]) rfl ⟨noneK, 1, none, 0, 0, none, 0, 0, none, 0, 0, rfl, OwC.no _ _, Lib.hid (And.intro (fun h => by rw [HMB.out] at h; cases h) (fun _ => ⟨rfl, rfl⟩)), HB9.out⟩
 | true =>
  have HCB : Hid (checkB t a n = true) := (may_iff.1 HMB.out).1; have HT : Hid (Tr.rightB 5 t = true) := Tr.rightB_iff.2 (check_iff.1 HCB.out).1; have c0 := HKc.out.c0; have c1 := HKc.out.c1; have c2 := HKc.out.c2; have c3 := HKc.out.c3; go_wp2_with fail; clear c0 c1 c2 c3; refine wp_region_held_drew (S := fun W => W.cell? ⟨p, 0, none⟩ = some (.slice Ae ne ce) ∧ W.cell? ⟨p, 1, none⟩ = some (.slice Ak nk ck) ∧ W.cell? ⟨q, 0, none⟩ = some (.int .i64 a) ∧ W.cell? ⟨q, 1, none⟩ = some (.int .i64 n)) (by kernel_rfl) (by have h9 := HKc.out.drew; exact ⟨h9.c0, h9.c1, h9.c2, h9.c3⟩) (fun hHeld => ?_); obtain ⟨w1, hw1⟩ : ∃ v, v = v1.drew := ⟨_, rfl⟩
  have hb9 : Below v1.heap.size v1 w1 := by rw [hw1]; exact (Below.refl _ _).drew
  have HKc := Lib.hid (HKc.out.later hb9); have HKR := Lib.hid (HKR.out.later hb9); have HFR := Lib.hid (HFR.out.later hb9); have HR := Lib.hid (RdT.later HR.out hb9); rw [← hw1] at hHeld ⊢; clear hw1 hb9; refine Tk 0 17 ?_; refine Tk 1 18 ?_; refine Tk 4 21 ?_; refine Tc 2 (fun K hK => ?_); go_simp; clear hHeld; refine Th hK ?_ (fun hHeld => ?_)
  ·exact ⟨(HKc.out.alloc _).c0, (HKc.out.alloc _).c1, (HKc.out.alloc _).c2, (HKc.out.alloc _).c3⟩
  clear hK K; obtain ⟨g, hg⟩ : ∃ g, g = w1.heap.size := ⟨_, rfl⟩; obtain ⟨w2, hw2⟩ : ∃ W, W = w1.alloc (.cells #[.string s] 9) := ⟨_, rfl⟩
  have hb9 : Below w1.heap.size w1 w2 := by rw [hw2]; exact Dt.box_below _ _ _
  have HS : Hid (Rd w2 w2.heap.size 1 (some ⟨g, 0, none⟩) 1 1 (strs [s])) := by unfold Hid; rw [hw2, hg]; exact rd_one1 _ _
  have HKc := Lib.hid (HKc.out.later hb9); have HKR := Lib.hid (HKR.out.later hb9); have HFR := Lib.hid (HFR.out.later hb9); have HR := Lib.hid (RdT.later HR.out hb9); rw [← hw2] at hHeld ⊢; rw [← hg]; clear hg hw2 hb9; refine Tc 3 (fun K hK => ?_); go_simp; (go_at_call 33; refine (get_any t Ae Ak ne nk ce ck w2 [s] (some ⟨g, 0, none⟩) 1 1 rfl (by omega) HS.out HN.out.1 (by have := HN.out.2; omega) HR.out).mono ?_); rintro e w3 ⟨Ge, gn, gc, Gk, gm, gd, rfl, ho, hb9⟩
  have HG : Hid (RdT w3 w3.heap.size (kidAt t.ks s) ⟨Ge, gn, gc⟩ ⟨Gk, gm, gd⟩) := by
   have h := ho.rd; rw [if_pos HT.out] at h; exact h
  have HKc := Lib.hid (HKc.out.later hb9); have HKR := Lib.hid (HKR.out.later hb9); have HFR := Lib.hid (HFR.out.later hb9); have HR := Lib.hid (RdT.later HR.out hb9); clear ho hb9; clear hHeld; refine Th hK ?_ (fun hHeld => ?_)
  ·exact ⟨HKc.out.c0, HKc.out.c1, HKc.out.c2, HKc.out.c3⟩
  clear hK K; refine Tc 5 (fun K hK => ?_); go_simp; (go_at_call 46; refine (disable_any (kidAt t.ks s) Ge Gk gn gm gc gd a n w3 (LenT.few (by have := nodes_kid_at t s; have := HN.out.2; omega)) (by have := nodes_kid_at t s; have := HN.out.2; omega) HG.out).mono ?_); rintro e w4 ⟨k, z9, Re, rn, rc, Rk, rm, rd, Rc, rq, re, rfl, how, hz9, hb9⟩; obtain ⟨rfl, hk1, hna, hu⟩ := hz9.out.1 (kid_check HCB.out); have hrlo : r < w3.heap.size := HFR.out.1; have HOW := Lib.hid ((how.out.set3 hrlo (.slice Re rn rc) (.slice Rk rm rd) (.slice Rc rq re)).mono (by have := HKc.out.below.size; exact this : w.heap.size ≤ w3.heap.size)); have HU : Hid (k.1 = none_ ∧ rq ≤ 4 * nodes t + 4 ∧ ∃ u, OfC (dl (kidAt t.ks s)) u ∧ PutC uniF u (oneC a n) k.2) := ⟨hk1, by have := nodes_kid_at t s; omega, hu⟩; have HKc := Lib.hid (HKc.out.later hb9); have HKR := Lib.hid (HKR.out.later hb9); have HFR := Lib.hid (HFR.out.later hb9)
  have HR := Lib.hid (RdT.later HR.out hb9); clear how hz9 hb9 hk1 hna hu hrlo; have z0 := HKR.out.c0; have z1 := HKR.out.c1; have z2 := HKR.out.c2; have m0 := HFR.out.2 0; have m1 := HFR.out.2 1; have m2 := HFR.out.2 2; clear hHeld; refine Th hK ?_ (fun hHeld => ?_)
  ·exact ⟨HKc.out.c0, HKc.out.c1, HKc.out.c2, HKc.out.c3⟩
  clear hK K; refine Tk 6 23 ?_; refine Tk 7 24 ?_; refine Tc 8 (fun K hK => ?_); go_simp; refine Th hK ?_ (fun hHeld2 => ?_)
  ·have h9 := (((HKc.out).set (a := ⟨r, 0, none⟩) hwr (fun x hx => by simp at hx; rcases hx with rfl | rfl | rfl | rfl <;> (dsimp only; omega)) (.slice Re rn rc)).set (a := ⟨r, 1, none⟩) hwr (fun x hx => by simp at hx; rcases hx with rfl | rfl | rfl | rfl <;> (dsimp only; omega)) (.slice Rk rm rd)).set (a := ⟨r, 2, none⟩) hwr (fun x hx => by simp at hx; rcases hx with rfl | rfl | rfl | rfl <;> (dsimp only; omega)) (.slice Rc rq re)
   exact ⟨h9.c0, h9.c1, h9.c2, h9.c3⟩
  clear hK K hHeld; have hHeld := hHeld2; clear hHeld2; refine Tk 9 7 ?_; refine wpAnyH_done (by kernel_rfl) ?_ _; clear hHeld z0 z1 z2 m0 m1 m2; have z0 := HKR.out.c0; have z1 := HKR.out.c1; have z2 := HKR.out.c2; have m0 := HFR.out.2 0; have m1 := HFR.out.2 1; have m2 := HFR.out.2 2; obtain ⟨W9, hW9⟩ : ∃ W, W = ((w4.setCell ⟨r, 0, none⟩ (.slice Re rn rc)).setCell ⟨r, 1, none⟩ (.slice Rk rm rd)).setCell ⟨r, 2, none⟩ (.slice Rc rq re) := ⟨_, rfl⟩
  have HB9 : Hid (Below w.heap.size w W9) := by
   unfold Hid; rw [hW9]; exact ((HKc.out.below.setCell (p := ⟨r, 0, none⟩) hwr _).setCell (p := ⟨r, 1, none⟩) hwr _).setCell (p := ⟨r, 2, none⟩) hwr _
  have HO9 : Hid (OwC W9 w.heap.size k Re rn rc Rk rm rd Rc rq re) := by unfold Hid; rw [hW9]; exact HOW.out
  have l0 : W9.cell? ⟨r, 0, none⟩ = some (.slice Re rn rc) := by rw [hW9]; go_simp
  have l1 : W9.cell? ⟨r, 1, none⟩ = some (.slice Rk rm rd) := by rw [hW9]; go_simp
  have l2 : W9.cell? ⟨r, 2, none⟩ = some (.slice Rc rq re) := by rw [hW9]; go_simp
  have HW9 := Lib.hid hW9; clear hW9; rw [← HW9.out]; go_wp2_with fail; refine bodyPost_ret (v := .tuple #[.agg #[.slice Re rn rc, .slice Rk rm rd, .slice Rc rq re], .int .i64 0]) (by simp [results, Tryz.results17, go_sem, l0, l1, l2]) rfl ⟨k, 0, Re, rn, rc, Rk, rm, rd, Rc, rq, re, rfl, HO9.out, Lib.hid (And.intro (fun _ => ⟨rfl, HU.out.1, HU.out.2.1, HU.out.2.2⟩) (fun h => by rw [HMB.out] at h; cases h)), HB9.out⟩
end Cs
end Go.Proofs.YtemilfojnecldaaGreat
