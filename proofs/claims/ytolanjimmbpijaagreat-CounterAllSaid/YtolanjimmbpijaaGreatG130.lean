/- Texts of the lower layers, and of layer 9, put together. -/
import Derived.Test.YtolanjimmbpijaaGreatG90
import Derived.Test.YtolanjimmbpijaaGreatG1220
import Derived.Test.YtolanjimmbpijaaGreatFlag2
import Derived.Test.YtolanjimmbpijaaGreatCtxOf
import Derived.Test.YtolanjimmbpijaaGreatCauOwnRef
namespace Go.Proofs.YtolanjimmbpijaaGreat
open Go.ChangeShapes Go.WideShapes Go.ChangeAt Go.RowKit
namespace Cs
open Tr Cx Sp Rw Classical
noncomputable def incB (t : T) (v a n : Int) : Bool := checkB t a n && decide (-1099511627776 ≤ v ∧ v ≤ 1099511627776) && decide (t.es.length < 24)
noncomputable def incE (t : T) (v a n : Int) : Int := if checkB t a n = true ∧ (-1099511627776 ≤ v ∧ v ≤ 1099511627776) then 4 else 1
theorem inc_yes {t : T} {v a n : Int} (h1 : checkB t a n = true) (h2 : -1099511627776 ≤ v ∧ v ≤ 1099511627776) (h3 : t.es.length < 24) : incB t v a n = true := by
 unfold incB; rw [h1, decide_eq_true h2, decide_eq_true h3]; rfl
theorem inc_no1 {t : T} {v a n : Int} (h : checkB t a n = false) : incB t v a n = false := by
 unfold incB; rw [h, Bool.false_and, Bool.false_and]
theorem inc_no2 {t : T} {v a n : Int} (h : ¬ (-1099511627776 ≤ v ∧ v ≤ 1099511627776)) : incB t v a n = false := by
 unfold incB; rw [decide_eq_false h, Bool.and_false, Bool.false_and]
theorem inc_no3 {t : T} {v a n : Int} (h : ¬ t.es.length < 24) : incB t v a n = false := by
 unfold incB; rw [decide_eq_false h, Bool.and_false]
theorem inc_e1 {t : T} {v a n : Int} (h : checkB t a n = false) : incE t v a n = 1 := by
 unfold incE; rw [if_neg]; rintro ⟨h1, _⟩; rw [h] at h1
 cases h1
theorem inc_e2 {t : T} {v a n : Int} (h : ¬ (-1099511627776 ≤ v ∧ v ≤ 1099511627776)) : incE t v a n = 1 := by
 unfold incE; rw [if_neg]; rintro ⟨_, h1⟩; exact h h1
theorem inc_e4 {t : T} {v a n : Int} (h1 : checkB t a n = true) (h2 : -1099511627776 ≤ v ∧ v ≤ 1099511627776) : incE t v a n = 4 := by
 unfold incE; rw [if_pos ⟨h1, h2⟩]
def IncIs (lo : Nat) (ok : Bool) (er : Int) (x : E) (w : World) (e : Ending) (w' : World) : Prop := ∃ (k : K) (z : Int) (Ae : Option Addr) (ne ce : Nat) (Ak : Option Addr) (nk ck : Nat) (Ca : Option Addr) (na ca9 : Nat), e = .returned (.tuple #[.agg #[.slice Ae ne ce, .slice Ak nk ck, .slice Ca na ca9], .int .i64 z]) ∧ Hid (OwC w' lo k Ae ne ce Ak nk ck Ca na ca9) ∧ Hid ((ok = true → z = 0 ∧ k = oneK x ∧ na ≤ 4) ∧ (ok = false → z = er ∧ k = noneK)) ∧ Below w.heap.size w w'
set_option maxRecDepth 100000 in
set_option maxHeartbeats 4000000 in
theorem inc_any (t : T) (Ae Ak : Option Addr) (ne nk ce ck : Nat) (v a n : Int) (w : World) (hl : LenT reachBytes t) (hn : nodes t ≤ 1000) (hr : RdT w w.heap.size t ⟨Ae, ne, ce⟩ ⟨Ak, nk, ck⟩) :
  Calls Tryz.prog 8 #[.agg #[.slice Ae ne ce, .slice Ak nk ck], .int .i64 v, .agg #[.int .i64 a, .int .i64 n]] w (IncIs w.heap.size (incB t v a n) (incE t v a n) ⟨a, n, ⟨#[]⟩, v⟩ w) := by
 obtain ⟨W, p, q, r, HW, HP, HQ, HR0, HKc, HKR, HFR⟩ := boxTDC w Ae Ak ne nk ce ck a n
 have hwr : w.heap.size ≤ r := by have := HP.out; have := HR0.out; omega
 have hpr : p < r := by have := HP.out; have := HR0.out; omega
 have hqr : q < r := by have := HQ.out; have := HR0.out; omega
 obtain ⟨z, hz⟩ : ∃ z, checkB t a n = z := ⟨_, rfl⟩; have HR := Lib.hid (RdT.more HKc.out.below.size _ (RdT.below hr HKc.out.below)); have HD := Lib.hid (fcheck_any t Ae Ak ne nk ce ck a n W z hz hl hn HR.out)
 have HLE : Hid (t.es.length = ne) := by
  have h := hr; rw [← T.eta t] at h; exact (rd_lens h).1
 have HMB := Lib.hid hz; clear hl hn hr hz; have c0 := HKc.out.c0; have c1 := HKc.out.c1; have c2 := HKc.out.c2; have c3 := HKc.out.c3; go_enter Tryz.func8, Tryz.ntmps8; go_wp2_with fail; rw [← HP.out, ← HW.out]
 try rw [← HR0.out]
 try rw [← HQ.out]
 refine HD.out.mono ?_; rintro e v1 ⟨rfl, hb9⟩; have HKc := Lib.hid (HKc.out.later hb9); have HKR := Lib.hid (HKR.out.later hb9); have HFR := Lib.hid (HFR.out.later hb9); have HR := Lib.hid (RdT.later HR.out hb9); clear hb9 HD c0 c1 c2 c3
 cases z with
 | false =>
  have z0 := HKR.out.c0; have z1 := HKR.out.c1; have z2 := HKR.out.c2; have m0 := HFR.out.2 0; have m1 := HFR.out.2 1; have m2 := HFR.out.2 2; obtain ⟨W9, hW9⟩ : ∃ W, W = ((v1.setCell ⟨r, 0, none⟩ (.slice none 0 0)).setCell ⟨r, 1, none⟩ (.slice none 0 0)).setCell ⟨r, 2, none⟩ (.slice none 0 0) := ⟨_, rfl⟩
  have HB9 : Hid (Below w.heap.size w W9) := by
   unfold Hid; rw [hW9]; exact ((HKc.out.below.setCell (p := ⟨r, 0, none⟩) hwr _).setCell (p := ⟨r, 1, none⟩) hwr _).setCell (p := ⟨r, 2, none⟩) hwr _
  have l0 : W9.cell? ⟨r, 0, none⟩ = some (.slice none 0 0) := by rw [hW9]; go_simp
  have l1 : W9.cell? ⟨r, 1, none⟩ = some (.slice none 0 0) := by rw [hW9]; go_simp
  have l2 : W9.cell? ⟨r, 2, none⟩ = some (.slice none 0 0) := by rw [hW9]; go_simp
  have HW9 := Lib.hid hW9; clear hW9; go_wp2_with fail; rw [← HW9.out]; refine bodyPost_ret (v := .tuple #[.agg #[.slice none 0 0, .slice none 0 0, .slice none 0 0], .int .i64 1]) (by simp [results, Tryz.results8, go_sem, l0, l1, l2]) rfl ⟨noneK, 1, none, 0, 0, none, 0, 0, none, 0, 0, rfl, OwC.no _ _, Lib.hid (And.intro (fun h => by rw [inc_no1 HMB.out] at h; cases h) (fun _ => ⟨(inc_e1 HMB.out).symm, rfl⟩)), HB9.out⟩
 | true =>
  by_cases h1 : v < -1099511627776
  ·have f1 : decide (v < -1099511627776) = true := decide_eq_true h1
   have HV : Hid (¬ (-1099511627776 ≤ v ∧ v ≤ 1099511627776)) := fun h => by omega
   clear h1; have z0 := HKR.out.c0; have z1 := HKR.out.c1; have z2 := HKR.out.c2; have m0 := HFR.out.2 0; have m1 := HFR.out.2 1; have m2 := HFR.out.2 2; obtain ⟨W9, hW9⟩ : ∃ W, W = ((v1.setCell ⟨r, 0, none⟩ (.slice none 0 0)).setCell ⟨r, 1, none⟩ (.slice none 0 0)).setCell ⟨r, 2, none⟩ (.slice none 0 0) := ⟨_, rfl⟩
   have HB9 : Hid (Below w.heap.size w W9) := by
    unfold Hid; rw [hW9]; exact ((HKc.out.below.setCell (p := ⟨r, 0, none⟩) hwr _).setCell (p := ⟨r, 1, none⟩) hwr _).setCell (p := ⟨r, 2, none⟩) hwr _
   have l0 : W9.cell? ⟨r, 0, none⟩ = some (.slice none 0 0) := by rw [hW9]; go_simp
   have l1 : W9.cell? ⟨r, 1, none⟩ = some (.slice none 0 0) := by rw [hW9]; go_simp
   have l2 : W9.cell? ⟨r, 2, none⟩ = some (.slice none 0 0) := by rw [hW9]; go_simp
   have HW9 := Lib.hid hW9; clear hW9; go_wp2_with fail; rw [← HW9.out]; refine bodyPost_ret (v := .tuple #[.agg #[.slice none 0 0, .slice none 0 0, .slice none 0 0], .int .i64 1]) (by simp [results, Tryz.results8, go_sem, l0, l1, l2]) rfl ⟨noneK, 1, none, 0, 0, none, 0, 0, none, 0, 0, rfl, OwC.no _ _, Lib.hid (And.intro (fun h => by rw [inc_no2 HV.out] at h; cases h) (fun _ => ⟨(inc_e2 HV.out).symm, rfl⟩)), HB9.out⟩
  ·have f1 : decide (v < -1099511627776) = false := decide_eq_false h1
   by_cases h2 : 1099511627776 < v
   ·have f2 : decide (1099511627776 < v) = true := decide_eq_true h2
    have HV : Hid (¬ (-1099511627776 ≤ v ∧ v ≤ 1099511627776)) := fun h => by omega
    clear h1 h2; have z0 := HKR.out.c0; have z1 := HKR.out.c1; have z2 := HKR.out.c2; have m0 := HFR.out.2 0; have m1 := HFR.out.2 1; have m2 := HFR.out.2 2; obtain ⟨W9, hW9⟩ : ∃ W, W = ((v1.setCell ⟨r, 0, none⟩ (.slice none 0 0)).setCell ⟨r, 1, none⟩ (.slice none 0 0)).setCell ⟨r, 2, none⟩ (.slice none 0 0) := ⟨_, rfl⟩
    have HB9 : Hid (Below w.heap.size w W9) := by
     unfold Hid; rw [hW9]; exact ((HKc.out.below.setCell (p := ⟨r, 0, none⟩) hwr _).setCell (p := ⟨r, 1, none⟩) hwr _).setCell (p := ⟨r, 2, none⟩) hwr _
    have l0 : W9.cell? ⟨r, 0, none⟩ = some (.slice none 0 0) := by rw [hW9]; go_simp
    have l1 : W9.cell? ⟨r, 1, none⟩ = some (.slice none 0 0) := by rw [hW9]; go_simp
    have l2 : W9.cell? ⟨r, 2, none⟩ = some (.slice none 0 0) := by rw [hW9]; go_simp
    have HW9 := Lib.hid hW9; clear hW9; go_wp2_with fail; rw [← HW9.out]; refine bodyPost_ret (v := .tuple #[.agg #[.slice none 0 0, .slice none 0 0, .slice none 0 0], .int .i64 1]) (by simp [results, Tryz.results8, go_sem, l0, l1, l2]) rfl ⟨noneK, 1, none, 0, 0, none, 0, 0, none, 0, 0, rfl, OwC.no _ _, Lib.hid (And.intro (fun h => by rw [inc_no2 HV.out] at h; cases h) (fun _ => ⟨(inc_e2 HV.out).symm, rfl⟩)), HB9.out⟩
   ·have f2 : decide (1099511627776 < v) = false := decide_eq_false h2
    have HV : Hid (-1099511627776 ≤ v ∧ v ≤ 1099511627776) := ⟨by omega, by omega⟩; clear h1 h2; have c0 := HKc.out.c0; have c1 := HKc.out.c1; have c2 := HKc.out.c2; have c3 := HKc.out.c3
    by_cases h24 : 24 ≤ ne
    ·have f24 : decide ((24 : Int) ≤ (ne : Int)) = true := decide_eq_true (by omega)
     have HNL : Hid (¬ t.es.length < 24) := fun h => by rw [HLE.out] at h; omega
     clear h24; have z0 := HKR.out.c0; have z1 := HKR.out.c1; have z2 := HKR.out.c2; have m0 := HFR.out.2 0; have m1 := HFR.out.2 1; have m2 := HFR.out.2 2; obtain ⟨W9, hW9⟩ : ∃ W, W = ((v1.setCell ⟨r, 0, none⟩ (.slice none 0 0)).setCell ⟨r, 1, none⟩ (.slice none 0 0)).setCell ⟨r, 2, none⟩ (.slice none 0 0) := ⟨_, rfl⟩
     have HB9 : Hid (Below w.heap.size w W9) := by
      unfold Hid; rw [hW9]; exact ((HKc.out.below.setCell (p := ⟨r, 0, none⟩) hwr _).setCell (p := ⟨r, 1, none⟩) hwr _).setCell (p := ⟨r, 2, none⟩) hwr _
     have l0 : W9.cell? ⟨r, 0, none⟩ = some (.slice none 0 0) := by rw [hW9]; go_simp
     have l1 : W9.cell? ⟨r, 1, none⟩ = some (.slice none 0 0) := by rw [hW9]; go_simp
     have l2 : W9.cell? ⟨r, 2, none⟩ = some (.slice none 0 0) := by rw [hW9]; go_simp
     have HW9 := Lib.hid hW9; clear hW9; go_wp2_with fail; rw [← HW9.out]; refine bodyPost_ret (v := .tuple #[.agg #[.slice none 0 0, .slice none 0 0, .slice none 0 0], .int .i64 4]) (by simp [results, Tryz.results8, go_sem, l0, l1, l2]) rfl ⟨noneK, 4, none, 0, 0, none, 0, 0, none, 0, 0, rfl, OwC.no _ _, Lib.hid (And.intro (fun h => by rw [inc_no3 HNL.out] at h; cases h) (fun _ => ⟨(inc_e4 HMB.out HV.out).symm, rfl⟩)), HB9.out⟩
    ·have f24 : decide ((24 : Int) ≤ (ne : Int)) = false := decide_eq_false (by omega)
     have HLL : Hid (t.es.length < 24) := by unfold Hid; rw [HLE.out]; omega
     have HDD : Hid (Dt.rightB a n = true) := (check_iff.1 HMB.out).2.1; clear h24; obtain ⟨g, hg⟩ : ∃ g, g = v1.heap.size := ⟨_, rfl⟩; obtain ⟨v2, hv2⟩ : ∃ W, W = v1.alloc (.cells #[.int .i64 a, .int .i64 n] 27) := ⟨_, rfl⟩
     have hb9 : Below v1.heap.size v1 v2 := by rw [hv2]; exact Dt.box_below _ _ _
     have hd1 := rd_dot1 v1 a n 27; rw [← hv2, ← hg] at hd1; have HOF := Lib.hid (ofC_own [(a, n)] 1 (some ⟨g, 0, none⟩) 1 v2 rfl (by omega) (hd1.more (by rw [hv2]; simp; omega))); have HKc := Lib.hid (HKc.out.later hb9); have HKR := Lib.hid (HKR.out.later hb9); have HFR := Lib.hid (HFR.out.later hb9); have HR := Lib.hid (RdT.later HR.out hb9); have Hg := Lib.hid hg; have Hv2 := Lib.hid hv2; clear hb9 hd1 hg hv2; go_wp2_with fail; rw [← Hg.out, ← Hv2.out]; clear c0 c1 c2 c3; refine HOF.out.mono ?_; rintro e v3 (⟨_, o, mo, Ao, co, bo, rfl, ho1, ho2, hmo, hro, hb9⟩ | ⟨hno, rfl, hb3⟩)
     ·obtain rfl : o = oneC a n := ho2.out.eq (of_oneC HDD.out)
      have hbo : w.heap.size ≤ bo := Nat.le_trans HKc.out.below.size hro.out.1; have hrb : r < bo := Nat.lt_of_lt_of_le HFR.out.1 hro.out.1; have HRC : Hid (RO v3 (fun b => bo ≤ b) 3 Ao mo co (spsC (oneC a n))) := (RO.of_own hro.out.2).mono fun b hb _ => hb.1; have HMO : Hid ((oneC a n).length = mo ∧ mo ≤ 4) := ⟨ho1.out, by omega⟩; have HKc := Lib.hid (HKc.out.later hb9); have HKR := Lib.hid (HKR.out.later hb9); have HFR := Lib.hid (HFR.out.later hb9); have HR := Lib.hid (RdT.later HR.out hb9); have c2 := HKc.out.c2; have c3 := HKc.out.c3; have z0 := HKR.out.c0; have z1 := HKR.out.c1; have z2 := HKR.out.c2; have m0 := HFR.out.2 0; have m1 := HFR.out.2 1; have m2 := HFR.out.2 2; have hrv : r < v3.heap.size := HFR.out.1; obtain ⟨h, hh⟩ : ∃ g, g = v3.heap.size := ⟨_, rfl⟩; obtain ⟨W8, hW8⟩ : ∃ W, W = ((v3.setCell ⟨r, 0, none⟩ (.slice (some ⟨h, 0, none⟩) 1 1)).setCell ⟨r, 1, none⟩ (.slice none 0 0)).setCell ⟨r, 2, none⟩ (.slice Ao mo co) := ⟨_, rfl⟩
      obtain ⟨W9, hW9⟩ : ∃ W, W = W8.alloc (.cells #[.int .i64 a, .int .i64 n, .string ⟨#[]⟩, .int .i64 v] 49) := ⟨_, rfl⟩
      have hs8 : W8.heap.size = h := by rw [hW8, cells3, hh]
      have hb8 : Below w.heap.size w W8 := by
       rw [hW8]; exact ((HKc.out.below.setCell (p := ⟨r, 0, none⟩) hwr _).setCell (p := ⟨r, 1, none⟩) hwr _).setCell (p := ⟨r, 2, none⟩) hwr _
      have hb89 : Below W8.heap.size W8 W9 := by rw [hW9]; exact Dt.box_below _ _ _
      have HB9 : Hid (Below w.heap.size w W9) := hb8.trans (hb89.mono hb8.size)
      have l0' : W8.cell? ⟨r, 0, none⟩ = some (.slice (some ⟨h, 0, none⟩) 1 1) := by rw [hW8]; go_simp
      have l1' : W8.cell? ⟨r, 1, none⟩ = some (.slice none 0 0) := by rw [hW8]; go_simp
      have l2' : W8.cell? ⟨r, 2, none⟩ = some (.slice Ao mo co) := by rw [hW8]; go_simp
      have hr8 : r < W8.heap.size := by rw [hs8, hh]; exact hrv
      have l0 := (hb89.cell (p := ⟨r, 0, none⟩) hr8).trans l0'; have l1 := (hb89.cell (p := ⟨r, 1, none⟩) hr8).trans l1'; have l2 := (hb89.cell (p := ⟨r, 2, none⟩) hr8).trans l2'
      have HE : RO W9 (fun b => h ≤ b) 4 (some ⟨h, 0, none⟩) 1 1 (entsC [⟨a, n, ⟨#[]⟩, v⟩]) := by
       refine ⟨rfl, Nat.le_refl _, fun u hu => ?_, fun _ => ⟨_, _, rfl, Nat.le_refl _, by rw [hW9]; simp; omega, fun j => by rw [hW9, ← hs8]; go_simp, fun j u hu => ?_⟩⟩
       ·simp [entsC, entC] at hu
        rcases hu with rfl | rfl | rfl | rfl <;> rfl
       ·rw [Nat.zero_add, hW9, ← hs8, cell_of_row _ _ j _ _ (0, 0) (heap_alloc_new _ _)]
        simpa [entsC, entC] using hu
      have hwh : w.heap.size ≤ h := by omega
      have HO9 : Hid (OwC W9 w.heap.size (oneK ⟨a, n, ⟨#[]⟩, v⟩) (some ⟨h, 0, none⟩) 1 1 none 0 0 Ao mo co) := by
       have h8 : RO W8 (fun b => bo ≤ b) 3 Ao mo co (spsC (oneC a n)) := HRC.out.keep (by rw [hW8, cells3]; exact Nat.le_refl _) fun b hb _ => by rw [hW8]; exact cells3_at b (by omega)
       refine ⟨?_, HMO.out.1, (h8.keep hb89.size fun b _ hlt => hb89.block b hlt).mono fun b hb _ => Nat.le_trans hbo hb⟩; show RdO _ _ (.mk [_] []) _ _; rw [rdO_mk]; exact ⟨rfl, HE.mono fun b hb _ => Nat.le_trans hwh hb, rfl, [], RO.nil _ _ _ _ _, fun i hi => by simp at hi⟩
      have Hh := Lib.hid hh; have HW8 := Lib.hid hW8; have HW9 := Lib.hid hW9; clear hh hW8 hW9 hb9 hb8 hb89 hs8 hr8 l0' l1' l2' HE ho1 ho2 hmo hro HOF; go_wp2_with fail; rw [← Hh.out, ← HW8.out, ← HW9.out]; refine bodyPost_ret (v := .tuple #[.agg #[.slice (some ⟨h, 0, none⟩) 1 1, .slice none 0 0, .slice Ao mo co], .int .i64 0]) (by simp [results, Tryz.results8, go_sem, l0, l1, l2]) rfl ⟨oneK ⟨a, n, ⟨#[]⟩, v⟩, 0, some ⟨h, 0, none⟩, 1, 1, none, 0, 0, Ao, mo, co, rfl, HO9.out, Lib.hid (And.intro (fun _ => ⟨rfl, rfl, HMO.out.2⟩) (fun h => by rw [inc_yes HMB.out HV.out HLL.out] at h; cases h)), HB9.out⟩
     ·exact absurd (fun x hx => by rw [List.mem_singleton.1 hx]; exact HDD.out) hno
end Cs
end Go.Proofs.YtolanjimmbpijaaGreat
namespace Go.Proofs.YtolanjimmbpijaaGreat
open Go.ChangeShapes Go.WideShapes Go.ChangeAt Go.RowKit
namespace Cs
open Tr Cx Sp Rw Classical
def Firm (G : Nat → Prop) (w : World) (p : CP) : Prop := ∀ w' : World, w.heap.size ≤ w'.heap.size → (∀ b, b < w.heap.size → ¬ G b → w'.heap[b]? = w.heap[b]?) → RdP w' p
section
variable {G : Nat → Prop} {w w' : World} {p : CP}
theorem Firm.rd (h : Firm G w p) : RdP w p := h w (Nat.le_refl _) fun _ _ _ => rfl
theorem Firm.keep (h : Firm G w p) (hs : w.heap.size ≤ w'.heap.size) (hk : ∀ b, b < w.heap.size → ¬ G b → w'.heap[b]? = w.heap[b]?) : Firm G w' p := fun w2 h1 h2 => h w2 (Nat.le_trans hs h1) fun b hlt hn => (h2 b (Nat.lt_of_lt_of_le hlt hs) hn).trans (hk b hlt hn)
theorem Firm.later (h : Firm G w p) (hb : Below w.heap.size w w') : Firm G w' p := h.keep hb.size fun b hlt _ => hb.block b hlt
theorem Firm.of_no {ok : Nat → Prop} (h : NoC w ok p) (ho : ∀ b, ok b → b < w.heap.size → ¬ G b) : Firm G w p := fun _ h1 h2 => (h.keep h1 fun b hb hlt => h2 b hlt (ho b hb hlt)).rd
theorem Firm.of_tree {ok : Nat → Prop} {w0 : World} {t : T} {cs : List S3} {se sk : SV} {A : Option Addr} {n c : Nat} (ht : RdT w0 w0.heap.size t se sk) (hb : Below w0.heap.size w0 w) (hl : cs.length = n) (hc : RO w ok 3 A n c (spsC cs)) (hG : ∀ b, G b → w0.heap.size ≤ b) (ho : ∀ b, ok b → b < w.heap.size → ¬ G b) : Firm G w ⟨(t, cs), se, sk, ⟨A, n, c⟩⟩ := fun w' h1 h2 =>
 ⟨RdT.more (Nat.le_trans hb.size h1) _ (RdT.keep (fun q hq => World.cell?_of_block (w := w0) ((h2 q.block (Nat.lt_of_lt_of_le hq hb.size) fun hg => absurd (hG _ hg) (by omega)).trans (hb.block _ hq))) _ ht), hl, (hc.keep h1 fun b hb2 hlt => h2 b hlt (ho b hb2 hlt)).rd⟩
end
theorem Firm.set3 {G : Nat → Prop} {w : World} {p : CP} {r : Nat} (h : Firm G w p) (hr : G r) (v0 v1 v2 : Value) : Firm G (((w.setCell ⟨r, 0, none⟩ v0).setCell ⟨r, 1, none⟩ v1).setCell ⟨r, 2, none⟩ v2) p :=
 h.keep (by rw [cells3]; exact Nat.le_refl _) fun b _ hn => cells3_at b fun e => hn (by rw [e]; exact hr)
end Cs
end Go.Proofs.YtolanjimmbpijaaGreat
