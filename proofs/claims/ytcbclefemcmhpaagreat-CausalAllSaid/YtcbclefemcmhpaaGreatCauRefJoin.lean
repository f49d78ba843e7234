/- Two joined: the document's. -/
import Derived.Test.YtcbclefemcmhpaaGreatG00
import Derived.Test.YtcbclefemcmhpaaGreatCauPlace
import Derived.Test.YtcbclefemcmhpaaGreatCauHasL
import Derived.Test.YtcbclefemcmhpaaGreatG120
import Derived.Test.YtcbclefemcmhpaaGreatCauKit
import Derived.Test.YtcbclefemcmhpaaGreatG20
import Derived.Test.YtcbclefemcmhpaaGreatTreeBuild
import Derived.Test.YtcbclefemcmhpaaGreatG10
import Derived.Test.YtcbclefemcmhpaaGreatTreeLeaves
namespace Go.Proofs.YtcbclefemcmhpaaGreat
open Go.ChangeShapes Go.WideShapes Go.ChangeAt Go.RowKit
namespace Cs
open Tr Cx Sp Rw Classical
theorem leaves_to (t : T) (Ae Ak : Option Addr) (ne nk ce ck : Nat) (m : Nat) (w : World) (hm : (leaves t).length = m) (hn : nodes t ≤ 100000) (hr : RdT w w.heap.size t ⟨Ae, ne, ce⟩ ⟨Ak, nk, ck⟩) :
  Calls Tryz.prog 43 #[.agg #[.slice Ae ne ce, .slice Ak nk ck]] w fun e w' => ∃ A c, e = .returned (.slice A m c) ∧ LfRd w' w'.heap.size A m c (leaves t) ∧ Below w.heap.size w w' := by
 subst hm
 exact leaves_any t Ae Ak ne nk ce ck w hn hr
theorem nil_apart (v : Value) : Row2.Apart v (.slice none 0 0) := fun b _ h => by cases h
set_option maxRecDepth 100000 in
set_option maxHeartbeats 4000000 in
theorem refjoinK_own (t u : T) (cs ds xs : List S3) (Ae Ak Ca Be Bk Cb : Option Addr) (ne nk ce ck na ca9 me mk de dk nb cb9 q : Nat) (w : World) (hn : nodes t ≤ 1000) (hl : cs.length = na) (hna : na ≤ 1000) (hr : RdT w w.heap.size t ⟨Ae, ne, ce⟩ ⟨Ak, nk, ck⟩) (hc : Rd w w.heap.size 3 Ca na ca9 (spsC cs)) (hn2 : nodes u ≤ 1000) (hl2 : ds.length = nb) (hnb : nb ≤ 1000) (hr2 : RdT w w.heap.size u ⟨Be, me, de⟩ ⟨Bk, mk, dk⟩) (hc2 : Rd w w.heap.size 3 Cb nb cb9 (spsC ds)) (hk1 : RK (t, cs)) (hk2 : RK (u, ds)) (hx : PutC uniF cs ds xs) (hxl : xs.length = q) (hq : q ≤ 800000) :
  Calls Tryz.prog 20 #[.agg #[.slice Ae ne ce, .slice Ak nk ck, .slice Ca na ca9], .agg #[.slice Be me de, .slice Bk mk dk, .slice Cb nb cb9]] w (CausIs (joinT 5 cs ds t u, xs) w) := by
 have HK1 := Lib.hid hk1
 have HK2 := Lib.hid hk2
 have HXS := Lib.hid (And.intro hx hxl)
 have HA := Lib.hid (And.intro hn (And.intro hl (And.intro hr hc)))
 clear hn hl hr hc
 have HB := Lib.hid (And.intro hn2 (And.intro hl2 (And.intro hr2 hc2)))
 clear hn2 hl2 hr2 hc2 hk1 hk2 hx hxl
 obtain ⟨m1, hm1⟩ : ∃ z, (leaves t).length = z := ⟨_, rfl⟩
 obtain ⟨m2, hm2⟩ : ∃ z, (leaves u).length = z := ⟨_, rfl⟩
 have hm1k : m1 ≤ 1000 := by rw [← hm1]; exact Nat.le_trans (leaves_nodes t) HA.out.1
 have hm2k : m2 ≤ 1000 := by rw [← hm2]; exact Nat.le_trans (leaves_nodes u) HB.out.1
 have HM1 := Lib.hid hm1
 have HM2 := Lib.hid hm2
 clear hm1 hm2
 obtain ⟨W, pp, pq, pr, HW, HP, HQ, HR, HKc, HKR, HFR⟩ := boxC3 w Ae Ak Ca Be Bk Cb ne nk ce ck na ca9 me mk de dk nb cb9
 have hwr : w.heap.size ≤ pr := by have := HP.out; have := HR.out; omega
 have hpr : pp < pr := by have := HR.out; omega
 have hqr : pq < pr := by have := HQ.out; have := HR.out; omega
 go_enter Tryz.func20, Tryz.ntmps20
 go_wp2_with fail
 rw [← HW.out, ← HP.out, ← HR.out]
 try rw [← HQ.out]
 refine wp_region_held_drew (S := fun W => W.cell? ⟨pp, 0, none⟩ = some (.slice Ae ne ce) ∧ W.cell? ⟨pp, 1, none⟩ = some (.slice Ak nk ck) ∧ W.cell? ⟨pp, 2, none⟩ = some (.slice Ca na ca9) ∧ W.cell? ⟨pq, 0, none⟩ = some (.slice Be me de) ∧ W.cell? ⟨pq, 1, none⟩ = some (.slice Bk mk dk) ∧ W.cell? ⟨pq, 2, none⟩ = some (.slice Cb nb cb9)) (by kernel_rfl) (by have h9 := HKc.out.drew; exact ⟨h9.c0, h9.c1, h9.c2, h9.c3, h9.c4, h9.c5⟩) (fun hHeld => ?_)
 obtain ⟨w1, hw1⟩ : ∃ v, v = W.drew := ⟨_, rfl⟩
 have hb9 : Below W.heap.size W w1 := by rw [hw1]; exact (Below.refl _ _).drew
 have HKc := Lib.hid (HKc.out.later hb9)
 have HKR := Lib.hid (HKR.out.later hb9)
 have HFR := Lib.hid (HFR.out.later hb9)
 rw [← hw1] at hHeld ⊢
 clear hw1 hb9
 refine Tk 0 14 ?_
 refine Tk 1 15 ?_
 refine Tk 3 17 ?_
 refine Tk 4 18 ?_
 refine wpAnyH_ready (rs := [2]) (by kernel_rfl) (by simp) ?_
 refine AllReadyH.cons (o := ⟨some 16, _, _, _, _, _⟩) rfl (fun K hK => ?_) AllReadyH.nil
 go_simp
 (go_at_call 43; refine (leaves_to t Ae Ak ne nk ce ck m1 w1 HM1.out (by have := HA.out.1; omega) (RdT.more HKc.out.below.size _ (RdT.below HA.out.2.2.1 HKc.out.below))).mono ?_)
 rintro e w2 ⟨A1, c1, rfl, hl1, hb9⟩
 have HL1 := Lib.hid hl1
 have HKc := Lib.hid (HKc.out.later hb9)
 have HKR := Lib.hid (HKR.out.later hb9)
 have HFR := Lib.hid (HFR.out.later hb9)
 clear hl1 hb9
 refine hK.out _ _ ?_ (fun hHeld2 => ?_)
 ·exact ⟨HKc.out.c0, HKc.out.c1, HKc.out.c2, HKc.out.c3, HKc.out.c4, HKc.out.c5⟩
 clear hK K hHeld
 have hHeld := hHeld2
 clear hHeld2
 try simp only [Act.put, List.setIfInBounds_toArray, List.set_cons_zero, List.set_cons_succ]
 refine wpAnyH_ready (rs := [5]) (by kernel_rfl) (by simp) ?_
 refine AllReadyH.cons (o := ⟨some 19, _, _, _, _, _⟩) rfl (fun K hK => ?_) AllReadyH.nil
 go_simp
 (go_at_call 43; refine (leaves_to u Be Bk me mk de dk m2 w2 HM2.out (by have := HB.out.1; omega) (RdT.more HKc.out.below.size _ (RdT.below HB.out.2.2.1 HKc.out.below))).mono ?_)
 rintro e w3 ⟨A2, c2, rfl, hl2, hb9⟩
 have HL1 := Lib.hid (HL1.out.later hb9)
 have HL2 := Lib.hid hl2
 have HKc := Lib.hid (HKc.out.later hb9)
 have HKR := Lib.hid (HKR.out.later hb9)
 have HFR := Lib.hid (HFR.out.later hb9)
 clear hl2 hb9
 refine hK.out _ _ ?_ (fun hHeld2 => ?_)
 ·exact ⟨HKc.out.c0, HKc.out.c1, HKc.out.c2, HKc.out.c3, HKc.out.c4, HKc.out.c5⟩
 clear hK K hHeld
 have hHeld := hHeld2
 clear hHeld2
 try simp only [Act.put, List.setIfInBounds_toArray, List.set_cons_zero, List.set_cons_succ]
 refine Tk 6 5 ?_
 refine Tk 7 6 ?_
 refine wpAnyH_done (by kernel_rfl) ?_ _
 clear hHeld
 go_wp2_with fail
 go_loopw [7, 22] (fun s i wr => ∃ (k : Nat) (Ao : Option Addr) (no co : Nat) (lro : List (SV × E)), k ≤ m1 ∧ s = .slice Ao no co ∧ i = .int .i64 k ∧ no ≤ k ∧ Hid (Row2 wr w3.heap.size Ao no co (outL cs ds (leaves t) (leaves u) k 0) lro) ∧ Hid (Below w3.heap.size w3 wr)) (fun _ i _ => m1 - (intOf i).toNat)
 case atStart => exact ⟨0, none, 0, 0, [], by omega, rfl, rfl, by omega, Row2.nil _ _, Below.refl _ _⟩
 case round =>
  obtain ⟨k, Ao, no, co, lro, hk, rfl, rfl, hno, HRW, HBW⟩ := hrel
  by_cases hlt : k < m1
  ·have hkl : k < (leaves t).length := by rw [HM1.out]; exact hlt
   have HBS : Hid (w3.heap.size ≤ wr.heap.size) := HBW.out.size
   obtain ⟨b, o, rfl, hb, hc⟩ := LfRd.at_ HL1.out (by omega)
   obtain ⟨⟨Ap, np, cp⟩, x0, x1, x2, x3, x4, hpl, hpx⟩ := hc k hkl
   dsimp only at x0 hpl hpx
   have x0 := (HBW.out.cell (p := ⟨b, o + k * 5, none⟩) hb).trans x0
   have x1 := (HBW.out.cell (p := ⟨b, o + k * 5 + 1, none⟩) hb).trans x1
   have x2 := (HBW.out.cell (p := ⟨b, o + k * 5 + 2, none⟩) hb).trans x2
   have x3 := (HBW.out.cell (p := ⟨b, o + k * 5 + 3, none⟩) hb).trans x3
   have x4 := (HBW.out.cell (p := ⟨b, o + k * 5 + 4, none⟩) hb).trans x4
   obtain ⟨lf, hlf⟩ : ∃ z, z = (leaves t)[k] := ⟨_, rfl⟩
   rw [← hlf] at x1 x2 x3 x4 hpl hpx
   obtain ⟨pa, ea, en, et, ev⟩ := lf
   dsimp only at x1 x2 x3 x4 hpl hpx
   have HLF := Lib.hid hlf
   have HPL := Lib.hid hpl
   have HPX : Hid (RX wr (fun b => b < w3.heap.size) 1 Ap np cp (strs pa)) := hpx.keep HBW.out.size (fun b hlt _ => HBW.out.block b hlt)
   have HEL : Hid (Kept [(⟨b, o + k * 5, none⟩, .slice Ap np cp), (⟨b, o + k * 5 + 1, none⟩, .int .i64 ea), (⟨b, o + k * 5 + 2, none⟩, .int .i64 en), (⟨b, o + k * 5 + 3, none⟩, .string et), (⟨b, o + k * 5 + 4, none⟩, .int .i64 ev)] w3 wr) := (((((Kept.nil_of HBW.out).cons_of x4).cons_of x3).cons_of x2).cons_of x1).cons_of x0
   have hp5 : pa.length ≤ 5 := by
    have h1 := path_le (HK1.out.tree) _ (List.getElem_mem hkl)
    rw [← hlf] at h1
    exact h1
   clear hc hlf hpl hpx
   have HFI := Lib.hid (find_any (leaves u) A2 m2 c2 w3.heap.size pa Ap np cp ea en ev et wr HBS.out (by omega) (fun x hx => Nat.le_trans (path_le (HK2.out.tree) x hx) (by omega)) (HL2.out.below (Nat.le_refl _) HBW.out) HPL.out (by rw [← HPL.out]; omega) (HPX.out.mono (fun b hb _ => hb)).rd)
   clear hp5
   go_wp2_with fail
   refine HFI.out.mono ?_
   rintro e v4 ⟨hb9, hcase⟩
   have HRW := Lib.hid (HRW.out.later HBS.out hb9)
   have HPX := Lib.hid (HPX.out.later hb9)
   have HEL := Lib.hid (HEL.out.later hb9)
   have HBW := Lib.hid (HBW.out.trans (hb9.mono HBS.out))
   have HB4 : Hid (w3.heap.size ≤ v4.heap.size) := HBW.out.size
   clear hb9 HFI x0 x1 x2 x3 x4
   rcases hcase with hcase | hcase
   ·obtain ⟨hfn, rfl⟩ := hcase
    have HFN := Lib.hid hfn
    obtain ⟨zh, hzh⟩ : ∃ z, hasCB ds ea en = z := ⟨_, rfl⟩
    have HZH := Lib.hid hzh
    clear hfn hzh
    obtain ⟨gy, hgy⟩ : ∃ g, g = v4.heap.size := ⟨_, rfl⟩
    obtain ⟨v5, hv5⟩ : ∃ W, W = v4.alloc (.cells #[.slice none 0 0, .int .i64 0, .int .i64 0, .string ⟨#[]⟩, .int .i64 0] 70) := ⟨_, rfl⟩
    have hb9 : Below v4.heap.size v4 v5 := by rw [hv5]; exact Dt.box_below _ _ _
    have y0 : v5.cell? ⟨gy, 0, none⟩ = some (.slice none 0 0) := by rw [hv5, hgy]; go_simp
    have y1 : v5.cell? ⟨gy, 1, none⟩ = some (.int .i64 0) := by rw [hv5, hgy]; go_simp
    have y2 : v5.cell? ⟨gy, 2, none⟩ = some (.int .i64 0) := by rw [hv5, hgy]; go_simp
    have y3 : v5.cell? ⟨gy, 3, none⟩ = some (.string ⟨#[]⟩) := by rw [hv5, hgy]; go_simp
    have y4 : v5.cell? ⟨gy, 4, none⟩ = some (.int .i64 0) := by rw [hv5, hgy]; go_simp
    have HYB : Hid (Kept [(⟨gy, 0, none⟩, .slice none 0 0), (⟨gy, 1, none⟩, .int .i64 0), (⟨gy, 2, none⟩, .int .i64 0), (⟨gy, 3, none⟩, .string ⟨#[]⟩), (⟨gy, 4, none⟩, .int .i64 0)] w3 v5) := (((((Kept.nil_of (HBW.out.trans (hb9.mono HB4.out))).cons_of y4).cons_of y3).cons_of y2).cons_of y1).cons_of y0
    have HRW := Lib.hid (HRW.out.later HB4.out hb9)
    have HPX := Lib.hid (HPX.out.later hb9)
    have HEL := Lib.hid (HEL.out.later hb9)
    have HBW := Lib.hid (HBW.out.trans (hb9.mono HB4.out))
    have HKv := Lib.hid (HKc.out.later HBW.out)
    have Hgy := Lib.hid hgy
    have Hv5 := Lib.hid hv5
    clear hb9 y0 y1 y2 y3 y4 hgy hv5
    go_wp2_with fail
    rw [← Hgy.out, ← Hv5.out]
    refine wp_region_held_drew (S := fun W => W.cell? ⟨b, o + k * 5, none⟩ = some (.slice Ap np cp) ∧ W.cell? ⟨b, o + k * 5 + 1, none⟩ = some (.int .i64 ea) ∧ W.cell? ⟨b, o + k * 5 + 2, none⟩ = some (.int .i64 en) ∧ W.cell? ⟨b, o + k * 5 + 3, none⟩ = some (.string et) ∧ W.cell? ⟨b, o + k * 5 + 4, none⟩ = some (.int .i64 ev) ∧ W.cell? ⟨gy, 3, none⟩ = some (.string ⟨#[]⟩) ∧ W.cell? ⟨gy, 4, none⟩ = some (.int .i64 0)) (by kernel_rfl) (by have h9 := HEL.out.drew; have h8 := HYB.out.drew; exact ⟨h9.c0, h9.c1, h9.c2, h9.c3, h9.c4, h8.c3, h8.c4⟩) (fun hHeld => ?_)
    obtain ⟨v6, hv6⟩ : ∃ v, v = v5.drew := ⟨_, rfl⟩
    have hb9 : Below v5.heap.size v5 v6 := by rw [hv6]; exact (Below.refl _ _).drew
    have HB5 : Hid (w3.heap.size ≤ v5.heap.size) := HBW.out.size
    have HRW := Lib.hid (HRW.out.later HB5.out hb9)
    have HPX := Lib.hid (HPX.out.later hb9)
    have HEL := Lib.hid (HEL.out.later hb9)
    have HYB := Lib.hid (HYB.out.later hb9)
    have HBW := Lib.hid (HBW.out.trans (hb9.mono HB5.out))
    have HKv := Lib.hid (HKv.out.later hb9)
    rw [← hv6] at hHeld ⊢
    clear hv6 hb9
    refine Tk 0 34 ?_
    refine Tk 1 35 ?_
    refine Tn 2 36 ?_
    refine Tn 3 37 ?_
    refine Tn 4 38 ?_
    refine Tn 5 39 ?_
    refine Tn 6 40 ?_
    refine Tn 7 41 ?_
    refine Tn 8 42 ?_
    refine Tn 9 43 ?_
    refine Tn 10 44 ?_
    refine Tn 11 45 ?_
    refine Tn 12 46 ?_
    refine Tn 13 47 ?_
    refine Tn 14 48 ?_
    refine Tn 15 49 ?_
    refine Tn 16 50 ?_
    refine Tn 17 51 ?_
    refine Tn 18 52 ?_
    refine Tn 19 53 ?_
    refine Tn 20 54 ?_
    refine Tn 21 55 ?_
    refine Tn 22 56 ?_
    refine Tn 23 57 ?_
    refine Tn 24 58 ?_
    refine Tn 25 59 ?_
    refine Tn 26 60 ?_
    refine Tn 27 61 ?_
    refine Tn 28 62 ?_
    refine Tn 29 63 ?_
    refine Tn 30 64 ?_
    refine Tn 31 65 ?_
    refine Tn 32 66 ?_
    refine Tn 33 67 ?_
    refine Tn 34 68 ?_
    refine Tn 35 69 ?_
    refine Tk 36 70 ?_
    refine wpAnyH_done (by kernel_rfl) ?_ _
    clear hHeld
    go_wp2_with fail
    refine wp_region_held_drew (S := fun W => W.cell? ⟨pp, 0, none⟩ = some (.slice Ae ne ce) ∧ W.cell? ⟨pp, 1, none⟩ = some (.slice Ak nk ck) ∧ W.cell? ⟨pp, 2, none⟩ = some (.slice Ca na ca9) ∧ W.cell? ⟨pq, 0, none⟩ = some (.slice Be me de) ∧ W.cell? ⟨pq, 1, none⟩ = some (.slice Bk mk dk) ∧ W.cell? ⟨pq, 2, none⟩ = some (.slice Cb nb cb9) ∧ W.cell? ⟨b, o + k * 5, none⟩ = some (.slice Ap np cp) ∧ W.cell? ⟨b, o + k * 5 + 1, none⟩ = some (.int .i64 ea) ∧ W.cell? ⟨b, o + k * 5 + 2, none⟩ = some (.int .i64 en) ∧ W.cell? ⟨b, o + k * 5 + 3, none⟩ = some (.string et) ∧ W.cell? ⟨b, o + k * 5 + 4, none⟩ = some (.int .i64 ev)) (by kernel_rfl) (by have h9 := HKv.out.drew; have h8 := HEL.out.drew; exact ⟨h9.c0, h9.c1, h9.c2, h9.c3, h9.c4, h9.c5, h8.c0, h8.c1, h8.c2, h8.c3, h8.c4⟩) (fun hHeld => ?_)
    obtain ⟨v7, hv7⟩ : ∃ v, v = v6.drew := ⟨_, rfl⟩
    have hb9 : Below v6.heap.size v6 v7 := by rw [hv7]; exact (Below.refl _ _).drew
    have HBv7 : Hid (w3.heap.size ≤ v6.heap.size) := HBW.out.size
    have HRW := Lib.hid (HRW.out.later HBv7.out hb9)
    have HPX := Lib.hid (HPX.out.later hb9)
    have HEL := Lib.hid (HEL.out.later hb9)
    have HYB := Lib.hid (HYB.out.later hb9)
    have HBW := Lib.hid (HBW.out.trans (hb9.mono HBv7.out))
    have HKv := Lib.hid (HKv.out.later hb9)
    rw [← hv7] at hHeld ⊢
    clear hv7 hb9
    refine Tk 0 75 ?_
    refine Tk 1 76 ?_
    refine Tk 2 77 ?_
    refine Tk 3 78 ?_
    refine Tk 4 79 ?_
    refine Tk 5 80 ?_
    refine Tk 6 81 ?_
    refine Tk 7 82 ?_
    refine Tk 8 83 ?_
    refine Tk 9 84 ?_
    refine wpAnyH_ready (rs := [10]) (by kernel_rfl) (by simp) ?_
    refine AllReadyH.cons (o := ⟨some 85, _, _, _, _, _⟩) rfl (fun K hK => ?_) AllReadyH.nil
    go_simp
    (go_at_call 29; refine (refhasC_any ds nb Cb cb9 ea en _ HB.out.2.1 (by omega) ((HB.out.2.2.2.below (HKv.out.below)).more HKv.out.below.size) (rightCB_true HK2.out.ctx) zh (HZH.out)).mono ?_)
    rintro e v8 ⟨rfl, hb9⟩
    have HB7 : Hid (w3.heap.size ≤ v7.heap.size) := HBW.out.size
    have HRW := Lib.hid (HRW.out.later HB7.out hb9)
    have HPX := Lib.hid (HPX.out.later hb9)
    have HEL := Lib.hid (HEL.out.later hb9)
    have HYB := Lib.hid (HYB.out.later hb9)
    have HBW := Lib.hid (HBW.out.trans (hb9.mono HB7.out))
    have HKv := Lib.hid (HKv.out.later hb9)
    clear hb9
    refine hK.out _ _ ?_ (fun hHeld2 => ?_)
    ·exact ⟨HKv.out.c0, HKv.out.c1, HKv.out.c2, HKv.out.c3, HKv.out.c4, HKv.out.c5, HEL.out.c0, HEL.out.c1, HEL.out.c2, HEL.out.c3, HEL.out.c4⟩
    clear hK K hHeld
    have hHeld := hHeld2
    clear hHeld2
    try simp only [Act.put, List.setIfInBounds_toArray, List.set_cons_zero, List.set_cons_succ]
    refine Tk 11 86 ?_
    refine Tk 12 87 ?_
    refine wpAnyH_done (by kernel_rfl) ?_ _
    clear hHeld
    cases zh with
    | true =>
     have HOUT : Hid (outL cs ds (leaves t) (leaves u) (k + 1) 0 = outL cs ds (leaves t) (leaves u) k 0 ++ []) := by unfold Hid; rw [outL_first cs ds (leaves t) (leaves u) hkl, ← HLF.out]; exact congrArg _ (stepA_gone HFN.out (by rw [← hasCB_of HK2.out.ctx]; exact HZH.out))
     have HOUT := Lib.hid (HOUT.out.trans (List.append_nil _))
     go_wp2_with fail
     go_roundw
     case rel => exact ⟨k + 1, Ao, no, co, lro, by omega, rfl, by go_num, by omega, by rw [HOUT.out]; exact HRW.out, HBW.out⟩
     case measure => simp [intOf]; omega
    | false =>
     have HOUT : Hid (outL cs ds (leaves t) (leaves u) (k + 1) 0 = outL cs ds (leaves t) (leaves u) k 0 ++ [(pa, (⟨ea, en, et, ev⟩ : E))]) := by unfold Hid; rw [outL_first cs ds (leaves t) (leaves u) hkl, ← HLF.out]; exact congrArg _ (stepA_new HFN.out (by rw [← hasCB_of HK2.out.ctx]; exact HZH.out))
     have x0 := HEL.out.c0
     have x1 := HEL.out.c1
     have x2 := HEL.out.c2
     have x3 := HEL.out.c3
     have x4 := HEL.out.c4
     have HBX : Hid (w3.heap.size ≤ v8.heap.size) := HBW.out.size
     obtain ⟨A6, c6, w6, r6, h6, h7, ap6, ap7, hb6⟩ := Row2.push (e := ⟨ea, en, et, ev⟩) (s := ⟨Ap, np, cp⟩) HRW.out (Row2.nil v8 w3.heap.size) (nil_apart _) HBX.out HPL.out HPX.out (by omega)
     dsimp only at r6
     have Hrun := Lib.hid r6
     have H6 := Lib.hid h6
     have HB6 : Hid (Below w3.heap.size w3 w6) := HBW.out.trans hb6
     clear r6 h6 h7 ap6 ap7 hb6
     go_wp2_with (at_builtin; refine Lib.wpList_append_run _ rfl _ _ _ _ rfl _ _ rfl rfl _ _ Hrun.out ?_)
     go_roundw
     case rel => exact ⟨k + 1, A6, no + 1, c6, _, by omega, rfl, by go_num, by omega, by rw [HOUT.out]; exact H6.out, HB6.out⟩
     case measure => simp [intOf]; omega
   ·obtain ⟨⟨py, ya, yn, yt, yv⟩, ⟨Ay, ny, cy⟩, hfs, rfl, hyl, hyx⟩ := hcase
    dsimp only at hyl hyx
    have HFS := Lib.hid hfs
    have HYL := Lib.hid hyl
    have HYX := Lib.hid hyx
    clear hfs hyl hyx
    by_cases h1 : ev < yv
    ·have f1 : decide (ev < yv) = true := decide_eq_true h1
     have HLT : Hid (ltV (⟨ea, en, et, ev⟩ : E) ⟨ya, yn, yt, yv⟩) := .inl h1
     clear h1
     obtain ⟨gy, hgy⟩ : ∃ g, g = v4.heap.size := ⟨_, rfl⟩
     obtain ⟨v5, hv5⟩ : ∃ W, W = v4.alloc (.cells #[.slice Ay ny cy, .int .i64 ya, .int .i64 yn, .string yt, .int .i64 yv] 70) := ⟨_, rfl⟩
     have hb9 : Below v4.heap.size v4 v5 := by rw [hv5]; exact Dt.box_below _ _ _
     have y0 : v5.cell? ⟨gy, 0, none⟩ = some (.slice Ay ny cy) := by rw [hv5, hgy]; go_simp
     have y1 : v5.cell? ⟨gy, 1, none⟩ = some (.int .i64 ya) := by rw [hv5, hgy]; go_simp
     have y2 : v5.cell? ⟨gy, 2, none⟩ = some (.int .i64 yn) := by rw [hv5, hgy]; go_simp
     have y3 : v5.cell? ⟨gy, 3, none⟩ = some (.string yt) := by rw [hv5, hgy]; go_simp
     have y4 : v5.cell? ⟨gy, 4, none⟩ = some (.int .i64 yv) := by rw [hv5, hgy]; go_simp
     have HYB : Hid (Kept [(⟨gy, 0, none⟩, .slice Ay ny cy), (⟨gy, 1, none⟩, .int .i64 ya), (⟨gy, 2, none⟩, .int .i64 yn), (⟨gy, 3, none⟩, .string yt), (⟨gy, 4, none⟩, .int .i64 yv)] w3 v5) := (((((Kept.nil_of (HBW.out.trans (hb9.mono HB4.out))).cons_of y4).cons_of y3).cons_of y2).cons_of y1).cons_of y0
     have HRW := Lib.hid (HRW.out.later HB4.out hb9)
     have HPX := Lib.hid (HPX.out.later hb9)
     have HEL := Lib.hid (HEL.out.later hb9)
     have HBW := Lib.hid (HBW.out.trans (hb9.mono HB4.out))
     have HYX := Lib.hid (HYX.out.later hb9)
     have HKv := Lib.hid (HKc.out.later HBW.out)
     have Hgy := Lib.hid hgy
     have Hv5 := Lib.hid hv5
     clear hb9 y0 y1 y2 y3 y4 hgy hv5
     go_wp2_with fail
     rw [← Hgy.out, ← Hv5.out]
     refine wp_region_held_drew (S := fun W => W.cell? ⟨b, o + k * 5, none⟩ = some (.slice Ap np cp) ∧ W.cell? ⟨b, o + k * 5 + 1, none⟩ = some (.int .i64 ea) ∧ W.cell? ⟨b, o + k * 5 + 2, none⟩ = some (.int .i64 en) ∧ W.cell? ⟨b, o + k * 5 + 3, none⟩ = some (.string et) ∧ W.cell? ⟨b, o + k * 5 + 4, none⟩ = some (.int .i64 ev) ∧ W.cell? ⟨gy, 3, none⟩ = some (.string yt) ∧ W.cell? ⟨gy, 4, none⟩ = some (.int .i64 yv)) (by kernel_rfl) (by have h9 := HEL.out.drew; have h8 := HYB.out.drew; exact ⟨h9.c0, h9.c1, h9.c2, h9.c3, h9.c4, h8.c3, h8.c4⟩) (fun hHeld => ?_)
     obtain ⟨v6, hv6⟩ : ∃ v, v = v5.drew := ⟨_, rfl⟩
     have hb9 : Below v5.heap.size v5 v6 := by rw [hv6]; exact (Below.refl _ _).drew
     have HB5 : Hid (w3.heap.size ≤ v5.heap.size) := HBW.out.size
     have HRW := Lib.hid (HRW.out.later HB5.out hb9)
     have HPX := Lib.hid (HPX.out.later hb9)
     have HEL := Lib.hid (HEL.out.later hb9)
     have HYB := Lib.hid (HYB.out.later hb9)
     have HBW := Lib.hid (HBW.out.trans (hb9.mono HB5.out))
     have HKv := Lib.hid (HKv.out.later hb9)
     have HYX := Lib.hid (HYX.out.later hb9)
     rw [← hv6] at hHeld ⊢
     clear hv6 hb9
     refine Tk 0 34 ?_
     refine Tk 1 35 ?_
     refine Tk 2 36 ?_
     refine Tk 3 37 ?_
     refine Tk 4 38 ?_
     refine Tk 5 39 ?_
     refine Tk 6 40 ?_
     refine Tk 7 41 ?_
     refine Tk 8 42 ?_
     refine Tk 9 43 ?_
     refine Tk 10 44 ?_
     refine Tk 11 45 ?_
     refine Tk 12 46 ?_
     refine Tn 13 47 ?_
     refine Tn 14 48 ?_
     refine Tn 15 49 ?_
     refine Tn 16 50 ?_
     refine Tn 17 51 ?_
     refine Tn 18 52 ?_
     refine Tn 19 53 ?_
     refine Tn 20 54 ?_
     refine Tn 21 55 ?_
     refine Tn 22 56 ?_
     refine Tn 23 57 ?_
     refine Tn 24 58 ?_
     refine Tn 25 59 ?_
     refine Tn 26 60 ?_
     refine Tn 27 61 ?_
     refine Tn 28 62 ?_
     refine Tn 29 63 ?_
     refine Tn 30 64 ?_
     refine Tn 31 65 ?_
     refine Tn 32 66 ?_
     refine Tn 33 67 ?_
     refine Tn 34 68 ?_
     refine Tk 35 69 ?_
     refine Tk 36 70 ?_
     refine wpAnyH_done (by kernel_rfl) ?_ _
     clear hHeld
     have HOUT : Hid (outL cs ds (leaves t) (leaves u) (k + 1) 0 = outL cs ds (leaves t) (leaves u) k 0 ++ [(py, (⟨ya, yn, yt, yv⟩ : E))]) := by unfold Hid; rw [outL_first cs ds (leaves t) (leaves u) hkl, ← HLF.out]; exact congrArg _ (stepA_other HFS.out HLT.out)
     have y0 := HYB.out.c0
     have y1 := HYB.out.c1
     have y2 := HYB.out.c2
     have y3 := HYB.out.c3
     have y4 := HYB.out.c4
     have HBX : Hid (w3.heap.size ≤ v6.heap.size) := HBW.out.size
     obtain ⟨A6, c6, w6, r6, h6, h7, ap6, ap7, hb6⟩ := Row2.push (e := ⟨ya, yn, yt, yv⟩) (s := ⟨Ay, ny, cy⟩) HRW.out (Row2.nil v6 w3.heap.size) (nil_apart _) HBX.out HYL.out HYX.out (by omega)
     dsimp only at r6
     have Hrun := Lib.hid r6
     have H6 := Lib.hid h6
     have HB6 : Hid (Below w3.heap.size w3 w6) := HBW.out.trans hb6
     clear r6 h6 h7 ap6 ap7 hb6
     go_wp2_with (at_builtin; refine Lib.wpList_append_run _ rfl _ _ _ _ rfl _ _ rfl rfl _ _ Hrun.out ?_)
     go_roundw
     case rel => exact ⟨k + 1, A6, no + 1, c6, _, by omega, rfl, by go_num, by omega, by rw [HOUT.out]; exact H6.out, HB6.out⟩
     case measure => simp [intOf]; omega
    ·by_cases h2 : ev = yv
     ·rcases tot_str.tri et yt with h3 | h3 | h3
      ·subst h2
       have f1 : decide (ev < ev) = false := decide_eq_false (by omega)
       have f2 : (ev == ev) = true := by simp
       have g1 : Op.bytesLess yt.toList et.toList = false := by
        cases h4 : Op.bytesLess yt.toList et.toList with
        | false => rfl
        | true => exact absurd (tot_str.tr _ _ _ h3 h4) (tot_str.irr _)
       have g2 : (yt.toList == et.toList) = false := bytes_ne fun h => by rw [h] at h3; exact tot_str.irr _ h3
       have HLT : Hid (ltV (⟨ea, en, et, ev⟩ : E) ⟨ya, yn, yt, ev⟩) := .inr ⟨rfl, h3⟩
       clear h1 h3
       obtain ⟨gy, hgy⟩ : ∃ g, g = v4.heap.size := ⟨_, rfl⟩
       obtain ⟨v5, hv5⟩ : ∃ W, W = v4.alloc (.cells #[.slice Ay ny cy, .int .i64 ya, .int .i64 yn, .string yt, .int .i64 ev] 70) := ⟨_, rfl⟩
       have hb9 : Below v4.heap.size v4 v5 := by rw [hv5]; exact Dt.box_below _ _ _
       have y0 : v5.cell? ⟨gy, 0, none⟩ = some (.slice Ay ny cy) := by rw [hv5, hgy]; go_simp
       have y1 : v5.cell? ⟨gy, 1, none⟩ = some (.int .i64 ya) := by rw [hv5, hgy]; go_simp
       have y2 : v5.cell? ⟨gy, 2, none⟩ = some (.int .i64 yn) := by rw [hv5, hgy]; go_simp
       have y3 : v5.cell? ⟨gy, 3, none⟩ = some (.string yt) := by rw [hv5, hgy]; go_simp
       have y4 : v5.cell? ⟨gy, 4, none⟩ = some (.int .i64 ev) := by rw [hv5, hgy]; go_simp
       have HYB : Hid (Kept [(⟨gy, 0, none⟩, .slice Ay ny cy), (⟨gy, 1, none⟩, .int .i64 ya), (⟨gy, 2, none⟩, .int .i64 yn), (⟨gy, 3, none⟩, .string yt), (⟨gy, 4, none⟩, .int .i64 ev)] w3 v5) := (((((Kept.nil_of (HBW.out.trans (hb9.mono HB4.out))).cons_of y4).cons_of y3).cons_of y2).cons_of y1).cons_of y0
       have HRW := Lib.hid (HRW.out.later HB4.out hb9)
       have HPX := Lib.hid (HPX.out.later hb9)
       have HEL := Lib.hid (HEL.out.later hb9)
       have HBW := Lib.hid (HBW.out.trans (hb9.mono HB4.out))
       have HYX := Lib.hid (HYX.out.later hb9)
       have HKv := Lib.hid (HKc.out.later HBW.out)
       have Hgy := Lib.hid hgy
       have Hv5 := Lib.hid hv5
       clear hb9 y0 y1 y2 y3 y4 hgy hv5
       go_wp2_with fail
       rw [← Hgy.out, ← Hv5.out]
       refine wp_region_held_drew (S := fun W => W.cell? ⟨b, o + k * 5, none⟩ = some (.slice Ap np cp) ∧ W.cell? ⟨b, o + k * 5 + 1, none⟩ = some (.int .i64 ea) ∧ W.cell? ⟨b, o + k * 5 + 2, none⟩ = some (.int .i64 en) ∧ W.cell? ⟨b, o + k * 5 + 3, none⟩ = some (.string et) ∧ W.cell? ⟨b, o + k * 5 + 4, none⟩ = some (.int .i64 ev) ∧ W.cell? ⟨gy, 3, none⟩ = some (.string yt) ∧ W.cell? ⟨gy, 4, none⟩ = some (.int .i64 ev)) (by kernel_rfl) (by have h9 := HEL.out.drew; have h8 := HYB.out.drew; exact ⟨h9.c0, h9.c1, h9.c2, h9.c3, h9.c4, h8.c3, h8.c4⟩) (fun hHeld => ?_)
       obtain ⟨v6, hv6⟩ : ∃ v, v = v5.drew := ⟨_, rfl⟩
       have hb9 : Below v5.heap.size v5 v6 := by rw [hv6]; exact (Below.refl _ _).drew
       have HB5 : Hid (w3.heap.size ≤ v5.heap.size) := HBW.out.size
       have HRW := Lib.hid (HRW.out.later HB5.out hb9)
       have HPX := Lib.hid (HPX.out.later hb9)
       have HEL := Lib.hid (HEL.out.later hb9)
       have HYB := Lib.hid (HYB.out.later hb9)
       have HBW := Lib.hid (HBW.out.trans (hb9.mono HB5.out))
       have HKv := Lib.hid (HKv.out.later hb9)
       have HYX := Lib.hid (HYX.out.later hb9)
       rw [← hv6] at hHeld ⊢
       clear hv6 hb9
       refine Tk 0 34 ?_
       refine Tk 1 35 ?_
       refine Tk 2 36 ?_
       refine Tk 3 37 ?_
       refine Tk 4 38 ?_
       refine Tk 5 39 ?_
       refine Tk 6 40 ?_
       refine Tk 7 41 ?_
       refine Tk 8 42 ?_
       refine Tk 9 43 ?_
       refine Tk 10 44 ?_
       refine Tk 11 45 ?_
       refine Tk 12 46 ?_
       refine Tk 13 47 ?_
       refine Tk 14 48 ?_
       refine Tk 15 49 ?_
       refine Tk 16 50 ?_
       refine Tk 17 51 ?_
       refine Tk 18 52 ?_
       refine Tk 19 53 ?_
       refine Tk 20 54 ?_
       refine Tk 21 55 ?_
       refine Tk 22 56 ?_
       refine Tk 23 57 ?_
       refine Tk 24 58 ?_
       refine Tk 25 59 ?_
       refine Tk 26 60 ?_
       refine Tk 27 61 ?_
       refine Tk 28 62 ?_
       refine Tk 29 63 ?_
       refine Tk 30 64 ?_
       refine Tk 31 65 ?_
       refine Tk 32 66 ?_
       refine Tk 33 67 ?_
       refine Tk 34 68 ?_
       refine Tk 35 69 ?_
       refine Tk 36 70 ?_
       refine wpAnyH_done (by kernel_rfl) ?_ _
       clear hHeld
       have HOUT : Hid (outL cs ds (leaves t) (leaves u) (k + 1) 0 = outL cs ds (leaves t) (leaves u) k 0 ++ [(py, (⟨ya, yn, yt, ev⟩ : E))]) := by unfold Hid; rw [outL_first cs ds (leaves t) (leaves u) hkl, ← HLF.out]; exact congrArg _ (stepA_other HFS.out HLT.out)
       have y0 := HYB.out.c0
       have y1 := HYB.out.c1
       have y2 := HYB.out.c2
       have y3 := HYB.out.c3
       have y4 := HYB.out.c4
       have HBX : Hid (w3.heap.size ≤ v6.heap.size) := HBW.out.size
       obtain ⟨A6, c6, w6, r6, h6, h7, ap6, ap7, hb6⟩ := Row2.push (e := ⟨ya, yn, yt, ev⟩) (s := ⟨Ay, ny, cy⟩) HRW.out (Row2.nil v6 w3.heap.size) (nil_apart _) HBX.out HYL.out HYX.out (by omega)
       dsimp only at r6
       have Hrun := Lib.hid r6
       have H6 := Lib.hid h6
       have HB6 : Hid (Below w3.heap.size w3 w6) := HBW.out.trans hb6
       clear r6 h6 h7 ap6 ap7 hb6
       go_wp2_with (at_builtin; refine Lib.wpList_append_run _ rfl _ _ _ _ rfl _ _ rfl rfl _ _ Hrun.out ?_)
       go_roundw
       case rel => exact ⟨k + 1, A6, no + 1, c6, _, by omega, rfl, by go_num, by omega, by rw [HOUT.out]; exact H6.out, HB6.out⟩
       case measure => simp [intOf]; omega
      ·subst h2
       have f1 : decide (ev < ev) = false := decide_eq_false (by omega)
       have f2 : (ev == ev) = true := by simp
       subst h3
       have g1 : Op.bytesLess et.toList et.toList = false := bytesLess_irr _
       have HLT : Hid (¬ ltV (⟨ea, en, et, ev⟩ : E) ⟨ya, yn, et, ev⟩) := fun h => by
        rcases h with h | h
        ·exact absurd h (by show ¬ ev < ev; omega)
        ·exact tot_str.irr _ h.2
       clear h1
       obtain ⟨gy, hgy⟩ : ∃ g, g = v4.heap.size := ⟨_, rfl⟩
       obtain ⟨v5, hv5⟩ : ∃ W, W = v4.alloc (.cells #[.slice Ay ny cy, .int .i64 ya, .int .i64 yn, .string et, .int .i64 ev] 70) := ⟨_, rfl⟩
       have hb9 : Below v4.heap.size v4 v5 := by rw [hv5]; exact Dt.box_below _ _ _
       have y0 : v5.cell? ⟨gy, 0, none⟩ = some (.slice Ay ny cy) := by rw [hv5, hgy]; go_simp
       have y1 : v5.cell? ⟨gy, 1, none⟩ = some (.int .i64 ya) := by rw [hv5, hgy]; go_simp
       have y2 : v5.cell? ⟨gy, 2, none⟩ = some (.int .i64 yn) := by rw [hv5, hgy]; go_simp
       have y3 : v5.cell? ⟨gy, 3, none⟩ = some (.string et) := by rw [hv5, hgy]; go_simp
       have y4 : v5.cell? ⟨gy, 4, none⟩ = some (.int .i64 ev) := by rw [hv5, hgy]; go_simp
       have HYB : Hid (Kept [(⟨gy, 0, none⟩, .slice Ay ny cy), (⟨gy, 1, none⟩, .int .i64 ya), (⟨gy, 2, none⟩, .int .i64 yn), (⟨gy, 3, none⟩, .string et), (⟨gy, 4, none⟩, .int .i64 ev)] w3 v5) := (((((Kept.nil_of (HBW.out.trans (hb9.mono HB4.out))).cons_of y4).cons_of y3).cons_of y2).cons_of y1).cons_of y0
       have HRW := Lib.hid (HRW.out.later HB4.out hb9)
       have HPX := Lib.hid (HPX.out.later hb9)
       have HEL := Lib.hid (HEL.out.later hb9)
       have HBW := Lib.hid (HBW.out.trans (hb9.mono HB4.out))
       have HYX := Lib.hid (HYX.out.later hb9)
       have HKv := Lib.hid (HKc.out.later HBW.out)
       have Hgy := Lib.hid hgy
       have Hv5 := Lib.hid hv5
       clear hb9 y0 y1 y2 y3 y4 hgy hv5
       go_wp2_with fail
       rw [← Hgy.out, ← Hv5.out]
       refine wp_region_held_drew (S := fun W => W.cell? ⟨b, o + k * 5, none⟩ = some (.slice Ap np cp) ∧ W.cell? ⟨b, o + k * 5 + 1, none⟩ = some (.int .i64 ea) ∧ W.cell? ⟨b, o + k * 5 + 2, none⟩ = some (.int .i64 en) ∧ W.cell? ⟨b, o + k * 5 + 3, none⟩ = some (.string et) ∧ W.cell? ⟨b, o + k * 5 + 4, none⟩ = some (.int .i64 ev) ∧ W.cell? ⟨gy, 3, none⟩ = some (.string et) ∧ W.cell? ⟨gy, 4, none⟩ = some (.int .i64 ev)) (by kernel_rfl) (by have h9 := HEL.out.drew; have h8 := HYB.out.drew; exact ⟨h9.c0, h9.c1, h9.c2, h9.c3, h9.c4, h8.c3, h8.c4⟩) (fun hHeld => ?_)
       obtain ⟨v6, hv6⟩ : ∃ v, v = v5.drew := ⟨_, rfl⟩
       have hb9 : Below v5.heap.size v5 v6 := by rw [hv6]; exact (Below.refl _ _).drew
       have HB5 : Hid (w3.heap.size ≤ v5.heap.size) := HBW.out.size
       have HRW := Lib.hid (HRW.out.later HB5.out hb9)
       have HPX := Lib.hid (HPX.out.later hb9)
       have HEL := Lib.hid (HEL.out.later hb9)
       have HYB := Lib.hid (HYB.out.later hb9)
       have HBW := Lib.hid (HBW.out.trans (hb9.mono HB5.out))
       have HKv := Lib.hid (HKv.out.later hb9)
       have HYX := Lib.hid (HYX.out.later hb9)
       rw [← hv6] at hHeld ⊢
       clear hv6 hb9
       refine Tk 0 34 ?_
       refine Tk 1 35 ?_
       refine Tk 2 36 ?_
       refine Tk 3 37 ?_
       refine Tk 4 38 ?_
       refine Tk 5 39 ?_
       refine Tk 6 40 ?_
       refine Tk 7 41 ?_
       refine Tk 8 42 ?_
       refine Tk 9 43 ?_
       refine Tk 10 44 ?_
       refine Tk 11 45 ?_
       refine Tk 12 46 ?_
       refine Tk 13 47 ?_
       refine Tk 14 48 ?_
       refine Tk 15 49 ?_
       refine Tk 16 50 ?_
       refine Tk 17 51 ?_
       refine Tk 18 52 ?_
       refine Tk 19 53 ?_
       refine Tk 20 54 ?_
       refine Tk 21 55 ?_
       refine Tk 22 56 ?_
       refine Tk 23 57 ?_
       refine Tk 24 58 ?_
       refine Tk 25 59 ?_
       refine Tk 26 60 ?_
       refine Tk 27 61 ?_
       refine Tk 28 62 ?_
       refine Tk 29 63 ?_
       refine Tk 30 64 ?_
       refine Tk 31 65 ?_
       refine Tk 32 66 ?_
       refine Tk 33 67 ?_
       refine Tk 34 68 ?_
       refine Tk 35 69 ?_
       refine Tk 36 70 ?_
       refine wpAnyH_done (by kernel_rfl) ?_ _
       clear hHeld
       have HOUT : Hid (outL cs ds (leaves t) (leaves u) (k + 1) 0 = outL cs ds (leaves t) (leaves u) k 0 ++ [(pa, (⟨ea, en, et, ev⟩ : E))]) := by unfold Hid; rw [outL_first cs ds (leaves t) (leaves u) hkl, ← HLF.out]; exact congrArg _ (stepA_same HFS.out HLT.out)
       go_wp2_with fail
       refine wp_region_held_drew (S := fun W => W.cell? ⟨pp, 0, none⟩ = some (.slice Ae ne ce) ∧ W.cell? ⟨pp, 1, none⟩ = some (.slice Ak nk ck) ∧ W.cell? ⟨pp, 2, none⟩ = some (.slice Ca na ca9) ∧ W.cell? ⟨pq, 0, none⟩ = some (.slice Be me de) ∧ W.cell? ⟨pq, 1, none⟩ = some (.slice Bk mk dk) ∧ W.cell? ⟨pq, 2, none⟩ = some (.slice Cb nb cb9) ∧ W.cell? ⟨b, o + k * 5, none⟩ = some (.slice Ap np cp) ∧ W.cell? ⟨b, o + k * 5 + 1, none⟩ = some (.int .i64 ea) ∧ W.cell? ⟨b, o + k * 5 + 2, none⟩ = some (.int .i64 en) ∧ W.cell? ⟨b, o + k * 5 + 3, none⟩ = some (.string et) ∧ W.cell? ⟨b, o + k * 5 + 4, none⟩ = some (.int .i64 ev)) (by kernel_rfl) (by have h9 := HKv.out.drew; have h8 := HEL.out.drew; exact ⟨h9.c0, h9.c1, h9.c2, h9.c3, h9.c4, h9.c5, h8.c0, h8.c1, h8.c2, h8.c3, h8.c4⟩) (fun hHeld => ?_)
       obtain ⟨v7, hv7⟩ : ∃ v, v = v6.drew := ⟨_, rfl⟩
       have hb9 : Below v6.heap.size v6 v7 := by rw [hv7]; exact (Below.refl _ _).drew
       have HBv7 : Hid (w3.heap.size ≤ v6.heap.size) := HBW.out.size
       have HRW := Lib.hid (HRW.out.later HBv7.out hb9)
       have HPX := Lib.hid (HPX.out.later hb9)
       have HEL := Lib.hid (HEL.out.later hb9)
       have HYB := Lib.hid (HYB.out.later hb9)
       have HBW := Lib.hid (HBW.out.trans (hb9.mono HBv7.out))
       have HKv := Lib.hid (HKv.out.later hb9)
       rw [← hv7] at hHeld ⊢
       clear hv7 hb9
       refine Tk 0 75 ?_
       refine Tk 1 76 ?_
       refine Tn 2 77 ?_
       refine Tn 3 78 ?_
       refine Tn 4 79 ?_
       refine Tn 5 80 ?_
       refine Tn 6 81 ?_
       refine Tn 7 82 ?_
       refine Tn 8 83 ?_
       refine Tn 9 84 ?_
       refine Tn 10 85 ?_
       refine Tn 11 86 ?_
       refine Tk 12 87 ?_
       refine wpAnyH_done (by kernel_rfl) ?_ _
       clear hHeld
       have x0 := HEL.out.c0
       have x1 := HEL.out.c1
       have x2 := HEL.out.c2
       have x3 := HEL.out.c3
       have x4 := HEL.out.c4
       have HBX : Hid (w3.heap.size ≤ v7.heap.size) := HBW.out.size
       obtain ⟨A6, c6, w6, r6, h6, h7, ap6, ap7, hb6⟩ := Row2.push (e := ⟨ea, en, et, ev⟩) (s := ⟨Ap, np, cp⟩) HRW.out (Row2.nil v7 w3.heap.size) (nil_apart _) HBX.out HPL.out HPX.out (by omega)
       dsimp only at r6
       have Hrun := Lib.hid r6
       have H6 := Lib.hid h6
       have HB6 : Hid (Below w3.heap.size w3 w6) := HBW.out.trans hb6
       clear r6 h6 h7 ap6 ap7 hb6
       go_wp2_with (at_builtin; refine Lib.wpList_append_run _ rfl _ _ _ _ rfl _ _ rfl rfl _ _ Hrun.out ?_)
       go_roundw
       case rel => exact ⟨k + 1, A6, no + 1, c6, _, by omega, rfl, by go_num, by omega, by rw [HOUT.out]; exact H6.out, HB6.out⟩
       case measure => simp [intOf]; omega
      ·subst h2
       have f1 : decide (ev < ev) = false := decide_eq_false (by omega)
       have f2 : (ev == ev) = true := by simp
       have g1 : Op.bytesLess yt.toList et.toList = true := h3
       have HLT : Hid (¬ ltV (⟨ea, en, et, ev⟩ : E) ⟨ya, yn, yt, ev⟩) := fun h => by
        rcases h with h | h
        ·exact absurd h (by show ¬ ev < ev; omega)
        ·exact tot_str.irr _ (tot_str.tr _ _ _ h3 h.2)
       clear h1 h3
       obtain ⟨gy, hgy⟩ : ∃ g, g = v4.heap.size := ⟨_, rfl⟩
       obtain ⟨v5, hv5⟩ : ∃ W, W = v4.alloc (.cells #[.slice Ay ny cy, .int .i64 ya, .int .i64 yn, .string yt, .int .i64 ev] 70) := ⟨_, rfl⟩
       have hb9 : Below v4.heap.size v4 v5 := by rw [hv5]; exact Dt.box_below _ _ _
       have y0 : v5.cell? ⟨gy, 0, none⟩ = some (.slice Ay ny cy) := by rw [hv5, hgy]; go_simp
       have y1 : v5.cell? ⟨gy, 1, none⟩ = some (.int .i64 ya) := by rw [hv5, hgy]; go_simp
       have y2 : v5.cell? ⟨gy, 2, none⟩ = some (.int .i64 yn) := by rw [hv5, hgy]; go_simp
       have y3 : v5.cell? ⟨gy, 3, none⟩ = some (.string yt) := by rw [hv5, hgy]; go_simp
       have y4 : v5.cell? ⟨gy, 4, none⟩ = some (.int .i64 ev) := by rw [hv5, hgy]; go_simp
       have HYB : Hid (Kept [(⟨gy, 0, none⟩, .slice Ay ny cy), (⟨gy, 1, none⟩, .int .i64 ya), (⟨gy, 2, none⟩, .int .i64 yn), (⟨gy, 3, none⟩, .string yt), (⟨gy, 4, none⟩, .int .i64 ev)] w3 v5) := (((((Kept.nil_of (HBW.out.trans (hb9.mono HB4.out))).cons_of y4).cons_of y3).cons_of y2).cons_of y1).cons_of y0
       have HRW := Lib.hid (HRW.out.later HB4.out hb9)
       have HPX := Lib.hid (HPX.out.later hb9)
       have HEL := Lib.hid (HEL.out.later hb9)
       have HBW := Lib.hid (HBW.out.trans (hb9.mono HB4.out))
       have HYX := Lib.hid (HYX.out.later hb9)
       have HKv := Lib.hid (HKc.out.later HBW.out)
       have Hgy := Lib.hid hgy
       have Hv5 := Lib.hid hv5
       clear hb9 y0 y1 y2 y3 y4 hgy hv5
       go_wp2_with fail
       rw [← Hgy.out, ← Hv5.out]
       refine wp_region_held_drew (S := fun W => W.cell? ⟨b, o + k * 5, none⟩ = some (.slice Ap np cp) ∧ W.cell? ⟨b, o + k * 5 + 1, none⟩ = some (.int .i64 ea) ∧ W.cell? ⟨b, o + k * 5 + 2, none⟩ = some (.int .i64 en) ∧ W.cell? ⟨b, o + k * 5 + 3, none⟩ = some (.string et) ∧ W.cell? ⟨b, o + k * 5 + 4, none⟩ = some (.int .i64 ev) ∧ W.cell? ⟨gy, 3, none⟩ = some (.string yt) ∧ W.cell? ⟨gy, 4, none⟩ = some (.int .i64 ev)) (by kernel_rfl) (by have h9 := HEL.out.drew; have h8 := HYB.out.drew; exact ⟨h9.c0, h9.c1, h9.c2, h9.c3, h9.c4, h8.c3, h8.c4⟩) (fun hHeld => ?_)
       obtain ⟨v6, hv6⟩ : ∃ v, v = v5.drew := ⟨_, rfl⟩
       have hb9 : Below v5.heap.size v5 v6 := by rw [hv6]; exact (Below.refl _ _).drew
       have HB5 : Hid (w3.heap.size ≤ v5.heap.size) := HBW.out.size
       have HRW := Lib.hid (HRW.out.later HB5.out hb9)
       have HPX := Lib.hid (HPX.out.later hb9)
       have HEL := Lib.hid (HEL.out.later hb9)
       have HYB := Lib.hid (HYB.out.later hb9)
       have HBW := Lib.hid (HBW.out.trans (hb9.mono HB5.out))
       have HKv := Lib.hid (HKv.out.later hb9)
       have HYX := Lib.hid (HYX.out.later hb9)
       rw [← hv6] at hHeld ⊢
       clear hv6 hb9
       refine Tk 0 34 ?_
       refine Tk 1 35 ?_
       refine Tk 2 36 ?_
       refine Tk 3 37 ?_
       refine Tk 4 38 ?_
       refine Tk 5 39 ?_
       refine Tk 6 40 ?_
       refine Tk 7 41 ?_
       refine Tk 8 42 ?_
       refine Tk 9 43 ?_
       refine Tk 10 44 ?_
       refine Tk 11 45 ?_
       refine Tk 12 46 ?_
       refine Tk 13 47 ?_
       refine Tk 14 48 ?_
       refine Tk 15 49 ?_
       refine Tk 16 50 ?_
       refine Tk 17 51 ?_
       refine Tk 18 52 ?_
       refine Tk 19 53 ?_
       refine Tk 20 54 ?_
       refine Tk 21 55 ?_
       refine Tk 22 56 ?_
       refine Tk 23 57 ?_
       refine Tk 24 58 ?_
       refine Tk 25 59 ?_
       refine Tk 26 60 ?_
       refine Tk 27 61 ?_
       refine Tk 28 62 ?_
       refine Tk 29 63 ?_
       refine Tk 30 64 ?_
       refine Tk 31 65 ?_
       refine Tk 32 66 ?_
       refine Tk 33 67 ?_
       refine Tk 34 68 ?_
       refine Tk 35 69 ?_
       refine Tk 36 70 ?_
       refine wpAnyH_done (by kernel_rfl) ?_ _
       clear hHeld
       have HOUT : Hid (outL cs ds (leaves t) (leaves u) (k + 1) 0 = outL cs ds (leaves t) (leaves u) k 0 ++ [(pa, (⟨ea, en, et, ev⟩ : E))]) := by unfold Hid; rw [outL_first cs ds (leaves t) (leaves u) hkl, ← HLF.out]; exact congrArg _ (stepA_same HFS.out HLT.out)
       go_wp2_with fail
       refine wp_region_held_drew (S := fun W => W.cell? ⟨pp, 0, none⟩ = some (.slice Ae ne ce) ∧ W.cell? ⟨pp, 1, none⟩ = some (.slice Ak nk ck) ∧ W.cell? ⟨pp, 2, none⟩ = some (.slice Ca na ca9) ∧ W.cell? ⟨pq, 0, none⟩ = some (.slice Be me de) ∧ W.cell? ⟨pq, 1, none⟩ = some (.slice Bk mk dk) ∧ W.cell? ⟨pq, 2, none⟩ = some (.slice Cb nb cb9) ∧ W.cell? ⟨b, o + k * 5, none⟩ = some (.slice Ap np cp) ∧ W.cell? ⟨b, o + k * 5 + 1, none⟩ = some (.int .i64 ea) ∧ W.cell? ⟨b, o + k * 5 + 2, none⟩ = some (.int .i64 en) ∧ W.cell? ⟨b, o + k * 5 + 3, none⟩ = some (.string et) ∧ W.cell? ⟨b, o + k * 5 + 4, none⟩ = some (.int .i64 ev)) (by kernel_rfl) (by have h9 := HKv.out.drew; have h8 := HEL.out.drew; exact ⟨h9.c0, h9.c1, h9.c2, h9.c3, h9.c4, h9.c5, h8.c0, h8.c1, h8.c2, h8.c3, h8.c4⟩) (fun hHeld => ?_)
       obtain ⟨v7, hv7⟩ : ∃ v, v = v6.drew := ⟨_, rfl⟩
       have hb9 : Below v6.heap.size v6 v7 := by rw [hv7]; exact (Below.refl _ _).drew
       have HBv7 : Hid (w3.heap.size ≤ v6.heap.size) := HBW.out.size
       have HRW := Lib.hid (HRW.out.later HBv7.out hb9)
       have HPX := Lib.hid (HPX.out.later hb9)
       have HEL := Lib.hid (HEL.out.later hb9)
       have HYB := Lib.hid (HYB.out.later hb9)
       have HBW := Lib.hid (HBW.out.trans (hb9.mono HBv7.out))
       have HKv := Lib.hid (HKv.out.later hb9)
       rw [← hv7] at hHeld ⊢
       clear hv7 hb9
       refine Tk 0 75 ?_
       refine Tk 1 76 ?_
       refine Tn 2 77 ?_
       refine Tn 3 78 ?_
       refine Tn 4 79 ?_
       refine Tn 5 80 ?_
       refine Tn 6 81 ?_
       refine Tn 7 82 ?_
       refine Tn 8 83 ?_
       refine Tn 9 84 ?_
       refine Tn 10 85 ?_
       refine Tn 11 86 ?_
       refine Tk 12 87 ?_
       refine wpAnyH_done (by kernel_rfl) ?_ _
       clear hHeld
       have x0 := HEL.out.c0
       have x1 := HEL.out.c1
       have x2 := HEL.out.c2
       have x3 := HEL.out.c3
       have x4 := HEL.out.c4
       have HBX : Hid (w3.heap.size ≤ v7.heap.size) := HBW.out.size
       obtain ⟨A6, c6, w6, r6, h6, h7, ap6, ap7, hb6⟩ := Row2.push (e := ⟨ea, en, et, ev⟩) (s := ⟨Ap, np, cp⟩) HRW.out (Row2.nil v7 w3.heap.size) (nil_apart _) HBX.out HPL.out HPX.out (by omega)
       dsimp only at r6
       have Hrun := Lib.hid r6
       have H6 := Lib.hid h6
       have HB6 : Hid (Below w3.heap.size w3 w6) := HBW.out.trans hb6
       clear r6 h6 h7 ap6 ap7 hb6
       go_wp2_with (at_builtin; refine Lib.wpList_append_run _ rfl _ _ _ _ rfl _ _ rfl rfl _ _ Hrun.out ?_)
       go_roundw
       case rel => exact ⟨k + 1, A6, no + 1, c6, _, by omega, rfl, by go_num, by omega, by rw [HOUT.out]; exact H6.out, HB6.out⟩
       case measure => simp [intOf]; omega
     ·have f1 : decide (ev < yv) = false := decide_eq_false h1
      have f2 : (yv == ev) = false := by rw [beq_eq_false_iff_ne]; exact fun h => h2 h.symm
      have HLT : Hid (¬ ltV (⟨ea, en, et, ev⟩ : E) ⟨ya, yn, yt, yv⟩) := fun h => by
       rcases h with h | h
       ·exact h1 h
       ·exact h2 h.1
      clear h1 h2
      obtain ⟨gy, hgy⟩ : ∃ g, g = v4.heap.size := ⟨_, rfl⟩
      obtain ⟨v5, hv5⟩ : ∃ W, W = v4.alloc (.cells #[.slice Ay ny cy, .int .i64 ya, .int .i64 yn, .string yt, .int .i64 yv] 70) := ⟨_, rfl⟩
      have hb9 : Below v4.heap.size v4 v5 := by rw [hv5]; exact Dt.box_below _ _ _
      have y0 : v5.cell? ⟨gy, 0, none⟩ = some (.slice Ay ny cy) := by rw [hv5, hgy]; go_simp
      have y1 : v5.cell? ⟨gy, 1, none⟩ = some (.int .i64 ya) := by rw [hv5, hgy]; go_simp
      have y2 : v5.cell? ⟨gy, 2, none⟩ = some (.int .i64 yn) := by rw [hv5, hgy]; go_simp
      have y3 : v5.cell? ⟨gy, 3, none⟩ = some (.string yt) := by rw [hv5, hgy]; go_simp
      have y4 : v5.cell? ⟨gy, 4, none⟩ = some (.int .i64 yv) := by rw [hv5, hgy]; go_simp
      have HYB : Hid (Kept [(⟨gy, 0, none⟩, .slice Ay ny cy), (⟨gy, 1, none⟩, .int .i64 ya), (⟨gy, 2, none⟩, .int .i64 yn), (⟨gy, 3, none⟩, .string yt), (⟨gy, 4, none⟩, .int .i64 yv)] w3 v5) := (((((Kept.nil_of (HBW.out.trans (hb9.mono HB4.out))).cons_of y4).cons_of y3).cons_of y2).cons_of y1).cons_of y0
      have HRW := Lib.hid (HRW.out.later HB4.out hb9)
      have HPX := Lib.hid (HPX.out.later hb9)
      have HEL := Lib.hid (HEL.out.later hb9)
      have HBW := Lib.hid (HBW.out.trans (hb9.mono HB4.out))
      have HYX := Lib.hid (HYX.out.later hb9)
      have HKv := Lib.hid (HKc.out.later HBW.out)
      have Hgy := Lib.hid hgy
      have Hv5 := Lib.hid hv5
      clear hb9 y0 y1 y2 y3 y4 hgy hv5
      go_wp2_with fail
      rw [← Hgy.out, ← Hv5.out]
      refine wp_region_held_drew (S := fun W => W.cell? ⟨b, o + k * 5, none⟩ = some (.slice Ap np cp) ∧ W.cell? ⟨b, o + k * 5 + 1, none⟩ = some (.int .i64 ea) ∧ W.cell? ⟨b, o + k * 5 + 2, none⟩ = some (.int .i64 en) ∧ W.cell? ⟨b, o + k * 5 + 3, none⟩ = some (.string et) ∧ W.cell? ⟨b, o + k * 5 + 4, none⟩ = some (.int .i64 ev) ∧ W.cell? ⟨gy, 3, none⟩ = some (.string yt) ∧ W.cell? ⟨gy, 4, none⟩ = some (.int .i64 yv)) (by kernel_rfl) (by have h9 := HEL.out.drew; have h8 := HYB.out.drew; exact ⟨h9.c0, h9.c1, h9.c2, h9.c3, h9.c4, h8.c3, h8.c4⟩) (fun hHeld => ?_)
      obtain ⟨v6, hv6⟩ : ∃ v, v = v5.drew := ⟨_, rfl⟩
      have hb9 : Below v5.heap.size v5 v6 := by rw [hv6]; exact (Below.refl _ _).drew
      have HB5 : Hid (w3.heap.size ≤ v5.heap.size) := HBW.out.size
      have HRW := Lib.hid (HRW.out.later HB5.out hb9)
      have HPX := Lib.hid (HPX.out.later hb9)
      have HEL := Lib.hid (HEL.out.later hb9)
      have HYB := Lib.hid (HYB.out.later hb9)
      have HBW := Lib.hid (HBW.out.trans (hb9.mono HB5.out))
      have HKv := Lib.hid (HKv.out.later hb9)
      have HYX := Lib.hid (HYX.out.later hb9)
      rw [← hv6] at hHeld ⊢
      clear hv6 hb9
      refine Tk 0 34 ?_
      refine Tk 1 35 ?_
      refine Tk 2 36 ?_
      refine Tk 3 37 ?_
      refine Tk 4 38 ?_
      refine Tk 5 39 ?_
      refine Tk 6 40 ?_
      refine Tk 7 41 ?_
      refine Tk 8 42 ?_
      refine Tk 9 43 ?_
      refine Tk 10 44 ?_
      refine Tk 11 45 ?_
      refine Tk 12 46 ?_
      refine Tk 13 47 ?_
      refine Tk 14 48 ?_
      refine Tk 15 49 ?_
      refine Tk 16 50 ?_
      refine Tk 17 51 ?_
      refine Tk 18 52 ?_
      refine Tk 19 53 ?_
      refine Tk 20 54 ?_
      refine Tk 21 55 ?_
      refine Tk 22 56 ?_
      refine Tk 23 57 ?_
      refine Tn 24 58 ?_
      refine Tn 25 59 ?_
      refine Tn 26 60 ?_
      refine Tn 27 61 ?_
      refine Tn 28 62 ?_
      refine Tn 29 63 ?_
      refine Tn 30 64 ?_
      refine Tn 31 65 ?_
      refine Tn 32 66 ?_
      refine Tn 33 67 ?_
      refine Tk 34 68 ?_
      refine Tk 35 69 ?_
      refine Tk 36 70 ?_
      refine wpAnyH_done (by kernel_rfl) ?_ _
      clear hHeld
      have HOUT : Hid (outL cs ds (leaves t) (leaves u) (k + 1) 0 = outL cs ds (leaves t) (leaves u) k 0 ++ [(pa, (⟨ea, en, et, ev⟩ : E))]) := by unfold Hid; rw [outL_first cs ds (leaves t) (leaves u) hkl, ← HLF.out]; exact congrArg _ (stepA_same HFS.out HLT.out)
      go_wp2_with fail
      refine wp_region_held_drew (S := fun W => W.cell? ⟨pp, 0, none⟩ = some (.slice Ae ne ce) ∧ W.cell? ⟨pp, 1, none⟩ = some (.slice Ak nk ck) ∧ W.cell? ⟨pp, 2, none⟩ = some (.slice Ca na ca9) ∧ W.cell? ⟨pq, 0, none⟩ = some (.slice Be me de) ∧ W.cell? ⟨pq, 1, none⟩ = some (.slice Bk mk dk) ∧ W.cell? ⟨pq, 2, none⟩ = some (.slice Cb nb cb9) ∧ W.cell? ⟨b, o + k * 5, none⟩ = some (.slice Ap np cp) ∧ W.cell? ⟨b, o + k * 5 + 1, none⟩ = some (.int .i64 ea) ∧ W.cell? ⟨b, o + k * 5 + 2, none⟩ = some (.int .i64 en) ∧ W.cell? ⟨b, o + k * 5 + 3, none⟩ = some (.string et) ∧ W.cell? ⟨b, o + k * 5 + 4, none⟩ = some (.int .i64 ev)) (by kernel_rfl) (by have h9 := HKv.out.drew; have h8 := HEL.out.drew; exact ⟨h9.c0, h9.c1, h9.c2, h9.c3, h9.c4, h9.c5, h8.c0, h8.c1, h8.c2, h8.c3, h8.c4⟩) (fun hHeld => ?_)
      obtain ⟨v7, hv7⟩ : ∃ v, v = v6.drew := ⟨_, rfl⟩
      have hb9 : Below v6.heap.size v6 v7 := by rw [hv7]; exact (Below.refl _ _).drew
      have HBv7 : Hid (w3.heap.size ≤ v6.heap.size) := HBW.out.size
      have HRW := Lib.hid (HRW.out.later HBv7.out hb9)
      have HPX := Lib.hid (HPX.out.later hb9)
      have HEL := Lib.hid (HEL.out.later hb9)
      have HYB := Lib.hid (HYB.out.later hb9)
      have HBW := Lib.hid (HBW.out.trans (hb9.mono HBv7.out))
      have HKv := Lib.hid (HKv.out.later hb9)
      rw [← hv7] at hHeld ⊢
      clear hv7 hb9
      refine Tk 0 75 ?_
      refine Tk 1 76 ?_
      refine Tn 2 77 ?_
      refine Tn 3 78 ?_
      refine Tn 4 79 ?_
      refine Tn 5 80 ?_
      refine Tn 6 81 ?_
      refine Tn 7 82 ?_
      refine Tn 8 83 ?_
      refine Tn 9 84 ?_
      refine Tn 10 85 ?_
      refine Tn 11 86 ?_
      refine Tk 12 87 ?_
      refine wpAnyH_done (by kernel_rfl) ?_ _
      clear hHeld
      have x0 := HEL.out.c0
      have x1 := HEL.out.c1
      have x2 := HEL.out.c2
      have x3 := HEL.out.c3
      have x4 := HEL.out.c4
      have HBX : Hid (w3.heap.size ≤ v7.heap.size) := HBW.out.size
      obtain ⟨A6, c6, w6, r6, h6, h7, ap6, ap7, hb6⟩ := Row2.push (e := ⟨ea, en, et, ev⟩) (s := ⟨Ap, np, cp⟩) HRW.out (Row2.nil v7 w3.heap.size) (nil_apart _) HBX.out HPL.out HPX.out (by omega)
      dsimp only at r6
      have Hrun := Lib.hid r6
      have H6 := Lib.hid h6
      have HB6 : Hid (Below w3.heap.size w3 w6) := HBW.out.trans hb6
      clear r6 h6 h7 ap6 ap7 hb6
      go_wp2_with (at_builtin; refine Lib.wpList_append_run _ rfl _ _ _ _ rfl _ _ rfl rfl _ _ Hrun.out ?_)
      go_roundw
      case rel => exact ⟨k + 1, A6, no + 1, c6, _, by omega, rfl, by go_num, by omega, by rw [HOUT.out]; exact H6.out, HB6.out⟩
      case measure => simp [intOf]; omega
  ·obtain rfl : k = m1 := by omega
   obtain ⟨wo, hwo⟩ : ∃ W, W = wr := ⟨_, rfl⟩
   subst hwo
   go_wp2_with fail
   go_loopw [7, 98] (fun s i wr => ∃ (j : Nat) (Ao : Option Addr) (no co : Nat) (lro : List (SV × E)), j ≤ m2 ∧ s = .slice Ao no co ∧ i = .int .i64 j ∧ no ≤ k + j ∧ Hid (Row2 wr w3.heap.size Ao no co (outL cs ds (leaves t) (leaves u) k j) lro) ∧ Hid (Below w3.heap.size w3 wr)) (fun _ i _ => m2 - (intOf i).toNat)
   case atStart => exact ⟨0, Ao, no, co, lro, by omega, rfl, rfl, by omega, HRW.out, HBW.out⟩
   case round =>
    clear HRW HBW
    obtain ⟨k2, Ao, no, co, lro, hk2, rfl, rfl, hno2, HRW, HBW⟩ := hrel
    by_cases hlt : k2 < m2
    ·have hkl : k2 < (leaves u).length := by rw [HM2.out]; exact hlt
     have HBS : Hid (w3.heap.size ≤ wr.heap.size) := HBW.out.size
     obtain ⟨b, o, rfl, hb, hc⟩ := LfRd.at_ HL2.out (by omega)
     obtain ⟨⟨Ap, np, cp⟩, x0, x1, x2, x3, x4, hpl, hpx⟩ := hc k2 hkl
     dsimp only at x0 hpl hpx
     have x0 := (HBW.out.cell (p := ⟨b, o + k2 * 5, none⟩) hb).trans x0
     have x1 := (HBW.out.cell (p := ⟨b, o + k2 * 5 + 1, none⟩) hb).trans x1
     have x2 := (HBW.out.cell (p := ⟨b, o + k2 * 5 + 2, none⟩) hb).trans x2
     have x3 := (HBW.out.cell (p := ⟨b, o + k2 * 5 + 3, none⟩) hb).trans x3
     have x4 := (HBW.out.cell (p := ⟨b, o + k2 * 5 + 4, none⟩) hb).trans x4
     obtain ⟨lf, hlf⟩ : ∃ z, z = (leaves u)[k2] := ⟨_, rfl⟩
     rw [← hlf] at x1 x2 x3 x4 hpl hpx
     obtain ⟨pa, ea, en, et, ev⟩ := lf
     dsimp only at x1 x2 x3 x4 hpl hpx
     have HLF := Lib.hid hlf
     have HPL := Lib.hid hpl
     have HPX : Hid (RX wr (fun b => b < w3.heap.size) 1 Ap np cp (strs pa)) := hpx.keep HBW.out.size (fun b hlt _ => HBW.out.block b hlt)
     have HEL : Hid (Kept [(⟨b, o + k2 * 5, none⟩, .slice Ap np cp), (⟨b, o + k2 * 5 + 1, none⟩, .int .i64 ea), (⟨b, o + k2 * 5 + 2, none⟩, .int .i64 en), (⟨b, o + k2 * 5 + 3, none⟩, .string et), (⟨b, o + k2 * 5 + 4, none⟩, .int .i64 ev)] w3 wr) := (((((Kept.nil_of HBW.out).cons_of x4).cons_of x3).cons_of x2).cons_of x1).cons_of x0
     have hp5 : pa.length ≤ 5 := by
      have h1 := path_le (HK2.out.tree) _ (List.getElem_mem hkl)
      rw [← hlf] at h1
      exact h1
     clear hc hlf hpl hpx
     have HFI := Lib.hid (find_any (leaves t) A1 k c1 w3.heap.size pa Ap np cp ea en ev et wr HBS.out (by omega) (fun x hx => Nat.le_trans (path_le (HK1.out.tree) x hx) (by omega)) (HL1.out.below (Nat.le_refl _) HBW.out) HPL.out (by rw [← HPL.out]; omega) (HPX.out.mono (fun b hb _ => hb)).rd)
     clear hp5
     go_wp2_with fail
     refine HFI.out.mono ?_
     rintro e v4 ⟨hb9, hcase⟩
     have HRW := Lib.hid (HRW.out.later HBS.out hb9)
     have HPX := Lib.hid (HPX.out.later hb9)
     have HEL := Lib.hid (HEL.out.later hb9)
     have HBW := Lib.hid (HBW.out.trans (hb9.mono HBS.out))
     have HB4 : Hid (w3.heap.size ≤ v4.heap.size) := HBW.out.size
     clear hb9 HFI x0 x1 x2 x3 x4
     rcases hcase with hcase | hcase
     ·obtain ⟨hfn, rfl⟩ := hcase
      have HFN := Lib.hid hfn
      obtain ⟨zh, hzh⟩ : ∃ z, hasCB cs ea en = z := ⟨_, rfl⟩
      have HZH := Lib.hid hzh
      clear hfn hzh
      obtain ⟨gy, hgy⟩ : ∃ g, g = v4.heap.size := ⟨_, rfl⟩
      obtain ⟨v5, hv5⟩ : ∃ W, W = v4.alloc (.cells #[.slice none 0 0, .int .i64 0, .int .i64 0, .string ⟨#[]⟩, .int .i64 0] 70) := ⟨_, rfl⟩
      have hb9 : Below v4.heap.size v4 v5 := by rw [hv5]; exact Dt.box_below _ _ _
      have y0 : v5.cell? ⟨gy, 0, none⟩ = some (.slice none 0 0) := by rw [hv5, hgy]; go_simp
      have y1 : v5.cell? ⟨gy, 1, none⟩ = some (.int .i64 0) := by rw [hv5, hgy]; go_simp
      have y2 : v5.cell? ⟨gy, 2, none⟩ = some (.int .i64 0) := by rw [hv5, hgy]; go_simp
      have y3 : v5.cell? ⟨gy, 3, none⟩ = some (.string ⟨#[]⟩) := by rw [hv5, hgy]; go_simp
      have y4 : v5.cell? ⟨gy, 4, none⟩ = some (.int .i64 0) := by rw [hv5, hgy]; go_simp
      have HYB : Hid (Kept [(⟨gy, 0, none⟩, .slice none 0 0), (⟨gy, 1, none⟩, .int .i64 0), (⟨gy, 2, none⟩, .int .i64 0), (⟨gy, 3, none⟩, .string ⟨#[]⟩), (⟨gy, 4, none⟩, .int .i64 0)] w3 v5) := (((((Kept.nil_of (HBW.out.trans (hb9.mono HB4.out))).cons_of y4).cons_of y3).cons_of y2).cons_of y1).cons_of y0
      have HRW := Lib.hid (HRW.out.later HB4.out hb9)
      have HPX := Lib.hid (HPX.out.later hb9)
      have HEL := Lib.hid (HEL.out.later hb9)
      have HBW := Lib.hid (HBW.out.trans (hb9.mono HB4.out))
      have HKv := Lib.hid (HKc.out.later HBW.out)
      have Hgy := Lib.hid hgy
      have Hv5 := Lib.hid hv5
      clear hb9 y0 y1 y2 y3 y4 hgy hv5
      go_wp2_with fail
      rw [← Hgy.out, ← Hv5.out]
      refine wp_region_held_drew (S := fun W => W.cell? ⟨pp, 0, none⟩ = some (.slice Ae ne ce) ∧ W.cell? ⟨pp, 1, none⟩ = some (.slice Ak nk ck) ∧ W.cell? ⟨pp, 2, none⟩ = some (.slice Ca na ca9) ∧ W.cell? ⟨pq, 0, none⟩ = some (.slice Be me de) ∧ W.cell? ⟨pq, 1, none⟩ = some (.slice Bk mk dk) ∧ W.cell? ⟨pq, 2, none⟩ = some (.slice Cb nb cb9) ∧ W.cell? ⟨b, o + k2 * 5, none⟩ = some (.slice Ap np cp) ∧ W.cell? ⟨b, o + k2 * 5 + 1, none⟩ = some (.int .i64 ea) ∧ W.cell? ⟨b, o + k2 * 5 + 2, none⟩ = some (.int .i64 en) ∧ W.cell? ⟨b, o + k2 * 5 + 3, none⟩ = some (.string et) ∧ W.cell? ⟨b, o + k2 * 5 + 4, none⟩ = some (.int .i64 ev)) (by kernel_rfl) (by have h9 := HKv.out.drew; have h8 := HEL.out.drew; exact ⟨h9.c0, h9.c1, h9.c2, h9.c3, h9.c4, h9.c5, h8.c0, h8.c1, h8.c2, h8.c3, h8.c4⟩) (fun hHeld => ?_)
      obtain ⟨v6, hv6⟩ : ∃ v, v = v5.drew := ⟨_, rfl⟩
      have hb9 : Below v5.heap.size v5 v6 := by rw [hv6]; exact (Below.refl _ _).drew
      have HB5 : Hid (w3.heap.size ≤ v5.heap.size) := HBW.out.size
      have HRW := Lib.hid (HRW.out.later HB5.out hb9)
      have HPX := Lib.hid (HPX.out.later hb9)
      have HEL := Lib.hid (HEL.out.later hb9)
      have HYB := Lib.hid (HYB.out.later hb9)
      have HBW := Lib.hid (HBW.out.trans (hb9.mono HB5.out))
      have HKv := Lib.hid (HKv.out.later hb9)
      rw [← hv6] at hHeld ⊢
      clear hv6 hb9
      refine Tk 0 110 ?_
      refine Tk 1 111 ?_
      refine Tk 2 112 ?_
      refine Tk 3 113 ?_
      refine Tk 4 114 ?_
      refine Tk 5 115 ?_
      refine Tk 6 116 ?_
      refine Tk 7 117 ?_
      refine Tk 8 118 ?_
      refine Tk 9 119 ?_
      refine Tk 10 120 ?_
      refine wpAnyH_ready (rs := [11]) (by kernel_rfl) (by simp) ?_
      refine AllReadyH.cons (o := ⟨some 121, _, _, _, _, _⟩) rfl (fun K hK => ?_) AllReadyH.nil
      go_simp
      (go_at_call 29; refine (refhasC_any cs na Ca ca9 ea en _ HA.out.2.1 (by omega) ((HA.out.2.2.2.below (HKv.out.below)).more HKv.out.below.size) (rightCB_true HK1.out.ctx) zh (HZH.out)).mono ?_)
      rintro e v8 ⟨rfl, hb9⟩
      have HB7 : Hid (w3.heap.size ≤ v6.heap.size) := HBW.out.size
      have HRW := Lib.hid (HRW.out.later HB7.out hb9)
      have HPX := Lib.hid (HPX.out.later hb9)
      have HEL := Lib.hid (HEL.out.later hb9)
      have HBW := Lib.hid (HBW.out.trans (hb9.mono HB7.out))
      have HKv := Lib.hid (HKv.out.later hb9)
      clear hb9
      refine hK.out _ _ ?_ (fun hHeld2 => ?_)
      ·exact ⟨HKv.out.c0, HKv.out.c1, HKv.out.c2, HKv.out.c3, HKv.out.c4, HKv.out.c5, HEL.out.c0, HEL.out.c1, HEL.out.c2, HEL.out.c3, HEL.out.c4⟩
      clear hK K hHeld
      have hHeld := hHeld2
      clear hHeld2
      try simp only [Act.put, List.setIfInBounds_toArray, List.set_cons_zero, List.set_cons_succ]
      refine Tk 12 122 ?_
      refine Tk 13 123 ?_
      refine wpAnyH_done (by kernel_rfl) ?_ _
      clear hHeld
      cases zh with
      | true =>
       have HOUT : Hid (outL cs ds (leaves t) (leaves u) k (k2 + 1) = outL cs ds (leaves t) (leaves u) k k2 ++ []) := by unfold Hid; rw [outL_second cs ds (leaves t) (leaves u) k hkl, ← HLF.out]; exact congrArg _ (stepB_gone HFN.out (by rw [← hasCB_of HK1.out.ctx]; exact HZH.out))
       have HOUT := Lib.hid (HOUT.out.trans (List.append_nil _))
       go_wp2_with fail
       go_roundw
       case rel => exact ⟨k2 + 1, Ao, no, co, lro, by omega, rfl, by go_num, by omega, by rw [HOUT.out]; exact HRW.out, HBW.out⟩
       case measure => simp [intOf]; omega
      | false =>
       have HOUT : Hid (outL cs ds (leaves t) (leaves u) k (k2 + 1) = outL cs ds (leaves t) (leaves u) k k2 ++ [(pa, (⟨ea, en, et, ev⟩ : E))]) := by unfold Hid; rw [outL_second cs ds (leaves t) (leaves u) k hkl, ← HLF.out]; exact congrArg _ (stepB_new HFN.out (by rw [← hasCB_of HK1.out.ctx]; exact HZH.out))
       have x0 := HEL.out.c0
       have x1 := HEL.out.c1
       have x2 := HEL.out.c2
       have x3 := HEL.out.c3
       have x4 := HEL.out.c4
       have HBX : Hid (w3.heap.size ≤ v8.heap.size) := HBW.out.size
       obtain ⟨A6, c6, w6, r6, h6, h7, ap6, ap7, hb6⟩ := Row2.push (e := ⟨ea, en, et, ev⟩) (s := ⟨Ap, np, cp⟩) HRW.out (Row2.nil v8 w3.heap.size) (nil_apart _) HBX.out HPL.out HPX.out (by omega)
       dsimp only at r6
       have Hrun := Lib.hid r6
       have H6 := Lib.hid h6
       have HB6 : Hid (Below w3.heap.size w3 w6) := HBW.out.trans hb6
       clear r6 h6 h7 ap6 ap7 hb6
       go_wp2_with (at_builtin; refine Lib.wpList_append_run _ rfl _ _ _ _ rfl _ _ rfl rfl _ _ Hrun.out ?_)
       go_roundw
       case rel => exact ⟨k2 + 1, A6, no + 1, c6, _, by omega, rfl, by go_num, by omega, by rw [HOUT.out]; exact H6.out, HB6.out⟩
       case measure => simp [intOf]; omega
     ·obtain ⟨⟨py, ya, yn, yt, yv⟩, ⟨Ay, ny, cy⟩, hfs, rfl, _, _⟩ := hcase
      have HFS := Lib.hid hfs
      clear hfs
      obtain ⟨gy, hgy⟩ : ∃ g, g = v4.heap.size := ⟨_, rfl⟩
      obtain ⟨v5, hv5⟩ : ∃ W, W = v4.alloc (.cells #[.slice Ay ny cy, .int .i64 ya, .int .i64 yn, .string yt, .int .i64 yv] 70) := ⟨_, rfl⟩
      have hb9 : Below v4.heap.size v4 v5 := by rw [hv5]; exact Dt.box_below _ _ _
      have y0 : v5.cell? ⟨gy, 0, none⟩ = some (.slice Ay ny cy) := by rw [hv5, hgy]; go_simp
      have y1 : v5.cell? ⟨gy, 1, none⟩ = some (.int .i64 ya) := by rw [hv5, hgy]; go_simp
      have y2 : v5.cell? ⟨gy, 2, none⟩ = some (.int .i64 yn) := by rw [hv5, hgy]; go_simp
      have y3 : v5.cell? ⟨gy, 3, none⟩ = some (.string yt) := by rw [hv5, hgy]; go_simp
      have y4 : v5.cell? ⟨gy, 4, none⟩ = some (.int .i64 yv) := by rw [hv5, hgy]; go_simp
      have HYB : Hid (Kept [(⟨gy, 0, none⟩, .slice Ay ny cy), (⟨gy, 1, none⟩, .int .i64 ya), (⟨gy, 2, none⟩, .int .i64 yn), (⟨gy, 3, none⟩, .string yt), (⟨gy, 4, none⟩, .int .i64 yv)] w3 v5) := (((((Kept.nil_of (HBW.out.trans (hb9.mono HB4.out))).cons_of y4).cons_of y3).cons_of y2).cons_of y1).cons_of y0
      have HRW := Lib.hid (HRW.out.later HB4.out hb9)
      have HPX := Lib.hid (HPX.out.later hb9)
      have HEL := Lib.hid (HEL.out.later hb9)
      have HBW := Lib.hid (HBW.out.trans (hb9.mono HB4.out))
      have HKv := Lib.hid (HKc.out.later HBW.out)
      have Hgy := Lib.hid hgy
      have Hv5 := Lib.hid hv5
      clear hb9 y0 y1 y2 y3 y4 hgy hv5
      go_wp2_with fail
      rw [← Hgy.out, ← Hv5.out]
      refine wp_region_held_drew (S := fun W => W.cell? ⟨pp, 0, none⟩ = some (.slice Ae ne ce) ∧ W.cell? ⟨pp, 1, none⟩ = some (.slice Ak nk ck) ∧ W.cell? ⟨pp, 2, none⟩ = some (.slice Ca na ca9) ∧ W.cell? ⟨pq, 0, none⟩ = some (.slice Be me de) ∧ W.cell? ⟨pq, 1, none⟩ = some (.slice Bk mk dk) ∧ W.cell? ⟨pq, 2, none⟩ = some (.slice Cb nb cb9) ∧ W.cell? ⟨b, o + k2 * 5, none⟩ = some (.slice Ap np cp) ∧ W.cell? ⟨b, o + k2 * 5 + 1, none⟩ = some (.int .i64 ea) ∧ W.cell? ⟨b, o + k2 * 5 + 2, none⟩ = some (.int .i64 en) ∧ W.cell? ⟨b, o + k2 * 5 + 3, none⟩ = some (.string et) ∧ W.cell? ⟨b, o + k2 * 5 + 4, none⟩ = some (.int .i64 ev)) (by kernel_rfl) (by have h9 := HKv.out.drew; have h8 := HEL.out.drew; exact ⟨h9.c0, h9.c1, h9.c2, h9.c3, h9.c4, h9.c5, h8.c0, h8.c1, h8.c2, h8.c3, h8.c4⟩) (fun hHeld => ?_)
      obtain ⟨v6, hv6⟩ : ∃ v, v = v5.drew := ⟨_, rfl⟩
      have hb9 : Below v5.heap.size v5 v6 := by rw [hv6]; exact (Below.refl _ _).drew
      have HB5 : Hid (w3.heap.size ≤ v5.heap.size) := HBW.out.size
      have HRW := Lib.hid (HRW.out.later HB5.out hb9)
      have HPX := Lib.hid (HPX.out.later hb9)
      have HEL := Lib.hid (HEL.out.later hb9)
      have HYB := Lib.hid (HYB.out.later hb9)
      have HBW := Lib.hid (HBW.out.trans (hb9.mono HB5.out))
      have HKv := Lib.hid (HKv.out.later hb9)
      rw [← hv6] at hHeld ⊢
      clear hv6 hb9
      refine Tk 0 110 ?_
      refine Tk 1 111 ?_
      refine Tk 2 112 ?_
      refine Tn 3 113 ?_
      refine Tn 4 114 ?_
      refine Tn 5 115 ?_
      refine Tn 6 116 ?_
      refine Tn 7 117 ?_
      refine Tn 8 118 ?_
      refine Tn 9 119 ?_
      refine Tn 10 120 ?_
      refine Tn 11 121 ?_
      refine Tn 12 122 ?_
      refine Tk 13 123 ?_
      refine wpAnyH_done (by kernel_rfl) ?_ _
      clear hHeld
      have HOUT : Hid (outL cs ds (leaves t) (leaves u) k (k2 + 1) = outL cs ds (leaves t) (leaves u) k k2 ++ []) := by unfold Hid; rw [outL_second cs ds (leaves t) (leaves u) k hkl, ← HLF.out]; exact congrArg _ (stepB_both HFS.out)
      have HOUT := Lib.hid (HOUT.out.trans (List.append_nil _))
      go_wp2_with fail
      go_roundw
      case rel => exact ⟨k2 + 1, Ao, no, co, lro, by omega, rfl, by go_num, by omega, by rw [HOUT.out]; exact HRW.out, HBW.out⟩
      case measure => simp [intOf]; omega
    ·obtain rfl : k2 = m2 := by omega
     have HBS := HBW
     have HBS : Hid (w3.heap.size ≤ wr.heap.size) := HBW.out.size
     have hb9 := HBW.out
     have hKc := HKc.out.later hb9
     have hKR := HKR.out.later hb9
     have hFR := HFR.out.later hb9
     have HKc := Lib.hid hKc
     have HKR := Lib.hid hKR
     have HFR := Lib.hid hFR
     clear hb9 hKc hKR hFR
     have HJT : Hid (RightT 5 (joinT 5 cs ds t u) ∧ ∀ x, x ∈ outL cs ds (leaves t) (leaves u) k k2 ↔ x ∈ leaves (joinT 5 cs ds t u)) := ⟨right_join 5 _ _ _ _ HK1.out.tree HK2.out.tree, fun x => by
      have h1 := outL_mem (ca := cs) (cb := ds) HK1.out.tree HK2.out.tree x
      rwa [HM1.out, HM2.out] at h1⟩
     have HJN : Hid (nodes (joinT 5 cs ds t u) ≤ 100000) := by
      have h1 := joinT_nodes 5 cs ds t u
      have h2 := HA.out.1
      have h3 := HB.out.1
      unfold Hid
      omega
     go_wp2_with fail
     refine wp_region_held_drew (S := fun W => W.cell? ⟨pp, 0, none⟩ = some (.slice Ae ne ce) ∧ W.cell? ⟨pp, 1, none⟩ = some (.slice Ak nk ck) ∧ W.cell? ⟨pp, 2, none⟩ = some (.slice Ca na ca9) ∧ W.cell? ⟨pq, 0, none⟩ = some (.slice Be me de) ∧ W.cell? ⟨pq, 1, none⟩ = some (.slice Bk mk dk) ∧ W.cell? ⟨pq, 2, none⟩ = some (.slice Cb nb cb9)) (by kernel_rfl) (by have h9 := HKc.out.drew; exact ⟨h9.c0, h9.c1, h9.c2, h9.c3, h9.c4, h9.c5⟩) (fun hHeld => ?_)
     obtain ⟨v3, hv3⟩ : ∃ v, v = wr.drew := ⟨_, rfl⟩
     have hb9 : Below wr.heap.size wr v3 := by rw [hv3]; exact (Below.refl _ _).drew
     have HRW := Lib.hid (HRW.out.later HBS.out hb9)
     have HBW := Lib.hid (HBW.out.trans (hb9.mono HBS.out))
     have HBS : Hid (w3.heap.size ≤ v3.heap.size) := HBW.out.size
     have HKc := Lib.hid (HKc.out.later hb9)
     have HKR := Lib.hid (HKR.out.later hb9)
     have HFR := Lib.hid (HFR.out.later hb9)
     rw [← hv3] at hHeld ⊢
     clear hv3 hb9
     refine Tk 0 132 ?_
     refine Tk 2 134 ?_
     refine Tk 3 135 ?_
     refine Tk 4 136 ?_
     refine Tk 5 137 ?_
     refine wpAnyH_ready (rs := [1]) (by kernel_rfl) (by simp) ?_
     refine AllReadyH.cons (o := ⟨some 133, _, _, _, _, _⟩) rfl (fun K hK => ?_) AllReadyH.nil
     go_simp
     (go_at_call 45; refine (build_of 5 (joinT 5 cs ds t u) HJT.out.1 _ HJT.out.2 Ao no co v3 (by omega) HJN.out (HRW.out.rd HBS.out)).mono ?_)
     rintro e v4 ⟨Re, rn, rc, Rk, rm, rd, rfl, hro, hb9⟩
     obtain ⟨B1, hB1⟩ : ∃ z, z = v3.heap.size := ⟨_, rfl⟩
     have hrB : pr < B1 := by rw [hB1]; exact HFR.out.1
     have HWB1 : w.heap.size ≤ B1 := by rw [hB1]; exact HKR.out.below.size
     have HRO : Hid (RdO v4 (fun b => B1 ≤ b) (joinT 5 cs ds t u) ⟨Re, rn, rc⟩ ⟨Rk, rm, rd⟩) := by unfold Hid; rw [hB1]; exact hro
     have hB4 : B1 ≤ v4.heap.size := by rw [hB1]; exact hb9.size
     have HKc := Lib.hid (HKc.out.later hb9)
     have HKR := Lib.hid (HKR.out.later hb9)
     have HFR := Lib.hid (HFR.out.later hb9)
     clear hro hb9 hB1
     refine hK.out _ _ ?_ (fun hHeld2 => ?_)
     ·exact ⟨HKc.out.c0, HKc.out.c1, HKc.out.c2, HKc.out.c3, HKc.out.c4, HKc.out.c5⟩
     clear hK K hHeld
     have hHeld := hHeld2
     clear hHeld2
     try simp only [Act.put, List.setIfInBounds_toArray, List.set_cons_zero, List.set_cons_succ]
     refine wpAnyH_ready (rs := [6]) (by kernel_rfl) (by simp) ?_
     refine AllReadyH.cons (o := ⟨some 138, _, _, _, _, _⟩) rfl (fun K hK => ?_) AllReadyH.nil
     go_simp
     (go_at_call 46; refine (refunionC_own cs ds xs na nb q Ca Cb ca9 cb9 v4 HA.out.2.1 HB.out.2.1 HXS.out.2 (by omega) (by omega) ((HA.out.2.2.2.below HKc.out.below).more HKc.out.below.size) ((HB.out.2.2.2.below HKc.out.below).more HKc.out.below.size) HK1.out.ctx HK2.out.ctx HXS.out.1 (by omega)).mono ?_)
     rintro e v5 ⟨Rc, re, rfl, hxo, hb9⟩
     have HXR : Hid (RO v5 (fun b => B1 ≤ b) 3 Rc q re (spsC xs)) := (RO.of_own hxo).mono fun b hb _ => Nat.le_trans hB4 hb.1
     have HRO := Lib.hid (RdO.later HRO.out hb9)
     have HKc := Lib.hid (HKc.out.later hb9)
     have HKR := Lib.hid (HKR.out.later hb9)
     have HFR := Lib.hid (HFR.out.later hb9)
     clear hb9 hxo
     have z0 := HKR.out.c0
     have z1 := HKR.out.c1
     have z2 := HKR.out.c2
     have m0 := HFR.out.2 0
     have k' := HFR.out.2 1
     have m2' := HFR.out.2 2
     refine hK.out _ _ ?_ (fun hHeld2 => ?_)
     ·exact ⟨HKc.out.c0, HKc.out.c1, HKc.out.c2, HKc.out.c3, HKc.out.c4, HKc.out.c5⟩
     clear hK K hHeld
     have hHeld := hHeld2
     clear hHeld2
     try simp only [Act.put, List.setIfInBounds_toArray, List.set_cons_zero, List.set_cons_succ]
     refine Tk 7 139 ?_
     refine wpAnyH_ready (rs := [8]) (by kernel_rfl) (by simp) ?_
     refine AllReadyH.cons (o := ⟨none, _, _, _, _, _⟩) rfl (fun K hK => ?_) AllReadyH.nil
     go_simp
     refine hK.out _ _ ?_ (fun hHeld2 => ?_)
     ·(try dsimp only)
      have h9 := HKc.out.past3 (p := pr) hwr (fun x hx => by simp at hx; rcases hx with rfl | rfl | rfl | rfl | rfl | rfl <;> (dsimp only; omega)) (.slice Re rn rc) (.slice Rk rm rd) (.slice Rc q re)
      exact ⟨h9.c0, h9.c1, h9.c2, h9.c3, h9.c4, h9.c5⟩
     clear hK K hHeld
     have hHeld := hHeld2
     clear hHeld2
     try simp only [Act.put, List.setIfInBounds_toArray, List.set_cons_zero, List.set_cons_succ]
     refine wpAnyH_done (by kernel_rfl) ?_ _
     clear hHeld
     obtain ⟨W9, hW9⟩ : ∃ W, W = ((v5.setCell ⟨pr, 0, none⟩ (.slice Re rn rc)).setCell ⟨pr, 1, none⟩ (.slice Rk rm rd)).setCell ⟨pr, 2, none⟩ (.slice Rc q re) := ⟨_, rfl⟩
     have HB9 : Hid (Below w.heap.size w W9) := by
      unfold Hid
      rw [hW9]
      exact ((HKc.out.below.setCell (p := ⟨pr, 0, none⟩) hwr _).setCell (p := ⟨pr, 1, none⟩) hwr _).setCell (p := ⟨pr, 2, none⟩) hwr _
     have HOW9 : Hid (OwC W9 B1 (joinT 5 cs ds t u, xs) Re rn rc Rk rm rd Rc q re) := by
      unfold Hid
      rw [hW9]
      exact OwC.set3 ⟨HRO.out, HXS.out.2, HXR.out⟩ hrB _ _ _
     have l0 : W9.cell? ⟨pr, 0, none⟩ = some (.slice Re rn rc) := by rw [hW9]; go_simp
     have l1 : W9.cell? ⟨pr, 1, none⟩ = some (.slice Rk rm rd) := by rw [hW9]; go_simp
     have l2 : W9.cell? ⟨pr, 2, none⟩ = some (.slice Rc q re) := by rw [hW9]; go_simp
     clear z0 z1 z2 m0 k' m2'
     rw [← hW9]
     clear hW9
     go_wp2_with fail
     refine bodyPost_ret (v := .agg #[.slice Re rn rc, .slice Rk rm rd, .slice Rc q re]) (by simp [results, Tryz.results20, go_sem, l0, l1, l2]) rfl ⟨Re, rn, rc, Rk, rm, rd, Rc, q, re, rfl, HOW9.out.mono HWB1, HB9.out⟩
end Cs
end Go.Proofs.YtcbclefemcmhpaaGreat
