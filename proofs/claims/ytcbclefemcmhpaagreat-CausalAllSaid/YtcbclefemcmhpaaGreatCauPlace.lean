/- Leaves of one dot, at one place: the document's place and find. -/
import Derived.Test.YtcbclefemcmhpaaGreatG00
import Derived.Test.YtcbclefemcmhpaaGreatG10
namespace Go.Proofs.YtcbclefemcmhpaaGreat
open Go.ChangeShapes Go.WideShapes Go.ChangeAt Go.RowKit
namespace Cs
open Tr Cx Sp Rw Classical
theorem boxP2 (w : World) (A B : Option Addr) (n c m d : Nat) (a1 n1 a2 n2 v1 v2 : Int) (s1 s2 : ByteArray) : ∃ (W : World) (g q : Nat), Hid (W = (w.alloc (.cells #[.slice A n c, .int .i64 a1, .int .i64 n1, .string s1, .int .i64 v1] 70)).alloc (.cells #[.slice B m d, .int .i64 a2, .int .i64 n2, .string s2, .int .i64 v2] 70)) ∧ Hid (g = w.heap.size) ∧ Hid (q = g + 1) ∧ Hid (Kept [(⟨g, 0, none⟩, .slice A n c), (⟨g, 1, none⟩, .int .i64 a1), (⟨g, 2, none⟩, .int .i64 n1), (⟨q, 0, none⟩, .slice B m d), (⟨q, 1, none⟩, .int .i64 a2), (⟨q, 2, none⟩, .int .i64 n2)] w W) := by
 refine ⟨_, _, _, rfl, rfl, rfl, ?_⟩
 have h0 := Kept.nil_of (Dt.box2_below w #[.slice A n c, .int .i64 a1, .int .i64 n1, .string s1, .int .i64 v1] #[.slice B m d, .int .i64 a2, .int .i64 n2, .string s2, .int .i64 v2] 70 70)
 refine (((((h0.cons_of ?_).cons_of ?_).cons_of ?_).cons_of ?_).cons_of ?_).cons_of ?_ <;> go_simp
set_option maxRecDepth 100000 in
set_option maxHeartbeats 4000000 in
theorem place_any (A B : Option Addr) (n c m d : Nat) (a1 n1 a2 n2 v1 v2 : Int) (s1 s2 : ByteArray) (p u : List ByteArray) (w : World) (z : Bool) (hz : placeB (p, ⟨a1, n1, s1, v1⟩) (u, ⟨a2, n2, s2, v2⟩) = z) (hp : p.length = n) (hu : u.length = m) (hn : n ≤ 100000) (hrp : Rd w w.heap.size 1 A n c (strs p)) (hru : Rd w w.heap.size 1 B m d (strs u)) :
  Calls Tryz.prog 72 #[.agg #[.slice A n c, .int .i64 a1, .int .i64 n1, .string s1, .int .i64 v1], .agg #[.slice B m d, .int .i64 a2, .int .i64 n2, .string s2, .int .i64 v2]] w fun e w' => e = .returned (.bool z) ∧ Below w.heap.size w w' := by
 obtain ⟨W, g, q, HW, HG, HQ, HK⟩ := boxP2 w A B n c m d a1 n1 a2 n2 v1 v2 s1 s2
 have hb := HK.out.below
 have HR1 := Lib.hid ((hrp.below hb).more hb.size)
 have HR2 := Lib.hid ((hru.below hb).more hb.size)
 have HZ := Lib.hid hz
 have HP := Lib.hid hp
 have HU := Lib.hid hu
 clear hb hrp hru hz hp hu
 have hno : ¬ (p = u ∧ (a1, n1) = (a2, n2)) → false = z := fun h => by rw [← HZ.out]; exact (placeB_false (show ¬ placeP (p, (⟨a1, n1, s1, v1⟩ : E)) (u, (⟨a2, n2, s2, v2⟩ : E)) from h)).symm
 have HNO := Lib.hid hno
 clear hno
 go_enter Tryz.func72, Tryz.ntmps72
 by_cases ha : a1 = a2
 ·by_cases hnn : n1 = n2
  ·by_cases hl : n = m
   ·subst ha
    subst hnn
    subst hl
    go_wp2_with fail
    rw [← HW.out, ← HG.out]
    try rw [← HQ.out]
    go_loopw [25] (fun i wr => ∃ (k : Nat), k ≤ n ∧ i = .int .i64 k ∧ Hid (∀ (j : Nat) (h : j < p.length) (h2 : j < u.length), j < k → p[j] = u[j]) ∧ Hid (Kept [(⟨g, 0, none⟩, .slice A n c), (⟨g, 1, none⟩, .int .i64 a1), (⟨g, 2, none⟩, .int .i64 n1), (⟨q, 0, none⟩, .slice B n d), (⟨q, 1, none⟩, .int .i64 a1), (⟨q, 2, none⟩, .int .i64 n1)] w wr ∧ Below W.heap.size W wr)) (fun i _ => n - (intOf i).toNat)
    case atStart => exact ⟨0, by omega, rfl, fun j _ _ h => absurd h (by omega), HK.out, Below.refl _ _⟩
    case round =>
     obtain ⟨k, hk, rfl, HEQ, HKB⟩ := hrel
     have HKW := Lib.hid HKB.out.1
     have HBW := Lib.hid HKB.out.2
     by_cases hlt : k < n
     ·have hkl : k < p.length := by rw [HP.out]; exact hlt
      have hkl2 : k < u.length := by rw [HU.out]; exact hlt
      obtain ⟨b, o, rfl, hb, hc⟩ := HR1.out.at_ (by omega)
      obtain ⟨b2, o2, rfl, hb2, hc2⟩ := HR2.out.at_ (by omega)
      obtain ⟨x, hx⟩ : ∃ x, x = p[k] := ⟨_, rfl⟩
      obtain ⟨y, hy⟩ : ∃ y, y = u[k] := ⟨_, rfl⟩
      have x0 := (HBW.out.cell (p := ⟨b, o + k, none⟩) hb).trans (hc k (.string x) (by rw [hx]; simp [Tr.strs, hkl]))
      have y0 := (HBW.out.cell (p := ⟨b2, o2 + k, none⟩) hb2).trans (hc2 k (.string y) (by rw [hy]; simp [Tr.strs, hkl2]))
      have HX := Lib.hid hx
      have HY := Lib.hid hy
      clear hc hc2 hx hy
      by_cases hxy : x = y
      ·subst hxy
       have HEQ2 : Hid (∀ (j : Nat) (h : j < p.length) (h2 : j < u.length), j < k + 1 → p[j] = u[j]) := fun j h h2 hj => by
        by_cases e : j < k
        ·exact HEQ.out j h h2 e
        ·obtain rfl : j = k := by omega
         rw [← HX.out, ← HY.out]
       have HKD : Hid (Kept _ w wr.drew ∧ Below W.heap.size W wr.drew) := ⟨HKW.out.drew, HBW.out.drew⟩
       go_wp2_with fail
       refine wp_region_held_drew (S := fun W => W.cell? ⟨g, 0, none⟩ = some (.slice (some ⟨b, o, none⟩) n c) ∧ W.cell? ⟨b, o + k, none⟩ = some (.string x) ∧ W.cell? ⟨q, 0, none⟩ = some (.slice (some ⟨b2, o2, none⟩) n d) ∧ W.cell? ⟨b2, o2 + k, none⟩ = some (.string x)) (by kernel_rfl) (by exact ⟨HKW.out.c0, x0, HKW.out.c3, y0⟩) (fun hHeld => ?_)
       refine Tk 0 28 ?_
       refine Tk 1 29 ?_
       refine Tk 2 30 ?_
       refine Tk 3 31 ?_
       refine Tk 4 32 ?_
       refine Tk 5 33 ?_
       refine Tk 6 34 ?_
       refine Tk 7 35 ?_
       refine Tk 8 36 ?_
       refine Tk 9 37 ?_
       refine Tk 10 38 ?_
       refine wpAnyH_done (by kernel_rfl) ?_ _
       clear hHeld
       go_wp2_with fail
       go_roundw
       case rel => exact ⟨k + 1, by omega, by go_num, HEQ2.out, HKD.out⟩
       case measure => simp [intOf]; omega
      ·have f4 : (x.toList == y.toList) = false := bytes_ne hxy
       have HZF := Lib.hid (HNO.out fun h => hxy (by
        have h1 := h.1
        subst h1
        rw [HX.out, HY.out]))
       clear hxy
       go_wp2_with fail
       refine wp_region_held_drew (S := fun W => W.cell? ⟨g, 0, none⟩ = some (.slice (some ⟨b, o, none⟩) n c) ∧ W.cell? ⟨b, o + k, none⟩ = some (.string x) ∧ W.cell? ⟨q, 0, none⟩ = some (.slice (some ⟨b2, o2, none⟩) n d) ∧ W.cell? ⟨b2, o2 + k, none⟩ = some (.string y)) (by kernel_rfl) (by exact ⟨HKW.out.c0, x0, HKW.out.c3, y0⟩) (fun hHeld => ?_)
       refine Tk 0 28 ?_
       refine Tk 1 29 ?_
       refine Tk 2 30 ?_
       refine Tk 3 31 ?_
       refine Tk 4 32 ?_
       refine Tk 5 33 ?_
       refine Tk 6 34 ?_
       refine Tk 7 35 ?_
       refine Tk 8 36 ?_
       refine Tk 9 37 ?_
       refine Tk 10 38 ?_
       refine wpAnyH_done (by kernel_rfl) ?_ _
       clear hHeld
       obtain rfl : false = z := HZF.out
       go_wp2_with fail
       go_ret
       exact ⟨rfl, HKW.out.below.drew⟩
     ·obtain rfl : k = n := by omega
      have hpu : p = u := List.ext_getElem (by rw [HP.out, HU.out]) fun j h h2 => HEQ.out j h h2 (by rw [← HP.out]; exact h)
      obtain rfl : true = z := by rw [← HZ.out]; exact (placeB_true (show placeP (p, (⟨a1, n1, s1, v1⟩ : E)) (u, (⟨a1, n1, s2, v2⟩ : E)) from ⟨hpu, rfl⟩)).symm
      clear hpu
      go_wp2_with fail
      go_ret
      exact ⟨rfl, HKW.out.below⟩
   ·have f3 : ((n : Int) == (m : Int)) = false := by rw [beq_eq_false_iff_ne]; omega
    have f1 : (a1 == a2) = true := by rw [beq_iff_eq]; exact ha
    have f2 : (n1 == n2) = true := by rw [beq_iff_eq]; exact hnn
    have hzf := HNO.out fun h => hl (by rw [← HP.out, ← HU.out, h.1])
    clear ha hnn
    subst hzf
    go_wp2_with fail
    try rw [← HW.out]
    go_ret
    exact ⟨rfl, HK.out.below⟩
  ·have f1 : (a1 == a2) = true := by rw [beq_iff_eq]; exact ha
   have f2 : (n1 == n2) = false := by rw [beq_eq_false_iff_ne]; exact hnn
   have hzf := HNO.out fun h => hnn (congrArg Prod.snd h.2)
   clear ha
   subst hzf
   go_wp2_with fail
   try rw [← HW.out]
   go_ret
   exact ⟨rfl, HK.out.below⟩
 ·have f1 : (a1 == a2) = false := by rw [beq_eq_false_iff_ne]; exact ha
  have hzf := HNO.out fun h => ha (congrArg Prod.fst h.2)
  subst hzf
  go_wp2_with fail
  try rw [← HW.out]
  go_ret
  exact ⟨rfl, HK.out.below⟩
theorem boxF2 (w : World) (Ap : Option Addr) (np cp : Nat) (ea en ev : Int) (et : ByteArray) : ∃ (W : World) (g r : Nat), Hid (W = (w.alloc (.cells #[.slice Ap np cp, .int .i64 ea, .int .i64 en, .string et, .int .i64 ev] 70)).alloc (.cells #[.slice none 0 0, .int .i64 0, .int .i64 0, .string ⟨#[]⟩, .int .i64 0] 70)) ∧ Hid (g = w.heap.size) ∧ Hid (r = g + 1) ∧ Hid (Kept [(⟨g, 0, none⟩, .slice Ap np cp), (⟨g, 1, none⟩, .int .i64 ea), (⟨g, 2, none⟩, .int .i64 en), (⟨g, 3, none⟩, .string et), (⟨g, 4, none⟩, .int .i64 ev)] w W) ∧ Hid (Kept [(⟨r, 0, none⟩, .slice none 0 0), (⟨r, 1, none⟩, .int .i64 0), (⟨r, 2, none⟩, .int .i64 0), (⟨r, 3, none⟩, .string ⟨#[]⟩), (⟨r, 4, none⟩, .int .i64 0)] w W) ∧ Hid (Free r W) := by
 refine ⟨_, _, _, rfl, rfl, rfl, ?_, ?_, ⟨by simp, fun j => by go_simp⟩⟩
 ·have h0 := Kept.nil_of (Dt.box2_below w #[.slice Ap np cp, .int .i64 ea, .int .i64 en, .string et, .int .i64 ev] #[.slice none 0 0, .int .i64 0, .int .i64 0, .string ⟨#[]⟩, .int .i64 0] 70 70)
  refine ((((h0.cons_of ?_).cons_of ?_).cons_of ?_).cons_of ?_).cons_of ?_ <;> go_simp
 ·have h0 := Kept.nil_of (Dt.box2_below w #[.slice Ap np cp, .int .i64 ea, .int .i64 en, .string et, .int .i64 ev] #[.slice none 0 0, .int .i64 0, .int .i64 0, .string ⟨#[]⟩, .int .i64 0] 70 70)
  refine ((((h0.cons_of ?_).cons_of ?_).cons_of ?_).cons_of ?_).cons_of ?_ <;> go_simp
/-- what find answers -/
def FindIs (B : Nat) (r : Option Lf) (w : World) (e : Ending) (w' : World) : Prop := Below w.heap.size w w' ∧ ((r = none ∧ e = .returned (.tuple #[.agg #[.slice none 0 0, .int .i64 0, .int .i64 0, .string ⟨#[]⟩, .int .i64 0], .bool false])) ∨ ∃ (y : Lf) (s : SV), r = some y ∧ e = .returned (.tuple #[.agg #[.slice s.A s.n s.c, .int .i64 y.2.a, .int .i64 y.2.n, .string y.2.s, .int .i64 y.2.v], .bool true]) ∧ y.1.length = s.n ∧ RX w' (fun b => b < B) 1 s.A s.n s.c (strs y.1))
theorem findL_take {l : List Lf} {x : Lf} {k : Nat} (h : k < l.length) (hno : ∀ (j : Nat) (h : j < l.length), j < k → placeB l[j] x = false) (hk : placeB l[k] x = true) : findL l x = some l[k] := by
 unfold findL
 rw [List.find?_eq_some_iff_append]
 refine ⟨hk, l.take k, l.drop (k + 1), ?_, fun y hy => ?_⟩
 ·rw [← List.drop_eq_getElem_cons h, List.take_append_drop]
 ·obtain ⟨j, hj, rfl⟩ := List.getElem_of_mem hy
  rw [List.length_take] at hj
  rw [List.getElem_take, hno j (by omega) (by omega)]
  rfl
set_option maxRecDepth 100000 in
set_option maxHeartbeats 4000000 in
theorem find_any (ls : List Lf) (A : Option Addr) (n c : Nat) (B : Nat) (pp : List ByteArray) (Ap : Option Addr) (np cp : Nat) (ea en ev : Int) (et : ByteArray) (w : World) (hBw : B ≤ w.heap.size) (hn : n ≤ 100000) (hm9 : ∀ x ∈ ls, x.1.length ≤ 100000) (h : LfRd w B A n c ls) (hp : pp.length = np) (_ : np ≤ 100000) (hrp : Rd w w.heap.size 1 Ap np cp (strs pp)) :
  Calls Tryz.prog 44 #[.slice A n c, .agg #[.slice Ap np cp, .int .i64 ea, .int .i64 en, .string et, .int .i64 ev]] w (FindIs B (findL ls (pp, ⟨ea, en, et, ev⟩)) w) := by
 obtain ⟨W, g, r, HW, HG, HRR, HKG, HKR, HFR⟩ := boxF2 w Ap np cp ea en ev et
 have hwr : w.heap.size ≤ r := by have := HG.out; have := HRR.out; omega
 have hBr : B ≤ r := Nat.le_trans hBw hwr
 have HL := Lib.hid (h.below hBw (HKG.out.below.mono hBw))
 have hB2 : B ≤ W.heap.size := Nat.le_trans hBw HKG.out.below.size
 have HRP := Lib.hid (((hrp.below HKG.out.below).more HKG.out.below.size))
 have HP := Lib.hid hp
 have HM9 := Lib.hid hm9
 clear h hp hrp hm9
 go_enter Tryz.func44, Tryz.ntmps44
 go_wp2_with fail
 rw [← HW.out, ← HG.out]
 try rw [← HRR.out]
 go_loopw [9] (fun i wr => ∃ (k : Nat), k ≤ n ∧ i = .int .i64 k ∧ Hid (∀ (j : Nat) (h : j < ls.length), j < k → placeB ls[j] (pp, ⟨ea, en, et, ev⟩) = false) ∧ Hid (Kept [(⟨g, 0, none⟩, .slice Ap np cp), (⟨g, 1, none⟩, .int .i64 ea), (⟨g, 2, none⟩, .int .i64 en), (⟨g, 3, none⟩, .string et), (⟨g, 4, none⟩, .int .i64 ev)] w wr) ∧ Hid (Kept [(⟨r, 0, none⟩, .slice none 0 0), (⟨r, 1, none⟩, .int .i64 0), (⟨r, 2, none⟩, .int .i64 0), (⟨r, 3, none⟩, .string ⟨#[]⟩), (⟨r, 4, none⟩, .int .i64 0)] w wr) ∧ Hid (Free r wr) ∧ Hid (Below W.heap.size W wr)) (fun i _ => n - (intOf i).toNat)
 case atStart => exact ⟨0, by omega, rfl, fun j _ h => absurd h (by omega), HKG.out, HKR.out, HFR.out, Below.refl _ _⟩
 case round =>
  clear HKG HKR HFR
  obtain ⟨k, hk, rfl, HNO, HKG, HKR, HFR, HBW⟩ := hrel
  by_cases hlt : k < n
  ·have hkl : k < ls.length := by rw [HL.out.1]; exact hlt
   obtain ⟨b, o, rfl, hb, hc⟩ := LfRd.at_ HL.out (by omega)
   obtain ⟨⟨Aq, nq, cq⟩, x0, x1, x2, x3, x4, hpl, hpx⟩ := hc k hkl
   dsimp only at x0 hpl hpx
   obtain ⟨lf, hlf⟩ : ∃ z, z = ls[k] := ⟨_, rfl⟩
   rw [← hlf] at x1 x2 x3 x4 hpl hpx
   obtain ⟨pq, qa, qn, qt, qv⟩ := lf
   dsimp only at x1 x2 x3 x4 hpl hpx
   have hbW : b < W.heap.size := Nat.lt_of_lt_of_le hb hB2
   have HE : Hid (Kept [(⟨b, o + k * 5, none⟩, .slice Aq nq cq), (⟨b, o + k * 5 + 1, none⟩, .int .i64 qa), (⟨b, o + k * 5 + 2, none⟩, .int .i64 qn), (⟨b, o + k * 5 + 3, none⟩, .string qt), (⟨b, o + k * 5 + 4, none⟩, .int .i64 qv)] W wr) := (((((Kept.nil_of HBW.out).cons_of ((HBW.out.cell (p := ⟨b, o + k * 5 + 4, none⟩) hbW).trans x4)).cons_of ((HBW.out.cell (p := ⟨b, o + k * 5 + 3, none⟩) hbW).trans x3)).cons_of ((HBW.out.cell (p := ⟨b, o + k * 5 + 2, none⟩) hbW).trans x2)).cons_of ((HBW.out.cell (p := ⟨b, o + k * 5 + 1, none⟩) hbW).trans x1)).cons_of ((HBW.out.cell (p := ⟨b, o + k * 5, none⟩) hbW).trans x0)
   have HLF := Lib.hid hlf
   have HPL := Lib.hid hpl
   have hbB : Below B W wr.drew := (HBW.out.mono hB2).drew
   have hpx2 := hpx.keep hbB.size (fun b hlt _ => hbB.block b hlt)
   have HPX : Hid (RX W (fun b => b < B) 1 Aq nq cq (Tr.strs pq)) := hpx
   obtain ⟨y, hy⟩ : ∃ y, placeB (pq, ⟨qa, qn, qt, qv⟩) (pp, ⟨ea, en, et, ev⟩) = y := ⟨_, rfl⟩
   have hrd9 := hpx2.rd
   have hbd : Below W.heap.size W wr.drew := HBW.out.drew
   have HPA := Lib.hid (place_any Aq Ap nq cq np cp qa qn ea en qv ev qt et pq pp wr.drew y hy HPL.out HP.out (by have h1 := HM9.out _ (List.getElem_mem hkl); rw [← HLF.out] at h1; rw [← HPL.out]; exact h1) hrd9 ((HRP.out.below hbd).more hbd.size))
   have HY := Lib.hid hy
   clear hc hlf hpl hpx hpx2 hy hrd9 hbd hbB x0 x1 x2 x3 x4
   go_wp2_with fail
   refine wp_region_held_drew (S := fun W => W.cell? ⟨g, 0, none⟩ = some (.slice Ap np cp) ∧ W.cell? ⟨g, 1, none⟩ = some (.int .i64 ea) ∧ W.cell? ⟨g, 2, none⟩ = some (.int .i64 en) ∧ W.cell? ⟨g, 3, none⟩ = some (.string et) ∧ W.cell? ⟨g, 4, none⟩ = some (.int .i64 ev) ∧ W.cell? ⟨b, o + k * 5, none⟩ = some (.slice Aq nq cq) ∧ W.cell? ⟨b, o + k * 5 + 1, none⟩ = some (.int .i64 qa) ∧ W.cell? ⟨b, o + k * 5 + 2, none⟩ = some (.int .i64 qn) ∧ W.cell? ⟨b, o + k * 5 + 3, none⟩ = some (.string qt) ∧ W.cell? ⟨b, o + k * 5 + 4, none⟩ = some (.int .i64 qv)) (by kernel_rfl) (by have h9 := HKG.out.drew; have h8 := HE.out.drew; exact ⟨h9.c0, h9.c1, h9.c2, h9.c3, h9.c4, h8.c0, h8.c1, h8.c2, h8.c3, h8.c4⟩) (fun hHeld => ?_)
   have HKG := Lib.hid HKG.out.drew
   have HKR := Lib.hid HKR.out.drew
   have HFR := Lib.hid HFR.out.drew
   have HBW := Lib.hid HBW.out.drew
   have HE := Lib.hid HE.out.drew
   refine Tk 0 12 ?_
   refine Tk 1 13 ?_
   refine Tk 2 14 ?_
   refine Tk 3 15 ?_
   refine Tk 4 16 ?_
   refine wpAnyH_ready (rs := [5]) (by kernel_rfl) (by simp) ?_
   refine AllReadyH.cons (o := ⟨some 17, _, _, _, _, _⟩) rfl (fun K hK => ?_) AllReadyH.nil
   go_simp
   (go_at_call 72; refine (HPA.out).mono ?_)
   rintro e v2 ⟨rfl, hb9⟩
   have HKG := Lib.hid (HKG.out.later hb9)
   have HKR := Lib.hid (HKR.out.later hb9)
   have HFR := Lib.hid (HFR.out.later hb9)
   have HBW := Lib.hid (HBW.out.trans (hb9.mono HBW.out.size))
   have HE := Lib.hid (HE.out.later hb9)
   clear hb9
   refine hK.out _ _ ?_ (fun hHeld2 => ?_)
   ·exact ⟨HKG.out.c0, HKG.out.c1, HKG.out.c2, HKG.out.c3, HKG.out.c4, HE.out.c0, HE.out.c1, HE.out.c2, HE.out.c3, HE.out.c4⟩
   clear hK K hHeld
   have hHeld := hHeld2
   clear hHeld2
   try simp only [Act.put, List.setIfInBounds_toArray, List.set_cons_zero, List.set_cons_succ]
   refine wpAnyH_done (by kernel_rfl) ?_ _
   clear hHeld
   have g0 := HKR.out.c0
   have g1 := HKR.out.c1
   have g2 := HKR.out.c2
   have g3 := HKR.out.c3
   have g4 := HKR.out.c4
   have m0 := HFR.out.2 0
   have m1 := HFR.out.2 1
   have m2 := HFR.out.2 2
   have m3 := HFR.out.2 3
   have m4 := HFR.out.2 4
   have e0 := HE.out.c0
   have e1 := HE.out.c1
   have e2 := HE.out.c2
   have e3 := HE.out.c3
   have e4 := HE.out.c4
   cases y with
   | true =>
    obtain ⟨W9, hW9⟩ : ∃ X, X = ((((v2.setCell ⟨r, 0, none⟩ (.slice Aq nq cq)).setCell ⟨r, 1, none⟩ (.int .i64 qa)).setCell ⟨r, 2, none⟩ (.int .i64 qn)).setCell ⟨r, 3, none⟩ (.string qt)).setCell ⟨r, 4, none⟩ (.int .i64 qv) := ⟨_, rfl⟩
    have HB9 : Hid (Below w.heap.size w W9) := by
     unfold Hid
     rw [hW9]
     exact ((((HKG.out.below.setCell (p := ⟨r, 0, none⟩) hwr _).setCell (p := ⟨r, 1, none⟩) hwr _).setCell (p := ⟨r, 2, none⟩) hwr _).setCell (p := ⟨r, 3, none⟩) hwr _).setCell (p := ⟨r, 4, none⟩) hwr _
    have HBB : Hid (Below B W W9) := by
     unfold Hid
     rw [hW9]
     exact (((((HBW.out.mono hB2).setCell (p := ⟨r, 0, none⟩) hBr _).setCell (p := ⟨r, 1, none⟩) hBr _).setCell (p := ⟨r, 2, none⟩) hBr _).setCell (p := ⟨r, 3, none⟩) hBr _).setCell (p := ⟨r, 4, none⟩) hBr _
    have l0 : W9.cell? ⟨r, 0, none⟩ = some (.slice Aq nq cq) := by rw [hW9]; go_simp
    have l1 : W9.cell? ⟨r, 1, none⟩ = some (.int .i64 qa) := by rw [hW9]; go_simp
    have l2 : W9.cell? ⟨r, 2, none⟩ = some (.int .i64 qn) := by rw [hW9]; go_simp
    have l3 : W9.cell? ⟨r, 3, none⟩ = some (.string qt) := by rw [hW9]; go_simp
    have l4 : W9.cell? ⟨r, 4, none⟩ = some (.int .i64 qv) := by rw [hW9]; go_simp
    have HW9 := Lib.hid hW9
    clear hW9
    go_wp2_with fail
    rw [← HW9.out]
    refine bodyPost_ret (v := .tuple #[.agg #[.slice Aq nq cq, .int .i64 qa, .int .i64 qn, .string qt, .int .i64 qv], .bool true]) (by simp [results, Tryz.results44, go_sem, l0, l1, l2, l3, l4]) rfl ⟨HB9.out, .inr ⟨(pq, ⟨qa, qn, qt, qv⟩), ⟨Aq, nq, cq⟩, ?_, rfl, HPL.out, HPX.out.keep HBB.out.size fun b hlt _ => HBB.out.block b hlt⟩⟩
    rw [HLF.out]
    exact findL_take hkl HNO.out (by rw [← HLF.out]; exact HY.out)
   | false =>
    have HNO2 : Hid (∀ (j : Nat) (h : j < ls.length), j < k + 1 → placeB ls[j] (pp, ⟨ea, en, et, ev⟩) = false) := fun j h hj => by
     by_cases e : j < k
     ·exact HNO.out j h e
     ·obtain rfl : j = k := by omega
      rw [← HLF.out]
      exact HY.out
    go_wp2_with fail
    go_roundw
    case rel => exact ⟨k + 1, by omega, by go_num, HNO2.out, HKG.out, HKR.out, HFR.out, HBW.out⟩
    case measure => simp [intOf]; omega
  ·obtain rfl : k = n := by omega
   have hnf : findL ls (pp, ⟨ea, en, et, ev⟩) = none := findL_none.2 fun y hy hp => by
    obtain ⟨j, hj, rfl⟩ := List.getElem_of_mem hy
    have h1 := HNO.out j hj (by rw [← HL.out.1]; exact hj)
    have h2 : placeB ls[j] (pp, ⟨ea, en, et, ev⟩) = true := placeB_true hp
    rw [h2] at h1
    cases h1
   have HNF := Lib.hid hnf
   clear hnf
   have g0 := HKR.out.c0
   have g1 := HKR.out.c1
   have g2 := HKR.out.c2
   have g3 := HKR.out.c3
   have g4 := HKR.out.c4
   have m0 := HFR.out.2 0
   have m1 := HFR.out.2 1
   have m2 := HFR.out.2 2
   have m3 := HFR.out.2 3
   have m4 := HFR.out.2 4
   obtain ⟨W9, hW9⟩ : ∃ X, X = ((((wr.setCell ⟨r, 0, none⟩ (.slice none 0 0)).setCell ⟨r, 1, none⟩ (.int .i64 0)).setCell ⟨r, 2, none⟩ (.int .i64 0)).setCell ⟨r, 3, none⟩ (.string ⟨#[]⟩)).setCell ⟨r, 4, none⟩ (.int .i64 0) := ⟨_, rfl⟩
   have HB9 : Hid (Below w.heap.size w W9) := by
    unfold Hid
    rw [hW9]
    exact ((((HKG.out.below.setCell (p := ⟨r, 0, none⟩) hwr _).setCell (p := ⟨r, 1, none⟩) hwr _).setCell (p := ⟨r, 2, none⟩) hwr _).setCell (p := ⟨r, 3, none⟩) hwr _).setCell (p := ⟨r, 4, none⟩) hwr _
   have l0 : W9.cell? ⟨r, 0, none⟩ = some (.slice none 0 0) := by rw [hW9]; go_simp
   have l1 : W9.cell? ⟨r, 1, none⟩ = some (.int .i64 0) := by rw [hW9]; go_simp
   have l2 : W9.cell? ⟨r, 2, none⟩ = some (.int .i64 0) := by rw [hW9]; go_simp
   have l3 : W9.cell? ⟨r, 3, none⟩ = some (.string ⟨#[]⟩) := by rw [hW9]; go_simp
   have l4 : W9.cell? ⟨r, 4, none⟩ = some (.int .i64 0) := by rw [hW9]; go_simp
   have HW9 := Lib.hid hW9
   clear hW9
   go_wp2_with fail
   rw [← HW9.out]
   refine bodyPost_ret (v := .tuple #[.agg #[.slice none 0 0, .int .i64 0, .int .i64 0, .string ⟨#[]⟩, .int .i64 0], .bool false]) (by simp [results, Tryz.results44, go_sem, l0, l1, l2, l3, l4]) rfl ⟨HB9.out, .inl ⟨HNF.out, rfl⟩⟩
end Cs
end Go.Proofs.YtcbclefemcmhpaaGreat
