/- Registers: what stands there. -/
import Derived.Test.YtnlojpolfkjkoaaGreatG90
import Derived.Test.YtnlojpolfkjkoaaGreatSetSort
import Derived.Test.YtnlojpolfkjkoaaGreatTreeRight
import Derived.Test.YtnlojpolfkjkoaaGreatG00
import Derived.Test.YtnlojpolfkjkoaaGreatCauRight
namespace Go.Proofs.YtnlojpolfkjkoaaGreat
open Go.ChangeShapes Go.WideShapes Go.ChangeAt Go.RowKit
namespace Cs
open Tr Cx Sp Rw Classical
set_option maxRecDepth 100000 in
set_option maxHeartbeats 4000000 in
theorem rvalues_any (t : T) (Ae Ak : Option Addr) (ne nk ce ck : Nat) (w : World) (m : List ByteArray) (q : Nat) (hm : (Tr.rightB 5 t = true → SortIs (t.es.map E.s) m) ∧ (Tr.rightB 5 t = false → m = [])) (hq : m.length = q) (hl : LenT reachBytes t) (hn : nodes t ≤ 1000) (hr : RdT w w.heap.size t ⟨Ae, ne, ce⟩ ⟨Ak, nk, ck⟩) :
  Calls Tryz.prog 17 #[.agg #[.slice Ae ne ce, .slice Ak nk ck]] w fun e w' => ∃ (A' : Option Addr) (c' : Nat), e = .returned (.slice A' q c') ∧ Hid (Rd w' w'.heap.size 1 A' q c' (strs m)) ∧ Below w.heap.size w w' := by
 have HRT : ∀ W, Below w.heap.size w W → Hid (Calls Tryz.prog 34 #[.agg #[.slice Ae ne ce, .slice Ak nk ck]] W fun e w' => e = .returned (.bool (Tr.rightB 5 t)) ∧ Below W.heap.size W w') := fun W hW => rightT_any t Ae Ak ne nk ce ck W hl (RdT.more hW.size _ (RdT.below hr hW)); obtain ⟨z, hz⟩ : ∃ z, Tr.rightB 5 t = z := ⟨_, rfl⟩; rw [hz] at hm HRT; have HM := Lib.hid hm; have HQ := Lib.hid hq; clear hz hm hq
 cases t with
 | mk es ks =>
  obtain ⟨hle, hlk⟩ := rd_lens hr; have HR := Lib.hid hr; have HLE := Lib.hid hle
  have hnk : ne ≤ 1000 := by have := nodes_es es ks; omega
  clear hle hlk hr hl hn; obtain ⟨g, hg⟩ : ∃ g, g = w.heap.size := ⟨_, rfl⟩; have HK := Lib.hid (tree_box w Ae Ak ne nk ce ck); rw [← hg] at HK; obtain ⟨W0, hW0⟩ : ∃ W, W = w.alloc (.cells #[.slice Ae ne ce, .slice Ak nk ck] 25) := ⟨_, rfl⟩; rw [← hW0] at HK; have HG := Lib.hid hg; have HW0 := Lib.hid hW0; have k0 := HK.out.c0; have k1 := HK.out.c1; clear hg hW0; go_enter Tryz.func17, Tryz.ntmps17; go_wp2_with fail; rw [← HG.out, ← HW0.out]; refine (HRT W0 HK.out.below).out.mono ?_; rintro e w1 ⟨rfl, hb9⟩; have HKc := Lib.hid (HK.out.later hb9); clear hb9 k0 k1 HRT; have k0 := HKc.out.c0; have k1 := HKc.out.c1
  cases z with
  | false =>
   obtain rfl : m = [] := HM.out.2 rfl; obtain rfl : q = 0 := HQ.out.symm; go_wp2_with fail; go_ret; exact ⟨none, 0, rfl, Rd.nil _, HKc.out.below⟩
  | true =>
   have HSI : Hid (SortIs (es.map E.s) m) := HM.out.1 rfl; clear HM; go_wp2_with fail
   go_loopw [3, 12] (fun v i wr => ∃ (k : Nat) (Ax : Option Addr) (cx : Nat), k ≤ ne ∧ i = .int .i64 k ∧ v = .slice Ax k cx ∧ Hid (Own wr w1.heap.size 9 1 Ax k cx (strs ((es.take k).map E.s))) ∧ Hid (Below w1.heap.size w1 wr)) (fun _ i _ => ne - (intOf i).toNat)
   case atStart => exact ⟨0, none, 0, by omega, rfl, rfl, ⟨World.ownsRow_nil _ _ _ _, by simp [Tr.strs]⟩, Below.refl _ _⟩
   case round =>
    obtain ⟨k, Ax, cx, hk, rfl, rfl, HO, HBL⟩ := hrel; clear k0 k1
    by_cases hlt : k < ne
    ·have hbw := HKc.out.below.trans (HBL.out.mono HKc.out.below.size)
     have hkl : k < es.length := by rw [HLE.out]; exact hlt
     obtain ⟨b, o, rfl, hb, hc⟩ := rd_ent HR.out (by omega); obtain ⟨c0, c1, c2, c3⟩ := hc k hkl; have c0 := (hbw.cell (p := ⟨b, o + k * 4, none⟩) hb).trans c0; have c1 := (hbw.cell (p := ⟨b, o + k * 4 + 1, none⟩) hb).trans c1; have c2 := (hbw.cell (p := ⟨b, o + k * 4 + 2, none⟩) hb).trans c2; have c3 := (hbw.cell (p := ⟨b, o + k * 4 + 3, none⟩) hb).trans c3; obtain ⟨tx, htx⟩ : ∃ s, s = (es[k]).s := ⟨_, rfl⟩; obtain ⟨ea, hea⟩ : ∃ s, s = (es[k]).a := ⟨_, rfl⟩; obtain ⟨en, hen⟩ : ∃ s, s = (es[k]).n := ⟨_, rfl⟩; obtain ⟨ev, hev⟩ : ∃ s, s = (es[k]).v := ⟨_, rfl⟩; rw [← hea] at c0; rw [← hen] at c1; rw [← htx] at c2; rw [← hev] at c3
     have HSUC : Hid ((es.take (k + 1)).map E.s = (es.take k).map E.s ++ [tx]) := by unfold Hid; rw [List.take_succ_eq_append_getElem hkl, List.map_append, htx]; rfl
     have hb1 : Below wr.heap.size wr (wr.alloc (.cells #[.int .i64 ea, .int .i64 en, .string tx, .int .i64 ev] 41)) := Dt.box_below _ _ _; obtain ⟨A6, c6, w6, r1, r2, r3⟩ := push_str (wr.alloc (.cells #[.int .i64 ea, .int .i64 en, .string tx, .int .i64 ev] 41)) w1.heap.size (wr.heap.size + 1) (by simp) (own_later HO.out hb1) (Nat.le_trans HBL.out.size hb1.size) tx (by omega)
     have HO6 : Hid (Own w6 w1.heap.size 9 1 A6 (k + 1) c6 (strs ((es.take (k + 1)).map E.s))) := by unfold Hid; rw [HSUC.out]; exact r2
     have HBL6 := Lib.hid ((HBL.out.trans (hb1.mono HBL.out.size)).trans r3); have Hrun := Lib.hid r1; clear r1 r2 r3 hb1 hc hbw htx hea hen hev; go_wp2_with (at_builtin; refine Lib.wpList_append_run _ rfl _ _ _ _ rfl _ _ rfl rfl _ _ Hrun.out ?_); go_roundw
     case rel => exact ⟨k + 1, A6, c6, by omega, by go_num, rfl, HO6.out, HBL6.out⟩
     case measure => simp [intOf]; omega
    ·obtain rfl : k = ne := by omega
     obtain ⟨l, hl⟩ : ∃ l, l = es.map E.s := ⟨_, rfl⟩
     have HO1 : Hid (Own wr w1.heap.size 9 1 Ax k cx (strs l)) := by
      have h1 := HO.out; rw [List.take_of_length_le (by rw [HLE.out]; exact Nat.le_refl _), ← hl] at h1; exact h1
     have hlk : l.length = k := by rw [hl, List.length_map]; exact HLE.out
     have HEQ : Hid (cmpS (sortS l) = m) := by
      have h := HSI.out; rw [← hl] at h; exact (cmpS_is l).eq h
     have HB := Lib.hid (HKc.out.below.trans (HBL.out.mono HKc.out.below.size)); have HS1 := Lib.hid (sortS_own l k Ax cx w1.heap.size wr hlk (by omega) HO1.out HBL.out.size); have HLK := Lib.hid hlk; clear hl hlk; go_wp2_with fail; refine HS1.out.mono ?_; rintro e w2 ⟨rfl, ho2, hb2⟩; have HO2 := Lib.hid ho2; have HB2 := Lib.hid (HB.out.trans (hb2.mono HKc.out.below.size)); have HC := Lib.hid (cmpS_own (sortS l) k q Ax cx w1.heap.size w2 (by rw [sortS_len]; exact HLK.out) (by rw [HEQ.out]; exact HQ.out) (by omega) HO2.out); clear ho2 hb2 HS1; go_wp2_with fail; refine HC.out.mono ?_; rintro e w3 ⟨rfl, ho3, hb3⟩
     have HRD : Hid (Rd w3 w3.heap.size 1 Ax q cx (strs m)) := by
      have h := ho3.rd; rw [HEQ.out] at h; exact h
     have HB3 := Lib.hid (HB2.out.trans (hb3.mono HKc.out.below.size)); clear ho3 hb3 HC; go_wp2_with fail; go_ret; exact ⟨Ax, cx, rfl, HRD.out, HB3.out⟩
end Cs
end Go.Proofs.YtnlojpolfkjkoaaGreat
