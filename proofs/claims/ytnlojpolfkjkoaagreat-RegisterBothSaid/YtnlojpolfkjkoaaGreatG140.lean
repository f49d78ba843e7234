/- Texts of the lower layers, and of layer 9, put together. -/
import Derived.Test.YtnlojpolfkjkoaaGreatG90
import Derived.Test.YtnlojpolfkjkoaaGreatG20
import Derived.Test.YtnlojpolfkjkoaaGreatSetSort
import Derived.Test.YtnlojpolfkjkoaaGreatG00
import Derived.Test.YtnlojpolfkjkoaaGreatDltRef
import Derived.Test.YtnlojpolfkjkoaaGreatG120
import Derived.Test.YtnlojpolfkjkoaaGreatCauKit
set_option maxRecDepth 100000
set_option maxHeartbeats 4000000
namespace Go.Proofs.YtnlojpolfkjkoaaGreat
open Go.ChangeShapes Go.WideShapes Go.ChangeAt Go.RowKit
namespace Cs
open Tr Cx Sp Rw Classical
theorem refown_any (t : T) (Ae Ak : Option Addr) (ne nk ce ck : Nat) (u : List S3) (m : Nat) (w : World) (ht : RightT 5 t) (hn : nodes t ≤ 1000) (hr : RdT w w.heap.size t ⟨Ae, ne, ce⟩ ⟨Ak, nk, ck⟩) (hu : OfC (ownD t) u) (hm : u.length = m) (hm8 : m ≤ 800000) :
  Calls Tryz.prog 13 #[.agg #[.slice Ae ne ce, .slice Ak nk ck]] w fun e w' => ∃ B d, e = .returned (.slice B m d) ∧ Rd w' w'.heap.size 3 B m d (spsC u) ∧ Below w.heap.size w w' := by
 have HTO : Hid (RightT 5 (.mk t.es [])) := right_own ht
 have HNO : Hid (nodes (.mk t.es []) ≤ 1000) := by
  unfold Hid; rw [nodes_mk]; have h := nodes_es t.es t.ks; rw [T.eta] at h; simp; omega
 have HRO : Hid (RdT w w.heap.size (.mk t.es []) ⟨Ae, ne, ce⟩ ⟨none, 0, 0⟩) := by
  have h := hr; rw [← T.eta t, rdT_mk] at h; unfold Hid; rw [rdT_mk]; exact ⟨h.1, h.2.1, rfl, [], Rd.nil _, fun i hi => by simp at hi⟩
 have HU := Lib.hid (And.intro hu (And.intro hm hm8)); clear hr ht hn hu hm hm8; obtain ⟨g, hg⟩ : ∃ g, g = w.heap.size := ⟨_, rfl⟩; have HK := Lib.hid (tree_box w Ae Ak ne nk ce ck); rw [← hg] at HK; obtain ⟨W0, hW0⟩ : ∃ W, W = w.alloc (.cells #[.slice Ae ne ce, .slice Ak nk ck] 25) := ⟨_, rfl⟩; rw [← hW0] at HK; have HG := Lib.hid hg; have HW0 := Lib.hid hW0; have k0 := HK.out.c0; have k1 := HK.out.c1; clear hg hW0; have HRW := Lib.hid (RdT.more HK.out.below.size _ (RdT.below HRO.out HK.out.below)); go_enter Tryz.func13, Tryz.ntmps13; go_wp2_with fail; rw [← HG.out, ← HW0.out]; refine (refdots_any (.mk t.es []) Ae none ne 0 ce 0 W0 HNO.out HRW.out (good_dl HTO.out) u (by rw [ownD_dl]; exact HU.out.1) m HU.out.2.1 HU.out.2.2).mono ?_; rintro e w2 ⟨B, d, rfl, hro, hb9⟩; have HB := Lib.hid (HK.out.below.trans (hb9.mono HK.out.below.size))
 have HRO2 := Lib.hid hro; clear hro hb9 k0 k1; go_wp2_with fail; go_ret; exact ⟨B, d, rfl, HRO2.out, HB.out⟩
theorem reftexts_any (t : T) (Ae Ak : Option Addr) (ne nk ce ck : Nat) (w : World) (m : List ByteArray) (q : Nat) (hn : nodes t ≤ 1000) (hr : RdT w w.heap.size t ⟨Ae, ne, ce⟩ ⟨Ak, nk, ck⟩) (hs : SortIs (t.es.map E.s) m) (hq : m.length = q) (hq8 : q ≤ 1000) :
  Calls Tryz.prog 15 #[.agg #[.slice Ae ne ce, .slice Ak nk ck]] w fun e w' => ∃ (A' : Option Addr) (c' : Nat), e = .returned (.slice A' q c') ∧ Hid (Rd w' w'.heap.size 1 A' q c' (strs m)) ∧ Below w.heap.size w w' := by
 have HS := Lib.hid (And.intro hs (And.intro hq hq8)); clear hs hq hq8
 cases t with
 | mk es ks =>
  obtain ⟨hle, hlk⟩ := rd_lens hr; have HR := Lib.hid hr; have HLE := Lib.hid hle
  have hnk : ne ≤ 1000 := by have := nodes_es es ks; omega
  clear hle hlk hr hn; obtain ⟨g, hg⟩ : ∃ g, g = w.heap.size := ⟨_, rfl⟩; have HK := Lib.hid (tree_box w Ae Ak ne nk ce ck); rw [← hg] at HK; obtain ⟨W0, hW0⟩ : ∃ W, W = w.alloc (.cells #[.slice Ae ne ce, .slice Ak nk ck] 25) := ⟨_, rfl⟩; rw [← hW0] at HK; have HG := Lib.hid hg; have HW0 := Lib.hid hW0; have k0 := HK.out.c0; have k1 := HK.out.c1; clear hg hW0; go_enter Tryz.func15, Tryz.ntmps15; go_wp2_with fail; rw [← HG.out, ← HW0.out]; go_wp2_with fail
  go_loopw [3, 8] (fun v i wr => ∃ (k : Nat) (Ax : Option Addr) (cx : Nat), k ≤ ne ∧ i = .int .i64 k ∧ v = .slice Ax k cx ∧ Hid (Own wr W0.heap.size 9 1 Ax k cx (strs ((es.take k).map E.s))) ∧ Hid (Below W0.heap.size W0 wr)) (fun _ i _ => ne - (intOf i).toNat)
  case atStart => exact ⟨0, none, 0, by omega, rfl, rfl, ⟨World.ownsRow_nil _ _ _ _, by simp [Tr.strs]⟩, Below.refl _ _⟩
  case round =>
   obtain ⟨k, Ax, cx, hk, rfl, rfl, HO, HBL⟩ := hrel; clear k0 k1; have k0 := (HBL.out.cell (p := ⟨g, 0, none⟩) (World.block_lt_of_cell? W0 _ HK.out.c0)).trans HK.out.c0; have k1 := (HBL.out.cell (p := ⟨g, 1, none⟩) (World.block_lt_of_cell? W0 _ HK.out.c1)).trans HK.out.c1
   by_cases hlt : k < ne
   ·have hbw := HK.out.below.trans (HBL.out.mono HK.out.below.size)
    have hkl : k < es.length := by rw [HLE.out]; exact hlt
    obtain ⟨b, o, rfl, hb, hc⟩ := rd_ent HR.out (by omega); obtain ⟨c0, c1, c2, c3⟩ := hc k hkl; have c0 := (hbw.cell (p := ⟨b, o + k * 4, none⟩) hb).trans c0; have c1 := (hbw.cell (p := ⟨b, o + k * 4 + 1, none⟩) hb).trans c1; have c2 := (hbw.cell (p := ⟨b, o + k * 4 + 2, none⟩) hb).trans c2; have c3 := (hbw.cell (p := ⟨b, o + k * 4 + 3, none⟩) hb).trans c3; obtain ⟨tx, htx⟩ : ∃ s, s = (es[k]).s := ⟨_, rfl⟩; rw [← htx] at c2
    have HSUC : Hid ((es.take (k + 1)).map E.s = (es.take k).map E.s ++ [tx]) := by unfold Hid; rw [List.take_succ_eq_append_getElem hkl, List.map_append, htx]; rfl
    clear hc hbw htx; obtain ⟨A6, c6, w6, r1, r2, r3⟩ := push_str wr W0.heap.size wr.heap.size rfl HO.out HBL.out.size tx (by omega)
    have HO6 : Hid (Own w6 W0.heap.size 9 1 A6 (k + 1) c6 (strs ((es.take (k + 1)).map E.s))) := by unfold Hid; rw [HSUC.out]; exact r2
    have HBL6 := Lib.hid (HBL.out.trans r3); have Hrun := Lib.hid r1; clear r1 r2 r3; go_wp2_with (at_builtin; refine Lib.wpList_append_run _ rfl _ _ _ _ rfl _ _ rfl rfl _ _ Hrun.out ?_); go_roundw
    case rel => exact ⟨k + 1, A6, c6, by omega, by go_num, rfl, HO6.out, HBL6.out⟩
    case measure => simp [intOf]; omega
   ·obtain rfl : k = ne := by omega
    have HRD : Hid (Rd wr wr.heap.size 1 Ax k cx (strs (es.map E.s))) := by
     have h1 := HO.out; rw [List.take_of_length_le (by rw [HLE.out]; exact Nat.le_refl _)] at h1; exact h1.rd
    have HB := Lib.hid (HK.out.below.trans (HBL.out.mono HK.out.below.size)); go_wp2_with fail; refine (refsorted_any (es.map E.s) m k q Ax cx wr HS.out.1 HS.out.2.1 HS.out.2.2 (by omega) HRD.out).mono ?_; rintro e w9 ⟨A', c', rfl, hro, hb9⟩; have HB9 := Lib.hid (HB.out.trans (hb9.mono HB.out.size)); have HRO := Lib.hid hro.out; clear hro hb9; go_wp2_with fail; go_ret; exact ⟨A', c', rfl, HRO.out, HB9.out⟩
end Cs
end Go.Proofs.YtnlojpolfkjkoaaGreat
namespace Go.Proofs.YtnlojpolfkjkoaaGreat
open Go.ChangeShapes Go.WideShapes Go.ChangeAt Go.RowKit
namespace Cs
open Tr Cx Sp Rw Classical
theorem RdP.one_len {w : World} {p : CP} {e : E} (h : RdP w p) (hk : p.k.1 = oneT e) : p.e.n = 1 := by
 have h1 := h.tree; rw [hk] at h1; exact (rd_lens (Ae := p.e.A) (ne := p.e.n) (ce := p.e.c) (Ak := p.d.A) (nk := p.d.n) (ck := p.d.c) h1).1.symm
theorem of_nil : OfC [] [] := ⟨right_noneC, fun d n _ => by
 constructor
 ·intro h; cases h
 ·intro h; cases h⟩
theorem check_none : checkB none_ 1 1 = true := check_iff.2 ⟨RightT.none (d := 4), by decide, by unfold dl; rw [leaves_none]; simp⟩
end Cs
end Go.Proofs.YtnlojpolfkjkoaaGreat
