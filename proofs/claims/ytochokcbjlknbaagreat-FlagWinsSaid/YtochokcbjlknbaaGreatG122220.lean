/- Flags: awake; small. -/
import Derived.Test.YtochokcbjlknbaaGreatG00
import Derived.Test.YtochokcbjlknbaaGreatG12220
import Derived.Test.YtochokcbjlknbaaGreatG20
import Derived.Test.YtochokcbjlknbaaGreatG01
import Derived.Test.YtochokcbjlknbaaGreatG120
import Derived.Test.YtochokcbjlknbaaGreatCauKit
namespace Go.Proofs.YtochokcbjlknbaaGreat
open Go.ChangeShapes Go.WideShapes Go.ChangeAt Go.RowKit
namespace Cs
open Tr Cx Sp Rw Classical
set_option maxRecDepth 100000 in
set_option maxHeartbeats 4000000 in
theorem small_tree (t : T) (Ae Ak : Option Addr) (ne nk ce ck : Nat) (w : World) (hl : LenT reachBytes t) (hr : RdT w w.heap.size t ⟨Ae, ne, ce⟩ ⟨Ak, nk, ck⟩) :
    Calls Tryz.prog 6 #[.agg #[.slice Ae ne ce, .slice Ak nk ck]] w fun e w' => ∃ b : Bool, e = .returned (.bool b) ∧ (b = true → nodes t ≤ 40) ∧ Below w.heap.size w w' := by
  obtain ⟨p, hp⟩ : ∃ p, p = w.heap.size := ⟨_, rfl⟩
  have HKc := Lib.hid (tree_box w Ae Ak ne nk ce ck)
  rw [← hp] at HKc
  obtain ⟨W, hW⟩ : ∃ W, W = w.alloc (.cells #[.slice Ae ne ce, .slice Ak nk ck] 25) := ⟨_, rfl⟩
  rw [← hW] at HKc
  have HP := Lib.hid hp
  have HW := Lib.hid hW
  have HSM := Lib.hid (small_to t Ae Ak ne nk ce ck 40 40 rfl W (by omega) hl (RdT.more HKc.out.below.size _ (RdT.below hr HKc.out.below)))
  have c0 := HKc.out.c0
  have c1 := HKc.out.c1
  clear hp hW hl hr
  go_enter Tryz.func6, Tryz.ntmps6
  go_wp2_with fail
  rw [← HP.out, ← HW.out]
  refine HSM.out.mono ?_
  rintro e v1 ⟨b, rfl, hb, hb9⟩
  have HKc := Lib.hid (HKc.out.later hb9)
  have HB := Lib.hid hb
  clear hb9 hb c0 c1 HSM
  go_wp2_with fail
  go_ret
  exact ⟨b, rfl, HB.out, HKc.out.below⟩
theorem RdP.one_len {w : World} {p : CP} {e : E} (h : RdP w p) (hk : p.k.1 = oneT e) : p.e.n = 1 := by
  have h1 := h.tree
  rw [hk] at h1
  exact (rd_lens (Ae := p.e.A) (ne := p.e.n) (ce := p.e.c) (Ak := p.d.A) (nk := p.d.n) (ck := p.d.c) h1).1.symm
theorem on_one {w : World} {p : CP} {e : E} (h : RdP w p) (hk : p.k.1 = oneT e) (he : RightE e) : (Tr.rightB 5 p.k.1 && decide (0 < p.e.n)) = true := by
  rw [h.one_len hk, hk, Tr.rightB_iff.2 (right_oneT (d := 4) he)]
  rfl
theorem flag_e {a n : Int} (h : Dt.rightB a n = true) : RightE ⟨a, n, ⟨#[]⟩, 0⟩ := ⟨h, by show ByteArray.size ⟨#[]⟩ ≤ 30; decide, by show (-1099511627776 : Int) ≤ 0; decide, by show (0 : Int) ≤ 1099511627776; decide⟩
theorem of_nil : OfC [] [] := ⟨right_noneC, fun d n _ => by
  constructor
  · intro h; cases h
  · intro h; cases h⟩
theorem check_none : checkB none_ 1 1 = true := check_iff.2 ⟨RightT.none (d := 4), by decide, by unfold dl; rw [leaves_none]; simp⟩
set_option maxRecDepth 100000 in
set_option maxHeartbeats 4000000 in
theorem awake10 (w : World) : Calls Tryz.prog 5 #[] w fun e w' => e = .returned (.bool true) ∧ Below w.heap.size w w' := by
  obtain ⟨p, hp⟩ : ∃ p, p = w.heap.size := ⟨_, rfl⟩
  obtain ⟨W, hW⟩ : ∃ W, W = w.alloc (.cells #[.int .i64 1, .int .i64 1] 27) := ⟨_, rfl⟩
  have hb : Below w.heap.size w W := by rw [hW]; exact Dt.box_below _ _ _
  have HKc : Hid (Kept [(⟨p, 0, none⟩, .int .i64 1), (⟨p, 1, none⟩, .int .i64 1)] w W) := ((Kept.nil_of hb).cons_of (by rw [hW, hp]; go_simp)).cons_of (by rw [hW, hp]; go_simp)
  have HP := Lib.hid hp
  have HW := Lib.hid hW
  have HD := Lib.hid (enable_any none_ none none 0 0 0 0 1 1 W (LenT.few (by rw [nodes_none]; omega)) (by rw [nodes_none]; omega) (RdT.none _ _ _ _))
  clear hp hW hb
  have c0 := HKc.out.c0
  have c1 := HKc.out.c1
  go_enter Tryz.func5, Tryz.ntmps5
  go_wp2_with fail
  rw [← HP.out, ← HW.out]
  refine HD.out.mono ?_
  rintro e v1 ⟨kx, z, Xe, xe1, xe2, Xk, xk1, xk2, Xc, xc1, xc2, rfl, how, hz, hb9⟩
  obtain ⟨rfl, hk1, hna, u, hu, hpv⟩ := hz.out.1 check_none
  have hu0 : OfC [] u := by
    have h := hu
    unfold dl at h
    rw [leaves_none] at h
    exact h
  obtain rfl : u = [] := hu0.eq of_nil
  have RX := Lib.hid (RdP.of_own how.out)
  have HK1 := Lib.hid hk1
  have HNA : Hid (xc1 ≤ 4) := by have h := hna; rw [nodes_none] at h; exact h
  have HPV := Lib.hid hpv
  clear how hz hk1 hna hu hu0 hpv HD
  have HKc := Lib.hid (HKc.out.later hb9)
  clear hb9
  clear c0 c1
  obtain ⟨g, hg⟩ : ∃ g, g = v1.heap.size := ⟨_, rfl⟩
  obtain ⟨v2, hv2⟩ : ∃ W, W = v1.alloc (.cells #[.slice Xe xe1 xe2, .slice Xk xk1 xk2, .slice Xc xc1 xc2] 34) := ⟨_, rfl⟩
  have hb9 : Below v1.heap.size v1 v2 := by rw [hv2]; exact Dt.box_below _ _ _
  have b0 : v2.cell? ⟨g, 0, none⟩ = some (.slice Xe xe1 xe2) := by rw [hv2, hg]; go_simp
  have b1 : v2.cell? ⟨g, 1, none⟩ = some (.slice Xk xk1 xk2) := by rw [hv2, hg]; go_simp
  have b2 : v2.cell? ⟨g, 2, none⟩ = some (.slice Xc xc1 xc2) := by rw [hv2, hg]; go_simp
  have HKc := Lib.hid (HKc.out.later hb9)
  have RX := Lib.hid (RX.out.later hb9)
  clear hb9
  have HKc := Lib.hid (((HKc.out.cons_of b2).cons_of b1).cons_of b0)
  have Hg := Lib.hid hg
  have Hv2 := Lib.hid hv2
  clear hg hv2 b0 b1 b2
  have c0 := HKc.out.c0
  have c1 := HKc.out.c1
  have c2 := HKc.out.c2
  have c3 := HKc.out.c3
  have c4 := HKc.out.c4
  rw [Hv2.out] at c0 c1 c2 c3 c4
  rw [Hg.out] at c0 c1 c2
  go_wp2_with fail
  rw [← Hg.out, ← Hv2.out]
  refine wp_region_held_drew (S := fun W => W.cell? ⟨g, 0, none⟩ = some (.slice Xe xe1 xe2) ∧ W.cell? ⟨g, 1, none⟩ = some (.slice Xk xk1 xk2) ∧ W.cell? ⟨g, 2, none⟩ = some (.slice Xc xc1 xc2) ∧ W.cell? ⟨p, 0, none⟩ = some (.int .i64 1) ∧ W.cell? ⟨p, 1, none⟩ = some (.int .i64 1)) (by kernel_rfl) (by have h9 := HKc.out.drew; exact ⟨h9.c0, h9.c1, h9.c2, h9.c3, h9.c4⟩) (fun hHeld => ?_)
  obtain ⟨v3, hv3⟩ : ∃ v, v = v2.drew := ⟨_, rfl⟩
  have hb9 : Below v2.heap.size v2 v3 := by rw [hv3]; exact (Below.refl _ _).drew
  have HKc := Lib.hid (HKc.out.later hb9)
  have RX := Lib.hid (RX.out.later hb9)
  clear hb9
  rw [← hv3] at hHeld ⊢
  clear hv3
  refine Tk 0 11 ?_
  refine Tk 1 12 ?_
  refine Tk 2 13 ?_
  refine Tk 3 14 ?_
  refine Tk 4 15 ?_
  refine wpAnyH_ready (rs := [5]) (by kernel_rfl) (by simp) ?_
  refine AllReadyH.cons (o := ⟨some 16, _, _, _, _, _⟩) rfl (fun K hK => ?_) AllReadyH.nil
  go_simp
  (go_at_call 12; refine (on_any kx.1 Xe Xk xe1 xk1 xe2 xk2 _ true (on_one RX.out HK1.out (flag_e (by decide))) (by rw [HK1.out]; exact LenT.few (by rw [nodes_one]; omega)) RX.out.tree).mono ?_)
  rintro e v4 ⟨rfl, hb9⟩
  have HKc := Lib.hid (HKc.out.later hb9)
  have RX := Lib.hid (RX.out.later hb9)
  clear hb9
  refine hK.out _ _ ?_ (fun hHeld2 => ?_)
  · exact ⟨HKc.out.c0, HKc.out.c1, HKc.out.c2, HKc.out.c3, HKc.out.c4⟩
  clear hK K hHeld
  have hHeld := hHeld2
  clear hHeld2
  try simp only [Act.put, List.setIfInBounds_toArray, List.set_cons_zero, List.set_cons_succ]
  refine Tk 6 17 ?_
  refine Tk 7 18 ?_
  refine Tk 8 19 ?_
  refine Tk 9 20 ?_
  refine Tk 10 21 ?_
  refine wpAnyH_ready (rs := [11]) (by kernel_rfl) (by simp) ?_
  refine AllReadyH.cons (o := ⟨some 22, _, _, _, _, _⟩) rfl (fun K hK => ?_) AllReadyH.nil
  go_simp
  (go_at_call 17; refine (refput_any [] none 0 0 1 1 ⟨#[]⟩ 0 [] kx.2 none 0 0 xc1 _ rfl (Rd.nil _) rfl (by omega) (Rd.nil _) right_noneC (flag_e (by decide)) (right_oneT (d := 4) (flag_e (by decide))) (by omega) HPV.out RX.out.len (by have := HNA.out; omega)).mono ?_)
  rintro e v5 ⟨Ye, ye1, ye2, Yk, yk1, yk2, Yc, yc1, yc2, rfl, how, hb9⟩
  have RY := Lib.hid (RdP.of_own how)
  clear how
  have HKc := Lib.hid (HKc.out.later hb9)
  have RX := Lib.hid (RX.out.later hb9)
  clear hb9
  refine hK.out _ _ ?_ (fun hHeld2 => ?_)
  · exact ⟨HKc.out.c0, HKc.out.c1, HKc.out.c2, HKc.out.c3, HKc.out.c4⟩
  clear hK K hHeld
  have hHeld := hHeld2
  clear hHeld2
  try simp only [Act.put, List.setIfInBounds_toArray, List.set_cons_zero, List.set_cons_succ]
  refine wpAnyH_ready (rs := [12]) (by kernel_rfl) (by simp) ?_
  refine AllReadyH.cons (o := ⟨some 23, _, _, _, _, _⟩) rfl (fun K hK => ?_) AllReadyH.nil
  go_simp
  (go_at_call 16; refine (refsameK_any kx.1 (wrapT (oneT ⟨1, 1, ⟨#[]⟩, 0⟩) []) kx.2 kx.2 Xe Xk Xc Ye Yk Yc xe1 xk1 xe2 xk2 xc1 xc2 ye1 yk1 ye2 yk2 yc1 yc2 _ true (decide_eq_true (by rw [HK1.out]; rfl)) (by rw [HK1.out, nodes_one]; omega) RX.out.len (by have := HNA.out; omega) RX.out.tree RX.out.ctx RY.out.len RY.out.tree RY.out.ctx).mono ?_)
  rintro e v6 ⟨rfl, hb9⟩
  have HKc := Lib.hid (HKc.out.later hb9)
  have RX := Lib.hid (RX.out.later hb9)
  have RY := Lib.hid (RY.out.later hb9)
  clear hb9
  refine hK.out _ _ ?_ (fun hHeld2 => ?_)
  · exact ⟨HKc.out.c0, HKc.out.c1, HKc.out.c2, HKc.out.c3, HKc.out.c4⟩
  clear hK K hHeld
  have hHeld := hHeld2
  clear hHeld2
  try simp only [Act.put, List.setIfInBounds_toArray, List.set_cons_zero, List.set_cons_succ]
  refine Tk 13 24 ?_
  refine Tk 14 0 ?_
  refine wpAnyH_done (by kernel_rfl) ?_ _
  clear hHeld
  go_wp2_with fail
  go_ret
  exact ⟨by first | rfl | simp, HKc.out.below⟩
end Cs
end Go.Proofs.YtochokcbjlknbaaGreat
