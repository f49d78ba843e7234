/- Sets: awake, small; what may be changed, what was seen: the law's. -/
import Derived.Test.YtemilfojnecldaaGreatG00
import Derived.Test.YtemilfojnecldaaGreatSet2
import Derived.Test.YtemilfojnecldaaGreatSet3
import Derived.Test.YtemilfojnecldaaGreatDltRef
import Derived.Test.YtemilfojnecldaaGreatG40
import Derived.Test.YtemilfojnecldaaGreatG20
import Derived.Test.YtemilfojnecldaaGreatG120
import Derived.Test.YtemilfojnecldaaGreatCauKit
import Derived.Test.YtemilfojnecldaaGreatG140
set_option maxRecDepth 100000
set_option maxHeartbeats 4000000
namespace Go.Proofs.YtemilfojnecldaaGreat
open Go.ChangeShapes Go.WideShapes Go.ChangeAt Go.RowKit
namespace Cs
open Tr Cx Sp Rw Classical
theorem some_kid {t : T} (ht : RightT 5 t) (s : ByteArray) {Ae Ak : Option Addr} {ne nk ce ck : Nat} {w : World} (hn : nodes t ≤ 1000) (hr : RdT w w.heap.size t ⟨Ae, ne, ce⟩ ⟨Ak, nk, ck⟩) : ∃ u, OfC (dl (kidAt t.ks s)) u ∧ u.length ≤ 4 * nodes t := by
 have hnn := nodes_kid_at t s
 cases t with
 | mk es ks =>
  rcases kidAt_mem (ks := ks) (key := s) with ⟨x, hx, _, he⟩ | ⟨_, he⟩
  ·obtain ⟨j, hj, rfl⟩ := List.getElem_of_mem hx
   have hnk := (rd_lens hr).2; obtain ⟨b, o, rfl, hb, hc⟩ := rd_kid hr (by omega); obtain ⟨⟨Ae', ne', ce'⟩, ⟨Ak', nk', ck'⟩, _, _, _, hkid⟩ := hc j hj; have hr2 := kid_right ht s
   have hnn2 : nodes (ks[j]).2 ≤ nodes (.mk es ks) := by rw [← he]; exact hnn
   rw [show kidAt (T.mk es ks).ks s = (ks[j]).2 from he] at hr2 ⊢; obtain ⟨u, h1, h2⟩ := some_of hr2 (LenT.few (by omega)) (by omega) hkid; exact ⟨u, h1, by omega⟩
  ·refine ⟨[], ?_, by simp⟩
   rw [show kidAt (T.mk es ks).ks s = none_ from he]; have h := of_nil; unfold dl; rw [leaves_none]; exact h
theorem small_tree (t : T) (Ae Ak : Option Addr) (ne nk ce ck : Nat) (w : World) (hl : LenT reachBytes t) (hr : RdT w w.heap.size t ⟨Ae, ne, ce⟩ ⟨Ak, nk, ck⟩) :
  Calls Tryz.prog 10 #[.agg #[.slice Ae ne ce, .slice Ak nk ck]] w fun e w' => ∃ b : Bool, e = .returned (.bool b) ∧ (b = true → nodes t ≤ 60) ∧ Below w.heap.size w w' := by
 obtain ⟨p, hp⟩ : ∃ p, p = w.heap.size := ⟨_, rfl⟩; have HKc := Lib.hid (tree_box w Ae Ak ne nk ce ck); rw [← hp] at HKc; obtain ⟨W, hW⟩ : ∃ W, W = w.alloc (.cells #[.slice Ae ne ce, .slice Ak nk ck] 25) := ⟨_, rfl⟩; rw [← hW] at HKc; have HP := Lib.hid hp; have HW := Lib.hid hW; have HSM := Lib.hid (small_to t Ae Ak ne nk ce ck 60 60 rfl W (by omega) hl (RdT.more HKc.out.below.size _ (RdT.below hr HKc.out.below))); have c0 := HKc.out.c0; have c1 := HKc.out.c1; clear hp hW hl hr; go_enter Tryz.func10, Tryz.ntmps10; go_wp2_with fail; rw [← HP.out, ← HW.out]; refine HSM.out.mono ?_; rintro e v1 ⟨b, rfl, hb, hb9⟩; have HKc := Lib.hid (HKc.out.later hb9); have HB := Lib.hid hb; clear hb9 hb c0 c1 HSM; go_wp2_with fail; go_ret; exact ⟨b, rfl, HB.out, HKc.out.below⟩
theorem may_any (t : T) (Ae Ak : Option Addr) (ne nk ce ck : Nat) (s : ByteArray) (a n : Int) (w : World) (z : Bool) (hz : mayB t s a n = z) (hl : LenT reachBytes t) (hn : nodes t ≤ 1000) (hr : RdT w w.heap.size t ⟨Ae, ne, ce⟩ ⟨Ak, nk, ck⟩) :
  Calls Tryz.prog 12 #[.agg #[.slice Ae ne ce, .slice Ak nk ck], .string s, .agg #[.int .i64 a, .int .i64 n]] w fun e w' => e = .returned (.bool z) ∧ Below w.heap.size w w' := by
 obtain ⟨W, p, q, HW, HP, HQ, HKc⟩ := boxTD w Ae Ak ne nk ce ck a n; obtain ⟨y, hy⟩ : ∃ y, checkB t a n = y := ⟨_, rfl⟩; have HD := Lib.hid (refcheck_any t Ae Ak ne nk ce ck a n W y hy hl hn (RdT.more HKc.out.below.size _ (RdT.below hr HKc.out.below)))
 have HZ : Hid ((y && keyB s) = z) := by unfold Hid; rw [← hy]; exact hz
 clear hl hn hr hz hy; have c0 := HKc.out.c0; have c1 := HKc.out.c1; have c2 := HKc.out.c2; have c3 := HKc.out.c3; go_enter Tryz.func12, Tryz.ntmps12; go_wp2_with fail; rw [← HP.out, ← HW.out]
 try rw [← HQ.out]
 refine HD.out.mono ?_; rintro e v1 ⟨rfl, hb9⟩; have HKc := Lib.hid (HKc.out.later hb9); clear hb9 HD c0 c1 c2 c3
 cases y with
 | false =>
  obtain rfl : z = false := by rw [← HZ.out]; rfl
  go_wp2_with fail; go_ret; exact ⟨rfl, HKc.out.below⟩
 | true =>
  have hk : keyB s = z := by rw [← HZ.out]; rfl
  have HZK := Lib.hid hk; clear hk; go_wp2_with fail; refine (refkey_any s v1).mono ?_; rw [HZK.out]; rintro e v2 ⟨rfl, rfl⟩; go_wp2_with fail; go_ret; exact ⟨rfl, HKc.out.below⟩
theorem may_none : mayB none_ ⟨#[97]⟩ 1 1 = true := may_iff.2 ⟨check_none, by constructor <;> (show _ ≤ _; decide)⟩
theorem room_none (s : ByteArray) : roomB none_ s = true := by
 unfold roomB none_; rfl
theorem kid_none_at (s : ByteArray) : kidAt none_.ks s = none_ := rfl
theorem awake11 (w : World) : Calls Tryz.prog 9 #[] w fun e w' => e = .returned (.bool true) ∧ Below w.heap.size w w' := by
 obtain ⟨p, hp⟩ : ∃ p, p = w.heap.size := ⟨_, rfl⟩; obtain ⟨W, hW⟩ : ∃ W, W = w.alloc (.cells #[.int .i64 1, .int .i64 1] 27) := ⟨_, rfl⟩
 have hb : Below w.heap.size w W := by rw [hW]; exact Dt.box_below _ _ _
 have HKc : Hid (Kept [(⟨p, 0, none⟩, .int .i64 1), (⟨p, 1, none⟩, .int .i64 1)] w W) := ((Kept.nil_of hb).cons_of (by rw [hW, hp]; go_simp)).cons_of (by rw [hW, hp]; go_simp); have HP := Lib.hid hp; have HW := Lib.hid hW; obtain ⟨tx, htx⟩ : ∃ x : ByteArray, x = ⟨#[97]⟩ := ⟨_, rfl⟩; have HTX := Lib.hid htx; have HE1 : Hid (RightE ⟨1, 1, ⟨#[]⟩, 0⟩) := flag_e (by decide)
 have HKY : Hid (KeyOk tx) := by unfold Hid; rw [htx]; exact (may_iff.1 may_none).2
 have HD := Lib.hid (sadd_any none_ none none 0 0 0 0 tx 1 1 W (LenT.few (by rw [nodes_none]; omega)) (by rw [nodes_none]; omega) (RdT.none _ _ _ _)); clear hp hW hb; have c0 := HKc.out.c0; have c1 := HKc.out.c1; go_enter Tryz.func9, Tryz.ntmps9; go_wp2_with fail; rw [← HP.out, ← HW.out, ← HTX.out]; refine HD.out.mono ?_; rintro e v1 ⟨kx, z, Xe, xe1, xe2, Xk, xk1, xk2, Xc, xc1, xc2, rfl, how, hz, hb9⟩; obtain ⟨rfl, hk1, hna, u, hu, hpv⟩ := hz.out.1 (by rw [htx, may_none, room_none]; rfl)
 have hu0 : OfC [] u := by
  have h := hu; rw [kid_none_at] at h; unfold dl at h; rw [leaves_none] at h; exact h
 obtain rfl : u = [] := hu0.eq of_nil; have RX := Lib.hid (RdP.of_own how.out); have HK1 := Lib.hid hk1
 have HNA : Hid (xc1 ≤ 4) := by have h := hna; rw [nodes_none] at h; exact h
 have HPV := Lib.hid hpv; clear how hz hk1 hna hu hu0 hpv HD htx; have HKc := Lib.hid (HKc.out.later hb9); clear hb9; clear c0 c1; obtain ⟨g, hg⟩ : ∃ g, g = v1.heap.size := ⟨_, rfl⟩; obtain ⟨v2, hv2⟩ : ∃ W, W = v1.alloc (.cells #[.slice Xe xe1 xe2, .slice Xk xk1 xk2, .slice Xc xc1 xc2] 33) := ⟨_, rfl⟩
 have hb9 : Below v1.heap.size v1 v2 := by rw [hv2]; exact Dt.box_below _ _ _
 have b0 : v2.cell? ⟨g, 0, none⟩ = some (.slice Xe xe1 xe2) := by rw [hv2, hg]; go_simp
 have b1 : v2.cell? ⟨g, 1, none⟩ = some (.slice Xk xk1 xk2) := by rw [hv2, hg]; go_simp
 have b2 : v2.cell? ⟨g, 2, none⟩ = some (.slice Xc xc1 xc2) := by rw [hv2, hg]; go_simp
 have HKc := Lib.hid (HKc.out.later hb9); have RX := Lib.hid (RX.out.later hb9); clear hb9; have HKc := Lib.hid (((HKc.out.cons_of b2).cons_of b1).cons_of b0); have Hg := Lib.hid hg; have Hv2 := Lib.hid hv2; clear hg hv2 b0 b1 b2
 have HRK : Hid (RK ((wrapT (oneT ⟨1, 1, ⟨#[]⟩, 0⟩) [tx]), kx.2)) := by
  have h := right_wrapK (e := ⟨1, 1, ⟨#[]⟩, 0⟩) (s := tx) HE1.out HKY.out HPV.out.right (uni_self right_noneC HE1.out.1 HPV.out); exact h
 have HIN : Hid ((Tr.rightB 5 kx.1 && decide (tx ∈ elemsT kx.1)) = true) := by
  unfold Hid; rw [HK1.out, Tr.rightB_iff.2 HRK.out.tree, decide_eq_true (elem_of (d := 4) HRK.out.tree (q := keyE ⟨1, 1, ⟨#[]⟩, 0⟩) (e := ⟨1, 1, ⟨#[]⟩, 0⟩) (by rw [entAt_wrap1, if_pos ⟨rfl, rfl⟩]))]; rfl
 have c0 := HKc.out.c0; have c1 := HKc.out.c1; have c2 := HKc.out.c2; have c3 := HKc.out.c3; have c4 := HKc.out.c4; rw [Hv2.out] at c0 c1 c2 c3 c4; rw [Hg.out] at c0 c1 c2; go_wp2_with fail; rw [← Hg.out, ← Hv2.out]; refine wp_region_held_drew (S := fun W => W.cell? ⟨g, 0, none⟩ = some (.slice Xe xe1 xe2) ∧ W.cell? ⟨g, 1, none⟩ = some (.slice Xk xk1 xk2) ∧ W.cell? ⟨g, 2, none⟩ = some (.slice Xc xc1 xc2) ∧ W.cell? ⟨p, 0, none⟩ = some (.int .i64 1) ∧ W.cell? ⟨p, 1, none⟩ = some (.int .i64 1)) (by kernel_rfl) (by have h9 := HKc.out.drew; exact ⟨h9.c0, h9.c1, h9.c2, h9.c3, h9.c4⟩) (fun hHeld => ?_); obtain ⟨v3, hv3⟩ : ∃ v, v = v2.drew := ⟨_, rfl⟩
 have hb9 : Below v2.heap.size v2 v3 := by rw [hv3]; exact (Below.refl _ _).drew
 have HKc := Lib.hid (HKc.out.later hb9); have RX := Lib.hid (RX.out.later hb9); clear hb9; rw [← hv3] at hHeld ⊢; clear hv3; refine Tk 0 11 ?_; refine Tk 1 12 ?_; refine Tk 2 13 ?_; refine Tk 3 14 ?_; refine Tk 4 15 ?_; refine Tc 5 (fun K hK => ?_); go_simp
 ((try rw [← HTX.out]); go_at_call 23; refine (shas_any kx.1 Xe Xk xe1 xk1 xe2 xk2 tx v3 true HIN.out (LenT.few (by rw [HK1.out, nodes_wrap, nodes_one]; simp)) (by rw [HK1.out, nodes_wrap, nodes_one]; simp) RX.out.tree).mono ?_)
 rintro e v4 ⟨rfl, hb9⟩; have HKc := Lib.hid (HKc.out.later hb9); have RX := Lib.hid (RX.out.later hb9); clear hb9; clear hHeld; refine Th hK ?_ (fun hHeld => ?_)
 ·exact ⟨HKc.out.c0, HKc.out.c1, HKc.out.c2, HKc.out.c3, HKc.out.c4⟩
 clear hK K; refine Tk 6 17 ?_; refine Tk 7 18 ?_; refine Tk 8 19 ?_; refine Tk 10 21 ?_; refine Tk 11 22 ?_; refine Tc 9 (fun K hK => ?_); go_simp; clear hHeld; refine Th hK ?_ (fun hHeld => ?_)
 ·exact ⟨(HKc.out.alloc _).c0, (HKc.out.alloc _).c1, (HKc.out.alloc _).c2, (HKc.out.alloc _).c3, (HKc.out.alloc _).c4⟩
 clear hK K; (try rw [← HTX.out]); obtain ⟨gs, hgs⟩ : ∃ g, g = v4.heap.size := ⟨_, rfl⟩; obtain ⟨v5, hv5⟩ : ∃ W, W = v4.alloc (.cells #[.string tx] 9) := ⟨_, rfl⟩
 have hb9 : Below v4.heap.size v4 v5 := by rw [hv5]; exact Dt.box_below _ _ _
 have HKc := Lib.hid (HKc.out.later hb9); have RX := Lib.hid (RX.out.later hb9); clear hb9
 have RS : Hid (Rd v5 v5.heap.size 1 (some ⟨gs, 0, none⟩) 1 1 (strs [tx])) := by unfold Hid; rw [hv5, hgs]; exact rd_one1 _ _
 (try rw [← hv5] at hHeld); rw [← hv5]; rw [← hgs]; clear hgs hv5; refine Tc 12 (fun K hK => ?_); go_simp; (go_at_call 15; refine (refput_any [tx] (some ⟨gs, 0, none⟩) 1 1 1 1 ⟨#[]⟩ 0 [] kx.2 none 0 0 xc1 v5 rfl RS.out rfl (by omega) (Rd.nil _) right_noneC HE1.out HRK.out.tree (by omega) HPV.out RX.out.len (by have := HNA.out; omega)).mono ?_); rintro e v6 ⟨Ye, ye1, ye2, Yk, yk1, yk2, Yc, yc1, yc2, rfl, how, hb9⟩; have RY := Lib.hid (RdP.of_own how); clear how; have HKc := Lib.hid (HKc.out.later hb9); have RX := Lib.hid (RX.out.later hb9); have RS := Lib.hid (RS.out.later hb9); clear hb9; clear hHeld; refine Th hK ?_ (fun hHeld => ?_)
 ·exact ⟨HKc.out.c0, HKc.out.c1, HKc.out.c2, HKc.out.c3, HKc.out.c4⟩
 clear hK K; refine Tc 13 (fun K hK => ?_); go_simp; (go_at_call 13; refine (refsameK_any kx.1 (wrapT (oneT ⟨1, 1, ⟨#[]⟩, 0⟩) [tx]) kx.2 kx.2 Xe Xk Xc Ye Yk Yc xe1 xk1 xe2 xk2 xc1 xc2 ye1 yk1 ye2 yk2 yc1 yc2 v6 true (decide_eq_true (by rw [HK1.out])) (by rw [HK1.out, nodes_wrap, nodes_one]; simp) RX.out.len (by have := HNA.out; omega) RX.out.tree RX.out.ctx RY.out.len RY.out.tree RY.out.ctx).mono ?_); rintro e v7 ⟨rfl, hb9⟩; have HKc := Lib.hid (HKc.out.later hb9); have RX := Lib.hid (RX.out.later hb9); have RS := Lib.hid (RS.out.later hb9); have RY := Lib.hid (RY.out.later hb9); clear hb9; clear hHeld; refine Th hK ?_ (fun hHeld => ?_)
 ·exact ⟨HKc.out.c0, HKc.out.c1, HKc.out.c2, HKc.out.c3, HKc.out.c4⟩
 clear hK K; refine Tk 14 25 ?_; refine Tk 15 0 ?_; refine wpAnyH_done (by kernel_rfl) ?_ _; clear hHeld; go_wp2_with fail; go_ret; exact ⟨by first | rfl | simp, HKc.out.below⟩
end Cs
end Go.Proofs.YtemilfojnecldaaGreat
