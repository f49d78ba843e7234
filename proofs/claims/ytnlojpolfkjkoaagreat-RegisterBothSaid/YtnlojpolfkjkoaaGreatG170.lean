/- Registers: awake, small; what may be written: the law's. -/
import Derived.Test.YtnlojpolfkjkoaaGreatG00
import Derived.Test.YtnlojpolfkjkoaaGreatG100
import Derived.Test.YtnlojpolfkjkoaaGreatG130
import Derived.Test.YtnlojpolfkjkoaaGreatG140
import Derived.Test.YtnlojpolfkjkoaaGreatDltRef
import Derived.Test.YtnlojpolfkjkoaaGreatSetRef
import Derived.Test.YtnlojpolfkjkoaaGreatG40
import Derived.Test.YtnlojpolfkjkoaaGreatG20
import Derived.Test.YtnlojpolfkjkoaaGreatG120
import Derived.Test.YtnlojpolfkjkoaaGreatCauKit
set_option maxRecDepth 100000
set_option maxHeartbeats 4000000
namespace Go.Proofs.YtnlojpolfkjkoaaGreat
open Go.ChangeShapes Go.WideShapes Go.ChangeAt Go.RowKit
namespace Cs
open Tr Cx Sp Rw Classical
theorem small_tree (t : T) (Ae Ak : Option Addr) (ne nk ce ck : Nat) (w : World) (hl : LenT reachBytes t) (hr : RdT w w.heap.size t ⟨Ae, ne, ce⟩ ⟨Ak, nk, ck⟩) :
  Calls Tryz.prog 8 #[.agg #[.slice Ae ne ce, .slice Ak nk ck]] w fun e w' => ∃ b : Bool, e = .returned (.bool b) ∧ (b = true → nodes t ≤ 60) ∧ Below w.heap.size w w' := by
 obtain ⟨p, hp⟩ : ∃ p, p = w.heap.size := ⟨_, rfl⟩; have HKc := Lib.hid (tree_box w Ae Ak ne nk ce ck); rw [← hp] at HKc; obtain ⟨W, hW⟩ : ∃ W, W = w.alloc (.cells #[.slice Ae ne ce, .slice Ak nk ck] 25) := ⟨_, rfl⟩; rw [← hW] at HKc; have HP := Lib.hid hp; have HW := Lib.hid hW; have HSM := Lib.hid (small_to t Ae Ak ne nk ce ck 60 60 rfl W (by omega) hl (RdT.more HKc.out.below.size _ (RdT.below hr HKc.out.below))); have c0 := HKc.out.c0; have c1 := HKc.out.c1; clear hp hW hl hr; go_enter Tryz.func8, Tryz.ntmps8; go_wp2_with fail; rw [← HP.out, ← HW.out]; refine HSM.out.mono ?_; rintro e v1 ⟨b, rfl, hb, hb9⟩; have HKc := Lib.hid (HKc.out.later hb9); have HB := Lib.hid hb; clear hb9 hb c0 c1 HSM; go_wp2_with fail; go_ret; exact ⟨b, rfl, HB.out, HKc.out.below⟩
theorem isj_nodes {a b x : K} (h : IsJ a b x) : nodes x.1 ≤ nodes a.1 + nodes b.1 := by
 rw [h.tree]; exact joinT_nodes _ _ _ _ _
theorem vals_one {t : T} {e : E} (ht : RightT 5 t) (h : t.es = [e]) : (Tr.rightB 5 t = true → SortIs (t.es.map E.s) [e.s]) ∧ (Tr.rightB 5 t = false → [e.s] = []) := by
 refine ⟨fun _ => ?_, fun h2 => ?_⟩
 ·rw [h]
  exact ⟨by simp, fun x => by simp⟩
 ·rw [Tr.rightB_iff.2 ht] at h2
  cases h2
theorem not_seen {c x y r : K} {q : Int × Int} (h : ∀ p q, Cs.st r p q = mx (Cs.st c p q) (mx (Cs.st x p q) (Cs.st y p q))) (h1 : hasC c.2 q.1 q.2 = false) (h2 : hasC x.2 q.1 q.2 = false) (h3 : hasC y.2 q.1 q.2 = false) : hasC r.2 q.1 q.2 = false := by
 cases h4 : hasC r.2 q.1 q.2 with
 | false => rfl
 | true =>
  have h5 := h [] q; rw [st_unknown h1, st_unknown h2, st_unknown h3, st_some h4] at h5
  cases h5
theorem rd_cells2 {W : World} {q o c : Nat} {s0 s1 : ByteArray} (hc : 2 ≤ c) (hq : q < W.heap.size) (h0 : W.cell? ⟨q, o, none⟩ = some (.string s0)) (h1 : W.cell? ⟨q, o + 1, none⟩ = some (.string s1)) : Rd W W.heap.size 1 (some ⟨q, o, none⟩) 2 c (strs [s0, s1]) := by
 refine ⟨rfl, hc, fun u hu => ?_, fun _ => ⟨q, o, rfl, hq, fun j u hu => ?_⟩⟩
 ·simp [Tr.strs] at hu
  rcases hu with rfl | rfl <;> rfl
 ·match j with
  | 0 => simp [Tr.strs] at hu; rw [← hu]; exact h0
  | 1 => simp [Tr.strs] at hu; rw [← hu]; exact h1
  | j + 2 => simp [Tr.strs] at hu
theorem rd_cells1 {W : World} {q o c : Nat} {s0 : ByteArray} (hc : 1 ≤ c) (hq : q < W.heap.size) (h0 : W.cell? ⟨q, o, none⟩ = some (.string s0)) : Rd W W.heap.size 1 (some ⟨q, o, none⟩) 1 c (strs [s0]) := by
 refine ⟨rfl, hc, fun u hu => ?_, fun _ => ⟨q, o, rfl, hq, fun j u hu => ?_⟩⟩
 ·simp [Tr.strs] at hu
  subst hu; rfl
 ·match j with
  | 0 => simp [Tr.strs] at hu; rw [← hu]; exact h0
  | j + 1 => simp [Tr.strs] at hu
theorem rmay_any (t : T) (Ae Ak : Option Addr) (ne nk ce ck : Nat) (s : ByteArray) (a n : Int) (w : World) (z : Bool) (hz : wB t s a n = z) (hl : LenT reachBytes t) (hn : nodes t ≤ 1000) (hr : RdT w w.heap.size t ⟨Ae, ne, ce⟩ ⟨Ak, nk, ck⟩) :
  Calls Tryz.prog 10 #[.agg #[.slice Ae ne ce, .slice Ak nk ck], .string s, .agg #[.int .i64 a, .int .i64 n]] w fun e w' => e = .returned (.bool z) ∧ Below w.heap.size w w' := by
 obtain ⟨W, p, q, HW, HP, HQ, HKc⟩ := boxTD w Ae Ak ne nk ce ck a n; obtain ⟨y, hy⟩ : ∃ y, checkB t a n = y := ⟨_, rfl⟩; obtain ⟨x, hx⟩ : ∃ x, decide (s.size ≤ 30) = x := ⟨_, rfl⟩; have HD := Lib.hid (refcheck_any t Ae Ak ne nk ce ck a n W y hy hl hn (RdT.more HKc.out.below.size _ (RdT.below hr HKc.out.below)))
 have HZ : Hid ((y && x) = z) := by unfold Hid; rw [← hy, ← hx]; exact hz
 have f1 : decide ((s.size : Int) ≤ 30) = x := by rw [← hx]; exact decide_eq_decide.2 (by omega)
 clear hl hn hr hz hy hx; have c0 := HKc.out.c0; have c1 := HKc.out.c1; have c2 := HKc.out.c2; have c3 := HKc.out.c3; go_enter Tryz.func10, Tryz.ntmps10; go_wp2_with fail; rw [← HP.out, ← HW.out]
 try rw [← HQ.out]
 refine HD.out.mono ?_; rintro e v1 ⟨rfl, hb9⟩; have HKc := Lib.hid (HKc.out.later hb9); clear hb9 HD c0 c1 c2 c3
 cases y with
 | false =>
  obtain rfl : z = false := by rw [← HZ.out]; rfl
  go_wp2_with fail; go_ret; exact ⟨rfl, HKc.out.below⟩
 | true =>
  obtain rfl : z = x := by rw [← HZ.out]; rfl
  go_wp2_with fail; go_ret; exact ⟨rfl, HKc.out.below⟩
theorem wB_none : wB none_ ⟨#[118]⟩ 1 1 = true := wB_iff.2 ⟨check_none, by show _ ≤ _; decide⟩
theorem awake13 (w : World) : Calls Tryz.prog 7 #[] w fun e w' => e = .returned (.bool true) ∧ Below w.heap.size w w' := by
 obtain ⟨p, hp⟩ : ∃ p, p = w.heap.size := ⟨_, rfl⟩; obtain ⟨W, hW⟩ : ∃ W, W = w.alloc (.cells #[.int .i64 1, .int .i64 1] 27) := ⟨_, rfl⟩
 have hb : Below w.heap.size w W := by rw [hW]; exact Dt.box_below _ _ _
 have HKc : Hid (Kept [(⟨p, 0, none⟩, .int .i64 1), (⟨p, 1, none⟩, .int .i64 1)] w W) := ((Kept.nil_of hb).cons_of (by rw [hW, hp]; go_simp)).cons_of (by rw [hW, hp]; go_simp); have HP := Lib.hid hp; have HW := Lib.hid hW; obtain ⟨tx, htx⟩ : ∃ x : ByteArray, x = ⟨#[118]⟩ := ⟨_, rfl⟩; have HTX := Lib.hid htx; have HE : Hid (RightE ⟨1, 1, tx, 0⟩) := text_e (by decide) (by rw [htx]; exact (wB_iff.1 wB_none).2); have HD := Lib.hid (rwrite_any none_ none none 0 0 0 0 tx 1 1 W (LenT.few (by rw [nodes_none]; omega)) (by rw [nodes_none]; omega) (RdT.none _ _ _ _)); clear hp hW hb; have c0 := HKc.out.c0; have c1 := HKc.out.c1; go_enter Tryz.func7, Tryz.ntmps7; go_wp2_with fail; rw [← HP.out, ← HW.out, ← HTX.out]; refine HD.out.mono ?_; rintro e v1 ⟨kx, z, Xe, xe1, xe2, Xk, xk1, xk2, Xc, xc1, xc2, rfl, how, hz, hb9⟩; obtain ⟨rfl, hk1, hna, u, hu, hpv⟩ := hz.out.1 (by rw [htx]; exact wB_none)
 have hu0 : OfC [] u := hu; obtain rfl : u = [] := hu0.eq of_nil; have RX := Lib.hid (RdP.of_own how.out); have HK1 := Lib.hid hk1
 have HNA : Hid (xc1 ≤ 4) := by have h := hna; rw [nodes_none] at h; exact h
 have HPV := Lib.hid hpv; clear how hz hk1 hna hu hu0 hpv HD htx; have HKc := Lib.hid (HKc.out.later hb9); clear hb9; clear c0 c1; obtain ⟨g, hg⟩ : ∃ g, g = v1.heap.size := ⟨_, rfl⟩; obtain ⟨v2, hv2⟩ : ∃ W, W = v1.alloc (.cells #[.slice Xe xe1 xe2, .slice Xk xk1 xk2, .slice Xc xc1 xc2] 33) := ⟨_, rfl⟩
 have hb9 : Below v1.heap.size v1 v2 := by rw [hv2]; exact Dt.box_below _ _ _
 have b0 : v2.cell? ⟨g, 0, none⟩ = some (.slice Xe xe1 xe2) := by rw [hv2, hg]; go_simp
 have b1 : v2.cell? ⟨g, 1, none⟩ = some (.slice Xk xk1 xk2) := by rw [hv2, hg]; go_simp
 have b2 : v2.cell? ⟨g, 2, none⟩ = some (.slice Xc xc1 xc2) := by rw [hv2, hg]; go_simp
 have HKc := Lib.hid (HKc.out.later hb9); have RX := Lib.hid (RX.out.later hb9); clear hb9; have HKc := Lib.hid (((HKc.out.cons_of b2).cons_of b1).cons_of b0); have Hg := Lib.hid hg; have Hv2 := Lib.hid hv2; clear hg hv2 b0 b1 b2; have HVM := Lib.hid (vals_one (t := kx.1) (e := ⟨1, 1, tx, 0⟩) (by rw [HK1.out]; exact right_oneT (d := 4) HE.out) (by rw [HK1.out]; rfl))
 have HNN : Hid (nodes kx.1 = 1) := by unfold Hid; rw [HK1.out, nodes_one]
 have c0 := HKc.out.c0; have c1 := HKc.out.c1; have c2 := HKc.out.c2; have c3 := HKc.out.c3; have c4 := HKc.out.c4; rw [Hv2.out] at c0 c1 c2 c3 c4; rw [Hg.out] at c0 c1 c2; go_wp2_with fail; rw [← Hg.out, ← Hv2.out]; refine wp_region_held_drew (S := fun W => W.cell? ⟨g, 0, none⟩ = some (.slice Xe xe1 xe2) ∧ W.cell? ⟨g, 1, none⟩ = some (.slice Xk xk1 xk2) ∧ W.cell? ⟨g, 2, none⟩ = some (.slice Xc xc1 xc2) ∧ W.cell? ⟨p, 0, none⟩ = some (.int .i64 1) ∧ W.cell? ⟨p, 1, none⟩ = some (.int .i64 1)) (by kernel_rfl) (by have h9 := HKc.out.drew; exact ⟨h9.c0, h9.c1, h9.c2, h9.c3, h9.c4⟩) (fun hHeld => ?_); obtain ⟨v3, hv3⟩ : ∃ v, v = v2.drew := ⟨_, rfl⟩
 have hb9 : Below v2.heap.size v2 v3 := by rw [hv3]; exact (Below.refl _ _).drew
 have HKc := Lib.hid (HKc.out.later hb9); have RX := Lib.hid (RX.out.later hb9); clear hb9; rw [← hv3] at hHeld ⊢; clear hv3; refine Tk 0 11 ?_; refine Tk 1 12 ?_; refine Tk 2 13 ?_; refine Tk 3 14 ?_; refine Tk 4 15 ?_; refine wpAnyH_ready (rs := [5, 6]) (by kernel_rfl) (by simp) ?_; refine AllReadyH.cons (o := ⟨some 16, _, _, _, _, _⟩) rfl (fun K hK => ?_) (AllReadyH.cons (o := ⟨some 17, _, _, _, _, _⟩) rfl (fun K hK => ?_) (AllReadyH.nil))
 ·go_simp
  ((try rw [← HTX.out]); go_at_call 17; refine (rvalues_any kx.1 Xe Xk xe1 xk1 xe2 xk2 v3 [tx] 1 HVM.out rfl (LenT.few (by rw [HNN.out]; omega)) (by rw [HNN.out]; omega) RX.out.tree).mono ?_)
  rintro e v4 ⟨Vl, vc, rfl, hro, hb9⟩; have RV := hro; clear hro; have HKc := Lib.hid (HKc.out.later hb9); have RX := Lib.hid (RX.out.later hb9); clear hb9; clear hHeld; refine Th hK ?_ (fun hHeld => ?_)
  ·exact ⟨HKc.out.c0, HKc.out.c1, HKc.out.c2, HKc.out.c3, HKc.out.c4⟩
  clear hK K; refine Tc 6 (fun K hK => ?_); go_simp; clear hHeld; refine Th hK ?_ (fun hHeld => ?_)
  ·exact ⟨(HKc.out.alloc _).c0, (HKc.out.alloc _).c1, (HKc.out.alloc _).c2, (HKc.out.alloc _).c3, (HKc.out.alloc _).c4⟩
  clear hK K; (try rw [← HTX.out]); obtain ⟨gs, hgs⟩ : ∃ g, g = v4.heap.size := ⟨_, rfl⟩; obtain ⟨v5, hv5⟩ : ∃ W, W = v4.alloc (.cells #[.string tx] 9) := ⟨_, rfl⟩
  have hb9 : Below v4.heap.size v4 v5 := by rw [hv5]; exact Dt.box_below _ _ _
  have HKc := Lib.hid (HKc.out.later hb9); have RX := Lib.hid (RX.out.later hb9); have RV := Lib.hid (RV.out.later hb9); clear hb9
  have RS : Hid (Rd v5 v5.heap.size 1 (some ⟨gs, 0, none⟩) 1 1 (strs [tx])) := by unfold Hid; rw [hv5, hgs]; exact rd_one1 _ _
  (try rw [← hv5] at hHeld); rw [← hv5]; rw [← hgs]; clear hgs hv5; refine Tc 7 (fun K hK => ?_); go_simp; (go_at_call 16; refine (refalike_any [tx] [tx] 1 1 Vl (some ⟨gs, 0, none⟩) vc 1 v5 (by omega) RV.out RS.out true (decide_eq_true rfl)).mono ?_); rintro e v6 ⟨rfl, hb9⟩; have HKc := Lib.hid (HKc.out.later hb9); have RX := Lib.hid (RX.out.later hb9); have RV := Lib.hid (RV.out.later hb9); have RS := Lib.hid (RS.out.later hb9); clear hb9; clear hHeld; refine Th hK ?_ (fun hHeld => ?_)
  ·exact ⟨HKc.out.c0, HKc.out.c1, HKc.out.c2, HKc.out.c3, HKc.out.c4⟩
  clear hK K; refine Tk 8 19 ?_; refine Tk 9 20 ?_; refine Tk 10 21 ?_; refine Tk 11 22 ?_; refine Tk 12 23 ?_; refine Tc 13 (fun K hK => ?_); go_simp
  ((try rw [← HTX.out]); go_at_call 12; refine (refput_any [] none 0 0 1 1 tx 0 [] kx.2 none 0 0 xc1 v6 rfl (Rd.nil _) rfl (by omega) (Rd.nil _) right_noneC HE.out (right_oneT (d := 4) HE.out) (by omega) HPV.out RX.out.len (by have := HNA.out; omega)).mono ?_)
  rintro e v7 ⟨Ye, ye1, ye2, Yk, yk1, yk2, Yc, yc1, yc2, rfl, how, hb9⟩; have RY := Lib.hid (RdP.of_own how); clear how; have HKc := Lib.hid (HKc.out.later hb9); have RX := Lib.hid (RX.out.later hb9); have RV := Lib.hid (RV.out.later hb9); have RS := Lib.hid (RS.out.later hb9); clear hb9; clear hHeld; refine Th hK ?_ (fun hHeld => ?_)
  ·exact ⟨HKc.out.c0, HKc.out.c1, HKc.out.c2, HKc.out.c3, HKc.out.c4⟩
  clear hK K; refine Tc 14 (fun K hK => ?_); go_simp; (go_at_call 11; refine (refsameK_any kx.1 (wrapT (oneT ⟨1, 1, tx, 0⟩) []) kx.2 kx.2 Xe Xk Xc Ye Yk Yc xe1 xk1 xe2 xk2 xc1 xc2 ye1 yk1 ye2 yk2 yc1 yc2 v7 true (decide_eq_true (by rw [HK1.out]; rfl)) (by rw [HNN.out]; omega) RX.out.len (by have := HNA.out; omega) RX.out.tree RX.out.ctx RY.out.len RY.out.tree RY.out.ctx).mono ?_); rintro e v8 ⟨rfl, hb9⟩; have HKc := Lib.hid (HKc.out.later hb9); have RX := Lib.hid (RX.out.later hb9); have RV := Lib.hid (RV.out.later hb9); have RS := Lib.hid (RS.out.later hb9); have RY := Lib.hid (RY.out.later hb9); clear hb9; clear hHeld; refine Th hK ?_ (fun hHeld => ?_)
  ·exact ⟨HKc.out.c0, HKc.out.c1, HKc.out.c2, HKc.out.c3, HKc.out.c4⟩
  clear hK K; refine Tk 15 26 ?_; refine Tk 16 0 ?_; refine wpAnyH_done (by kernel_rfl) ?_ _; clear hHeld; go_wp2_with fail; go_ret; exact ⟨by first | rfl | simp, HKc.out.below⟩
 ·go_simp
  clear hHeld; refine Th hK ?_ (fun hHeld => ?_)
  ·exact ⟨(HKc.out.alloc _).c0, (HKc.out.alloc _).c1, (HKc.out.alloc _).c2, (HKc.out.alloc _).c3, (HKc.out.alloc _).c4⟩
  clear hK K; (try rw [← HTX.out]); obtain ⟨gs, hgs⟩ : ∃ g, g = v3.heap.size := ⟨_, rfl⟩; obtain ⟨v4, hv4⟩ : ∃ W, W = v3.alloc (.cells #[.string tx] 9) := ⟨_, rfl⟩
  have hb9 : Below v3.heap.size v3 v4 := by rw [hv4]; exact Dt.box_below _ _ _
  have HKc := Lib.hid (HKc.out.later hb9); have RX := Lib.hid (RX.out.later hb9); clear hb9
  have RS : Hid (Rd v4 v4.heap.size 1 (some ⟨gs, 0, none⟩) 1 1 (strs [tx])) := by unfold Hid; rw [hv4, hgs]; exact rd_one1 _ _
  (try rw [← hv4] at hHeld); rw [← hv4]; rw [← hgs]; clear hgs hv4; refine Tc 5 (fun K hK => ?_); go_simp
  ((try rw [← HTX.out]); go_at_call 17; refine (rvalues_any kx.1 Xe Xk xe1 xk1 xe2 xk2 v4 [tx] 1 HVM.out rfl (LenT.few (by rw [HNN.out]; omega)) (by rw [HNN.out]; omega) RX.out.tree).mono ?_)
  rintro e v5 ⟨Vl, vc, rfl, hro, hb9⟩; have RV := hro; clear hro; have HKc := Lib.hid (HKc.out.later hb9); have RX := Lib.hid (RX.out.later hb9); have RS := Lib.hid (RS.out.later hb9); clear hb9; clear hHeld; refine Th hK ?_ (fun hHeld => ?_)
  ·exact ⟨HKc.out.c0, HKc.out.c1, HKc.out.c2, HKc.out.c3, HKc.out.c4⟩
  clear hK K; refine Tc 7 (fun K hK => ?_); go_simp; (go_at_call 16; refine (refalike_any [tx] [tx] 1 1 Vl (some ⟨gs, 0, none⟩) vc 1 v5 (by omega) RV.out RS.out true (decide_eq_true rfl)).mono ?_); rintro e v6 ⟨rfl, hb9⟩; have HKc := Lib.hid (HKc.out.later hb9); have RX := Lib.hid (RX.out.later hb9); have RS := Lib.hid (RS.out.later hb9); have RV := Lib.hid (RV.out.later hb9); clear hb9; clear hHeld; refine Th hK ?_ (fun hHeld => ?_)
  ·exact ⟨HKc.out.c0, HKc.out.c1, HKc.out.c2, HKc.out.c3, HKc.out.c4⟩
  clear hK K; refine Tk 8 19 ?_; refine Tk 9 20 ?_; refine Tk 10 21 ?_; refine Tk 11 22 ?_; refine Tk 12 23 ?_; refine Tc 13 (fun K hK => ?_); go_simp
  ((try rw [← HTX.out]); go_at_call 12; refine (refput_any [] none 0 0 1 1 tx 0 [] kx.2 none 0 0 xc1 v6 rfl (Rd.nil _) rfl (by omega) (Rd.nil _) right_noneC HE.out (right_oneT (d := 4) HE.out) (by omega) HPV.out RX.out.len (by have := HNA.out; omega)).mono ?_)
  rintro e v7 ⟨Ye, ye1, ye2, Yk, yk1, yk2, Yc, yc1, yc2, rfl, how, hb9⟩; have RY := Lib.hid (RdP.of_own how); clear how; have HKc := Lib.hid (HKc.out.later hb9); have RX := Lib.hid (RX.out.later hb9); have RS := Lib.hid (RS.out.later hb9); have RV := Lib.hid (RV.out.later hb9); clear hb9; clear hHeld; refine Th hK ?_ (fun hHeld => ?_)
  ·exact ⟨HKc.out.c0, HKc.out.c1, HKc.out.c2, HKc.out.c3, HKc.out.c4⟩
  clear hK K; refine Tc 14 (fun K hK => ?_); go_simp; (go_at_call 11; refine (refsameK_any kx.1 (wrapT (oneT ⟨1, 1, tx, 0⟩) []) kx.2 kx.2 Xe Xk Xc Ye Yk Yc xe1 xk1 xe2 xk2 xc1 xc2 ye1 yk1 ye2 yk2 yc1 yc2 v7 true (decide_eq_true (by rw [HK1.out]; rfl)) (by rw [HNN.out]; omega) RX.out.len (by have := HNA.out; omega) RX.out.tree RX.out.ctx RY.out.len RY.out.tree RY.out.ctx).mono ?_); rintro e v8 ⟨rfl, hb9⟩; have HKc := Lib.hid (HKc.out.later hb9); have RX := Lib.hid (RX.out.later hb9); have RS := Lib.hid (RS.out.later hb9); have RV := Lib.hid (RV.out.later hb9); have RY := Lib.hid (RY.out.later hb9); clear hb9; clear hHeld; refine Th hK ?_ (fun hHeld => ?_)
  ·exact ⟨HKc.out.c0, HKc.out.c1, HKc.out.c2, HKc.out.c3, HKc.out.c4⟩
  clear hK K; refine Tk 15 26 ?_; refine Tk 16 0 ?_; refine wpAnyH_done (by kernel_rfl) ?_ _; clear hHeld; go_wp2_with fail; go_ret; exact ⟨by first | rfl | simp, HKc.out.below⟩
end Cs
end Go.Proofs.YtnlojpolfkjkoaaGreat
