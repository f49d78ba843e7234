/- CausalOnly: a law of layer 9, walked, and proved. -/
import Derived.Test.YtcbclefemcmhpaaGreatG00
import Derived.Test.YtcbclefemcmhpaaGreatG120
import Derived.Test.YtcbclefemcmhpaaGreatCauKit
import Derived.Test.YtcbclefemcmhpaaGreatTreeOnlyRef
open Go.ChangeShapes Go.WideShapes Go.ChangeAt Go.RowKit
namespace Go.Proofs.YtcbclefemcmhpaaGreat
namespace lawCausalOnly
open Tr Cx Cs Sp Rw Classical
theorem nodes_only (l : List ByteArray) (t : T) : nodes (onlyT l t) ≤ nodes t := by
 have e : nodes t = t.es.length + t.ks.length + (t.ks.map fun k => nodes k.2).sum := by
  conv => lhs; rw [← T.eta t]
  exact nodes_mk _ _
 unfold onlyT
 rw [nodes_mk, e]
 have h1 := keep_sum (fun k => inB l k == true) t.ks
 have h2 : (keepK (fun k => inB l k == true) t.ks).length ≤ t.ks.length := List.length_filter_le _ _
 simp only [List.length_nil]
 omega
theorem boxL (w : World) (Ae Ak Ac : Option Addr) (ae1 ak1 ae2 ak2 ac1 ac2 : Nat) : ∃ (W : World) (p : Nat), Hid (W = (w.alloc (.cells #[.slice Ae ae1 ae2, .slice Ak ak1 ak2, .slice Ac ac1 ac2] 29))) ∧ Hid (p = w.heap.size) ∧  Hid (Kept [(⟨p, 0, none⟩, .slice Ae ae1 ae2), (⟨p, 1, none⟩, .slice Ak ak1 ak2), (⟨p, 2, none⟩, .slice Ac ac1 ac2)] w W) := by
 refine ⟨_, _, rfl, rfl, ?_⟩
 have h0 := Kept.nil_of (show Below w.heap.size w ((w.alloc (.cells #[.slice Ae ae1 ae2, .slice Ak ak1 ak2, .slice Ac ac1 ac2] 29))) from (Below.refl _ _).alloc (Nat.le_refl _) _)
 refine (((h0).cons_of ?_).cons_of ?_).cons_of ?_ <;> go_simp
set_option maxRecDepth 100000 in
set_option maxHeartbeats 4000000 in
theorem walk_any (ta : T) (sa : List S3) (Ae Ak Ac : Option Addr) (ae1 ak1 ae2 ak2 ac1 ac2 : Nat) (l : List ByteArray) (nl : Nat) (Al : Option Addr) (cl : Nat)  (w : World) (hra : RdP w ⟨(ta, sa), ⟨Ae, ae1, ae2⟩, ⟨Ak, ak1, ak2⟩, ⟨Ac, ac1, ac2⟩⟩) (hla : LenT reachBytes ta) (hnl : l.length = nl) (hsl : Rd w w.heap.size 1 Al nl cl (Tr.strs l))  :
  Calls Tryz.prog 10 #[.agg #[.slice Ae ae1 ae2, .slice Ak ak1 ak2, .slice Ac ac1 ac2], .slice Al nl cl] w fun e w' => e = .returned (.bool true) ∧ Below w.heap.size w w' := by
 obtain ⟨W, p, HW, HP,  HKc⟩ := boxL w Ae Ak Ac ae1 ak1 ae2 ak2 ac1 ac2
 have Ra := Lib.hid (hra.later HKc.out.below)
 have La := Lib.hid hla
 clear hra hla
 have Rl := Lib.hid (hsl.later HKc.out.below)
 have HNl := Lib.hid hnl
 clear hsl hnl
 have c0 := HKc.out.c0
 have c1 := HKc.out.c1
 have c2 := HKc.out.c2
 go_enter Tryz.func10, Tryz.ntmps10
 go_wp2_with fail
 rw [← HW.out, ← HP.out]
 refine (awake_any W).mono ?_
 rintro e v1 ⟨rfl, hb9⟩
 have Ra := Lib.hid (Ra.out.later hb9)
 have Rl := Lib.hid (Rl.out.later hb9)
 have HKc := Lib.hid (HKc.out.later hb9)
 clear hb9
 clear c0 c1 c2
 have c0 := HKc.out.c0
 have c1 := HKc.out.c1
 have c2 := HKc.out.c2
 obtain ⟨g2, hg2⟩ : ∃ g, g = v1.heap.size := ⟨_, rfl⟩
 obtain ⟨v2, hv2⟩ : ∃ W, W = v1.alloc (.cells #[.slice Ae ae1 ae2, .slice Ak ak1 ak2, .slice Ac ac1 ac2] 29) := ⟨_, rfl⟩
 have hb9 : Below v1.heap.size v1 v2 := by rw [hv2]; exact Dt.box_below _ _ _
 have HCP : Hid (CellsP v2 g2 [⟨(ta, sa), ⟨Ae, ae1, ae2⟩, ⟨Ak, ak1, ak2⟩, ⟨Ac, ac1, ac2⟩⟩]) := by
  intro k hk
  simp at hk
  rcases (by omega : k = 0) with rfl <;> refine ⟨?_, ?_, ?_⟩ <;> (rw [hv2, hg2]; go_simp)
 have Hg2 := Lib.hid hg2
 have Hv2 := Lib.hid hv2
 clear hg2 hv2
 have Ra := Lib.hid (Ra.out.later hb9)
 have Rl := Lib.hid (Rl.out.later hb9)
 have HKc := Lib.hid (HKc.out.later hb9)
 clear hb9
 have HPS : Hid (∀ p ∈ ([⟨(ta, sa), ⟨Ae, ae1, ae2⟩, ⟨Ak, ak1, ak2⟩, ⟨Ac, ac1, ac2⟩⟩] : List CP), RdP v2 p) := by
  intro p hp
  simp at hp
  rcases hp with rfl
  ·exact Ra.out
 have HLT : Hid (∀ p ∈ ([⟨(ta, sa), ⟨Ae, ae1, ae2⟩, ⟨Ak, ak1, ak2⟩, ⟨Ac, ac1, ac2⟩⟩] : List CP), LenT reachBytes p.k.1) := by
  intro p hp
  simp at hp
  rcases hp with rfl
  ·exact La.out
 have HSM := Lib.hid (small_any9 [⟨(ta, sa), ⟨Ae, ae1, ae2⟩, ⟨Ak, ak1, ak2⟩, ⟨Ac, ac1, ac2⟩⟩] 1 g2 1 v2 rfl (by omega) HCP.out HPS.out HLT.out)
 clear HCP HPS HLT
 go_wp2_with fail
 rw [← Hv2.out, ← Hg2.out]
 refine HSM.out.mono ?_
 rintro e v3 ⟨b, rfl, hsm, hb9⟩
 have Ra := Lib.hid (Ra.out.later hb9)
 have Rl := Lib.hid (Rl.out.later hb9)
 have HKc := Lib.hid (HKc.out.later hb9)
 clear hb9
 clear c0 c1 c2 HSM
 cases b with
 | false =>
  clear hsm
  go_wp2_with fail
  refine (awake_any _).mono ?_
  rintro e v9 ⟨rfl, hb9⟩
  have HKc := Lib.hid (HKc.out.later hb9)
  clear hb9
  go_wp2_with fail
  go_ret
  exact ⟨rfl, HKc.out.below⟩
 | true =>
  have hsa := hsm rfl ⟨(ta, sa), ⟨Ae, ae1, ae2⟩, ⟨Ak, ak1, ak2⟩, ⟨Ac, ac1, ac2⟩⟩ (by simp)
  have Na : Hid (nodes ta ≤ 40) := hsa.1
  have Qa : Hid (ac1 ≤ 40) := hsa.2
  clear hsm hsa
  have c0 := HKc.out.c0
  have c1 := HKc.out.c1
  have c2 := HKc.out.c2
  by_cases hk20 : nl ≤ 20
  ·have f20 : decide ((20 : Int) < (nl : Int)) = false := decide_eq_false (by omega)
   obtain ⟨zr, hzr⟩ : ∃ z, rightKB (ta, sa) = z := ⟨_, rfl⟩
   obtain ⟨kx, hkx⟩ : ∃ k, (if zr = true then (onlyT l ta, sa) else noneK) = k := ⟨_, rfl⟩
   obtain ⟨er, her⟩ : ∃ z : Int, (if zr = true then 0 else 1) = z := ⟨_, rfl⟩
   have HON := Lib.hid (onlyK_any ta sa Ae Ak Ac ae1 ak1 ae2 ak2 ac1 ac2 v3 l Al nl cl HNl.out (by omega) Rl.out (by have := Na.out; omega) Ra.out.len (by have := Qa.out; omega) Ra.out.tree Ra.out.ctx)
   rw [hzr, hkx, her] at HON
   have HZR := Lib.hid hzr
   have HKX := Lib.hid hkx
   have HER := Lib.hid her
   clear hzr hkx her
   go_wp2_with fail
   refine HON.out.mono ?_
   rintro e v4 ⟨Xe, xe1, xe2, Xk, xk1, xk2, Xc, xc1, xc2, rfl, how, hb9⟩
   have Rx := Lib.hid (RdP.of_own how)
   clear HON how
   have Ra := Lib.hid (Ra.out.later hb9)
   have Rl := Lib.hid (Rl.out.later hb9)
   have HKc := Lib.hid (HKc.out.later hb9)
   clear hb9
   obtain ⟨gx, hgx⟩ : ∃ g, g = v4.heap.size := ⟨_, rfl⟩
   obtain ⟨v5, hv5⟩ : ∃ W, W = v4.alloc (.cells #[.slice Xe xe1 xe2, .slice Xk xk1 xk2, .slice Xc xc1 xc2] 29) := ⟨_, rfl⟩
   have hb9 : Below v4.heap.size v4 v5 := by rw [hv5]; exact Dt.box_below _ _ _
   have e0 : v5.cell? ⟨gx, 0, none⟩ = some (.slice Xe xe1 xe2) := by rw [hv5, hgx]; go_simp
   have e1 : v5.cell? ⟨gx, 1, none⟩ = some (.slice Xk xk1 xk2) := by rw [hv5, hgx]; go_simp
   have e2 : v5.cell? ⟨gx, 2, none⟩ = some (.slice Xc xc1 xc2) := by rw [hv5, hgx]; go_simp
   have Hgx := Lib.hid hgx
   have Hv5 := Lib.hid hv5
   have Ra := Lib.hid (Ra.out.later hb9)
   have Rl := Lib.hid (Rl.out.later hb9)
   have Rx := Lib.hid (Rx.out.later hb9)
   have HKc := Lib.hid (HKc.out.later hb9)
   clear hb9
   have HKc : Hid (Kept [(⟨gx, 0, none⟩, .slice Xe xe1 xe2), (⟨gx, 1, none⟩, .slice Xk xk1 xk2), (⟨gx, 2, none⟩, .slice Xc xc1 xc2), (⟨p, 0, none⟩, .slice Ae ae1 ae2), (⟨p, 1, none⟩, .slice Ak ak1 ak2), (⟨p, 2, none⟩, .slice Ac ac1 ac2)] w v5) := (((HKc.out.cons_of e2).cons_of e1).cons_of e0)
   clear hgx hv5 e0 e1 e2
   clear c0 c1 c2
   have c0 := HKc.out.c0
   have c1 := HKc.out.c1
   have c2 := HKc.out.c2
   have c3 := HKc.out.c3
   have c4 := HKc.out.c4
   have c5 := HKc.out.c5
   rw [Hv5.out] at c0 c1 c2 c3 c4 c5
   rw [Hgx.out] at c0 c1 c2
   obtain ⟨g6, hg6⟩ : ∃ g, g = v5.heap.size := ⟨_, rfl⟩
   obtain ⟨v6, hv6⟩ : ∃ W, W = v5.alloc (.cells #[.slice Ae ae1 ae2, .slice Ak ak1 ak2, .slice Ac ac1 ac2] 29) := ⟨_, rfl⟩
   have hb9 : Below v5.heap.size v5 v6 := by rw [hv6]; exact Dt.box_below _ _ _
   have HCP : Hid (CellsP v6 g6 [⟨(ta, sa), ⟨Ae, ae1, ae2⟩, ⟨Ak, ak1, ak2⟩, ⟨Ac, ac1, ac2⟩⟩]) := by
    intro k hk
    simp at hk
    rcases (by omega : k = 0) with rfl <;> refine ⟨?_, ?_, ?_⟩ <;> (rw [hv6, hg6]; go_simp)
   have Hg6 := Lib.hid hg6
   have Hv6 := Lib.hid hv6
   clear hg6 hv6
   have Ra := Lib.hid (Ra.out.later hb9)
   have Rl := Lib.hid (Rl.out.later hb9)
   have Rx := Lib.hid (Rx.out.later hb9)
   have HKc := Lib.hid (HKc.out.later hb9)
   clear hb9
   have HPS : Hid (∀ p ∈ ([⟨(ta, sa), ⟨Ae, ae1, ae2⟩, ⟨Ak, ak1, ak2⟩, ⟨Ac, ac1, ac2⟩⟩] : List CP), RdP v6 p) := by
    intro p hp
    simp at hp
    rcases hp with rfl
    ·exact Ra.out
   have HLT : Hid (∀ p ∈ ([⟨(ta, sa), ⟨Ae, ae1, ae2⟩, ⟨Ak, ak1, ak2⟩, ⟨Ac, ac1, ac2⟩⟩] : List CP), nodes p.k.1 ≤ 200 ∧ p.c.n ≤ 1000) := by
    intro p hp
    simp at hp
    rcases hp with rfl
    exact ⟨by have := Na.out; show nodes ta ≤ 200; omega, by have := Qa.out; show ac1 ≤ 1000; omega⟩
   obtain ⟨z, hz⟩ : ∃ z, ([⟨(ta, sa), ⟨Ae, ae1, ae2⟩, ⟨Ak, ak1, ak2⟩, ⟨Ac, ac1, ac2⟩⟩] : List CP).all (fun p => rightKB p.k) = z := ⟨_, rfl⟩
   have HRT := Lib.hid (right_any9 [⟨(ta, sa), ⟨Ae, ae1, ae2⟩, ⟨Ak, ak1, ak2⟩, ⟨Ac, ac1, ac2⟩⟩] 1 g6 1 v6 rfl (by omega) HCP.out HPS.out HLT.out z hz)
   obtain rfl : zr = z := by rw [← hz, ← HZR.out]; simp
   clear HCP HPS HLT hz
   go_wp2_with fail
   rw [← Hv5.out, ← Hv6.out, show v4.heap.size + 1 = g6 from by rw [Hg6.out, Hv5.out]; simp, ← Hgx.out]
   refine HRT.out.mono ?_
   rintro e v7 ⟨rfl, hb9⟩
   have Ra := Lib.hid (Ra.out.later hb9)
   have Rl := Lib.hid (Rl.out.later hb9)
   have Rx := Lib.hid (Rx.out.later hb9)
   have HKc := Lib.hid (HKc.out.later hb9)
   clear hb9
   clear c0 c1 c2 c3 c4 c5 HRT
   have c0 := HKc.out.c0
   have c1 := HKc.out.c1
   have c2 := HKc.out.c2
   have c3 := HKc.out.c3
   have c4 := HKc.out.c4
   have c5 := HKc.out.c5
   cases zr with
   | false =>
    obtain rfl : kx = noneK := HKX.out.symm
    obtain rfl : er = 1 := HER.out.symm
    have HSM := Lib.hid (refsameK_any noneK.1 none_ noneK.2 [] Xe Xk Xc none none none xe1 xk1 xe2 xk2 xc1 xc2 0 0 0 0 0 0 v7 true (decide_eq_true rfl) (by show nodes none_ ≤ _; rw [nodes_none]; omega) Rx.out.len (by have h := Rx.out.len; have h2 : noneK.2.length = 0 := rfl; dsimp only at h; omega) Rx.out.tree Rx.out.ctx rfl (RdP.zero _).tree (RdP.zero _).ctx)
    go_wp2_with fail
    refine HSM.out.mono ?_
    rintro e v8 ⟨rfl, hb9⟩
    have HKc := Lib.hid (HKc.out.later hb9)
    clear hb9 c0 c1 c2 c3 c4 c5
    go_wp2_with fail
    go_ret
    exact ⟨by first | rfl | simp, HKc.out.below⟩
   | true =>
    obtain rfl : kx = (onlyT l ta, sa) := HKX.out.symm
    obtain rfl : er = 0 := HER.out.symm
    have hra := rightKB_iff.1 HZR.out
    have HRO := Lib.hid (refonly_any ta Ae Ak ae1 ak1 ae2 ak2 l Al nl cl v7 HNl.out (by omega) Rl.out (rightB_iff.2 hra.tree) (by have := Na.out; omega) Ra.out.tree)
    clear hra
    go_wp2_with fail
    refine HRO.out.mono ?_
    rintro e v8 ⟨Be, Bk, Ce, Ck, b1, b2, b3, b4, d1, d2, d3, d4, rfl, hro, _, hb9⟩
    have Hro := Lib.hid hro
    clear hro HRO
    have Ra := Lib.hid (Ra.out.later hb9)
    have Rl := Lib.hid (Rl.out.later hb9)
    have Rx := Lib.hid (Rx.out.later hb9)
    have HKc := Lib.hid (HKc.out.later hb9)
    clear hb9
    clear c0 c1 c2 c3 c4 c5
    obtain ⟨g8, hg8⟩ : ∃ g, g = v8.heap.size := ⟨_, rfl⟩
    obtain ⟨v9, hv9⟩ : ∃ W, W = v8.alloc (.cells #[.slice Be b1 b2, .slice Bk b3 b4] 25) := ⟨_, rfl⟩
    have hb9 : Below v8.heap.size v8 v9 := by rw [hv9]; exact Dt.box_below _ _ _
    have e0 : v9.cell? ⟨g8, 0, none⟩ = some (.slice Be b1 b2) := by rw [hv9, hg8]; go_simp
    have e1 : v9.cell? ⟨g8, 1, none⟩ = some (.slice Bk b3 b4) := by rw [hv9, hg8]; go_simp
    have Hg8 := Lib.hid hg8
    have Hv9 := Lib.hid hv9
    have Ra := Lib.hid (Ra.out.later hb9)
    have Rl := Lib.hid (Rl.out.later hb9)
    have Rx := Lib.hid (Rx.out.later hb9)
    have HKc := Lib.hid (HKc.out.later hb9)
    have Hro := Lib.hid (RdO.later Hro.out hb9)
    clear hb9
    have HKc : Hid (Kept [(⟨g8, 0, none⟩, .slice Be b1 b2), (⟨g8, 1, none⟩, .slice Bk b3 b4), (⟨gx, 0, none⟩, .slice Xe xe1 xe2), (⟨gx, 1, none⟩, .slice Xk xk1 xk2), (⟨gx, 2, none⟩, .slice Xc xc1 xc2), (⟨p, 0, none⟩, .slice Ae ae1 ae2), (⟨p, 1, none⟩, .slice Ak ak1 ak2), (⟨p, 2, none⟩, .slice Ac ac1 ac2)] w v9) := ((HKc.out.cons_of e1).cons_of e0)
    clear hg8 hv9 e0 e1
    obtain ⟨v10, hv10⟩ : ∃ W, W = v9.alloc (.cells #[.slice Ce d1 d2, .slice Ck d3 d4] 25) := ⟨_, rfl⟩
    have hb9 : Below v9.heap.size v9 v10 := by rw [hv10]; exact Dt.box_below _ _ _
    have Hv10 := Lib.hid hv10
    have Ra := Lib.hid (Ra.out.later hb9)
    have Rl := Lib.hid (Rl.out.later hb9)
    have Rx := Lib.hid (Rx.out.later hb9)
    have HKc := Lib.hid (HKc.out.later hb9)
    have Hro := Lib.hid (RdO.later Hro.out hb9)
    clear hb9
    clear hv10
    have HSM := Lib.hid (refsameK_any (onlyT l ta) (onlyT l ta) sa sa Xe Xk Xc Be Bk Ac xe1 xk1 xe2 xk2 xc1 xc2 b1 b3 b2 b4 ac1 ac2 v10 true (decide_eq_true rfl) (by have h1 := nodes_only l ta; have h2 := Na.out; omega) Rx.out.len (by have h := Rx.out.len; have h2 := Ra.out.len; have h3 := Qa.out; dsimp only at h h2; omega) Rx.out.tree Rx.out.ctx Ra.out.len Hro.out.rd Ra.out.ctx)
    have c0 := HKc.out.c0
    have c1 := HKc.out.c1
    have c2 := HKc.out.c2
    have c3 := HKc.out.c3
    have c4 := HKc.out.c4
    have c5 := HKc.out.c5
    have c6 := HKc.out.c6
    have c7 := HKc.out.c7
    rw [Hv10.out, Hv9.out] at c0 c1 c2 c3 c4 c5 c6 c7
    rw [Hg8.out] at c0 c1
    go_wp2_with fail
    rw [← Hg8.out, ← Hv9.out, ← Hv10.out]
    refine HSM.out.mono ?_
    rintro e v11 ⟨rfl, hb9⟩
    have HKc := Lib.hid (HKc.out.later hb9)
    clear hb9 c0 c1 c2 c3 c4 c5 c6 c7
    go_wp2_with fail
    go_ret
    exact ⟨by first | rfl | simp, HKc.out.below⟩
  ·have f20 : decide ((20 : Int) < (nl : Int)) = true := decide_eq_true (by omega)
   go_wp2_with fail
   refine (awake_any _).mono ?_
   rintro e v9 ⟨rfl, hb9⟩
   have HKc := Lib.hid (HKc.out.later hb9)
   clear hb9
   go_wp2_with fail
   go_ret
   exact ⟨rfl, HKc.out.below⟩
set_option maxRecDepth 100000 in
theorem lifted (os : Os) (started : os.Started) (H : Type) (enc : TypeId × Value → H) :
  ReturnsInHanded {} Tryz.checked os 10 .any (Rows.causalOnlySpec.pre6 enc Tryz.prog Tryz.f10 Rows.causalOnlyRow.domain false) (Rows.causalOnlySpec.post enc Tryz.prog Tryz.f10 false true false false) := by
 refine returnsInHanded_of_change_sized (C := Tryz.checked) own started (by kernel_rfl) Tryz.func10
  (ChangeSpec.witness6 (enc := enc) (C := Tryz.checked) false ⟨#[], #[.agg #[.slice none 0 0, .slice none 0 0, .slice none 0 0], .slice none 0 0], []⟩ 8 (by kernel_rfl) (by kernel_rfl) (by kernel_rfl) (by kernel_rfl)) ?_
 intro W base args ds gs before hval0 hW _ hsz0 _
 have hval : ∀ (j : Nat) t v, Tryz.f10.params[j]? = some t → args[j]? = some v → Value.okWide Tryz.prog W .any base t v := hval0
 have hW' := hW
 obtain ⟨p, q, hA0, hV, rfl, hfz, hnd⟩ := hW
 have hA : DataW.TrodAll enc Tryz.prog W 0 (fun _ => true) true Tryz.f10.params.toList args.toList ds p := hA0
 rw [Tryz.params10] at hA hval
 obtain ⟨v0, v1, d0, d1, p0, p1, rfl, rfl, rfl, h0, h1⟩ := trodAll_two hA
 obtain ⟨rfl, rfl⟩ := trodVars_none hV
 have hsz : (DataW.weightsEach Tryz.prog (29 :: 42 :: _) (d0 :: d1 :: _)).all (· ≤ reachBytes) = true := hsz0
 obtain ⟨hw0, hsz⟩ := Tr.weights_head hsz
 obtain ⟨hw1, hsz⟩ := Tr.weights_head hsz
 obtain ⟨t0, s0, A0, B0, C0, n0, m0, ne0, nk0, nc0, nd0, rfl, hr0, hl0⟩ := Cs.cauV_of_trod (hval 0 29 v0 rfl rfl) h0 hw0
 obtain ⟨a1, len1, cap1, rfl⟩ := okWide_slice Tryz.underlying42 (hval 1 42 v1 rfl rfl)
 obtain ⟨fuel1, hf1⟩ := h1
 obtain ⟨l1, hll1, hr1, _⟩ := Tr.strs_of_trod hf1
 refine (walk_any t0 s0 A0 B0 C0 n0 m0 ne0 nk0 nc0 nd0 l1 len1 a1 cap1 W hr0 hl0 hll1 hr1).mono fun e W' ⟨he, hb⟩ => ?_
 subst he
 exact ⟨_, rfl, law_post hW' (by kernel_rfl) rfl rfl rfl hb⟩
theorem proved : Rows.CausalOnlySaid :=
 OpenClaim.holds_of_wide 10 Tryz.f10 rfl rfl rfl rfl rfl rfl rfl ⟨rfl, rfl, rfl, rfl, rfl⟩ rfl rfl rfl rfl rfl (by kernel_rfl) Tryz.func10 (by kernel_rfl)
  (of_decide_eq_true (by kernel_rfl)) (by unfold Func.isWrapper; first | (rw [if_pos (by decide +kernel)]; kernel_rfl) | (rw [if_neg (by decide +kernel)]; exact ⟨rfl, rfl⟩))
  (fun os started H enc _ => lifted os started H enc)
#print axioms proved
end lawCausalOnly
end Go.Proofs.YtcbclefemcmhpaaGreat
