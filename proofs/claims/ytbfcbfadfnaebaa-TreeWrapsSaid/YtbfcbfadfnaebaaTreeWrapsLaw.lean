/- TreeWraps answers true for every tree, all keys. No condition. -/
import Derived.Test.YtbfcbfadfnaebaaTreeLaw
import Derived.Test.YtbfcbfadfnaebaaTreeRefRight
import Derived.Test.YtbfcbfadfnaebaaTreeRefWrap
namespace Go.Proofs.Ytbfcbfadfnaebaa.lawTreeWraps
open Go.ChangeShapes Go.WideShapes Go.ChangeAt Go.RowKit Sp Rw Tr
set_option maxRecDepth 100000 in
set_option maxHeartbeats 4000000 in
theorem walk_any (t : T) (Aet Akt : Option Addr) (net nkt cet ckt : Nat) (l : List ByteArray) (nl : Nat) (Al : Option Addr) (cl : Nat) (w : World) (hrt : RdT w w.heap.size t ⟨Aet, net, cet⟩ ⟨Akt, nkt, ckt⟩) (hlt : LenT reachBytes t) (hnl : l.length = nl) (hsl : Rd w w.heap.size 1 Al nl cl (Tr.strs l)) :
    Calls Try.prog 6 #[.agg #[.slice Aet net cet, .slice Akt nkt ckt], .slice Al nl cl] w fun e w' => e = .returned (.bool true) ∧ Below w.heap.size w w' := by
  have HKc : Hid (Kept [] w w) := Kept.nil w
  have Rt := Lib.hid hrt
  have HLt := Lib.hid hlt
  clear hrt hlt
  have Rl := Lib.hid hsl
  have HNl := Lib.hid hnl
  clear hsl hnl
  obtain ⟨g0, hg0⟩ : ∃ z, z = w.heap.size := ⟨_, rfl⟩
  obtain ⟨B0, hB0⟩ : ∃ W, W = w.alloc (.cells #[.slice Aet net cet, .slice Akt nkt ckt] 25) := ⟨_, rfl⟩
  have hb : Below w.heap.size w B0 := by rw [hB0]; exact Dt.box_below _ _ _
  have e0 : B0.cell? ⟨g0, 0, none⟩ = some (.slice Aet net cet) := by rw [hB0, hg0]; go_simp
  have e1 : B0.cell? ⟨g0, 1, none⟩ = some (.slice Akt nkt ckt) := by rw [hB0, hg0]; go_simp
  have Rt := Lib.hid (RdT.later Rt.out hb)
  have Rl := Lib.hid (Rl.out.later hb)
  have HKc := Lib.hid (((HKc.out.later hb).cons_of e1).cons_of e0)
  have HB0 := Lib.hid hB0
  have Hg0 := Lib.hid hg0
  clear hb e0 e1 hB0 hg0
  have s0 := HKc.out.c0
  have s1 := HKc.out.c1
  go_enter Try.func6, Try.ntmps6
  go_wp2_with fail
  rw [← Hg0.out, ← HB0.out]
  refine (awake_any B0).mono ?_
  rintro e u1 ⟨rfl, hb⟩
  clear s0 s1
  have Rt := Lib.hid (RdT.later Rt.out hb)
  have Rl := Lib.hid (Rl.out.later hb)
  have HKc := Lib.hid (HKc.out.later hb)
  clear hb
  have s0 := HKc.out.c0
  have s1 := HKc.out.c1
  go_wp2_with fail
  refine (small_to t Aet Akt net nkt cet ckt 60 60 rfl u1 (by omega) HLt.out Rt.out).mono ?_
  rintro e u2 ⟨sbt, rfl, hsmt, hb⟩
  clear s0 s1
  have Rt := Lib.hid (RdT.later Rt.out hb)
  have Rl := Lib.hid (Rl.out.later hb)
  have HKc := Lib.hid (HKc.out.later hb)
  clear hb
  have s0 := HKc.out.c0
  have s1 := HKc.out.c1
  cases sbt with
  | false =>
    go_wp2_with fail
    refine (awake_any _).mono ?_
    rintro e u3 ⟨rfl, hb⟩
    clear s0 s1
    have Rt := Lib.hid (RdT.later Rt.out hb)
    have Rl := Lib.hid (Rl.out.later hb)
    have HKc := Lib.hid (HKc.out.later hb)
    clear hb
    have s0 := HKc.out.c0
    have s1 := HKc.out.c1
    go_wp2_with fail
    go_ret
    exact ⟨rfl, HKc.out.below⟩
  | true =>
    have HN60 := Lib.hid (hsmt rfl)
    clear hsmt
    obtain ⟨fw, hfw⟩ : ∃ z, decide (nl ≤ 20) = z := ⟨_, rfl⟩
    go_wp2_with fail
    refine (few_any l nl Al cl u2 fw hfw HNl.out).mono ?_
    rintro e u3 ⟨rfl, rfl⟩
    cases fw with
    | false =>
      clear hfw
      go_wp2_with fail
      refine (awake_any _).mono ?_
      rintro e u4 ⟨rfl, hb⟩
      clear s0 s1
      have Rt := Lib.hid (RdT.later Rt.out hb)
      have Rl := Lib.hid (Rl.out.later hb)
      have HKc := Lib.hid (HKc.out.later hb)
      clear hb
      have s0 := HKc.out.c0
      have s1 := HKc.out.c1
      go_wp2_with fail
      go_ret
      exact ⟨rfl, HKc.out.below⟩
    | true =>
      have hn20 : nl ≤ 20 := of_decide_eq_true hfw
      clear hfw
      obtain ⟨z, hz⟩ : ∃ z, rightB 5 t = z := ⟨_, rfl⟩
      obtain ⟨x, hx⟩ : ∃ x, wrapR t l = x := ⟨_, rfl⟩
      obtain ⟨er, her⟩ : ∃ x, wrapE t l = x := ⟨_, rfl⟩
      have hga := wrap_any t Aet Akt net nkt cet ckt l Al nl cl u3 HNl.out (by omega) Rl.out HLt.out (by have := HN60.out; omega) Rt.out
      rw [hx, her] at hga
      have HGA := Lib.hid hga
      clear hga
      have hnx : nodes x ≤ 100000 := by
        rw [← hx]
        by_cases h : wrapE t l = 0
        · have := (wrap_ok h).nodes; have := HNl.out; have := HN60.out; omega
        · rw [wrap_not h, nodes_none]; omega
      have HNX := Lib.hid hnx
      have HXX := Lib.hid hx
      have HER := Lib.hid her
      clear hnx hx her
      go_wp2_with fail
      refine (HGA.out).mono ?_
      rintro e u4 ⟨Aex, nex, cex, Akx, nkx, ckx, rfl, hro, hb⟩
      have Rx := Lib.hid hro.rd
      clear hro HGA
      clear s0 s1
      have Rt := Lib.hid (RdT.later Rt.out hb)
      have Rl := Lib.hid (Rl.out.later hb)
      have HKc := Lib.hid (HKc.out.later hb)
      clear hb
      have s0 := HKc.out.c0
      have s1 := HKc.out.c1
      obtain ⟨gx, hgx⟩ : ∃ z, z = u4.heap.size := ⟨_, rfl⟩
      obtain ⟨wx, hwx⟩ : ∃ W, W = u4.alloc (.cells #[.slice Aex nex cex, .slice Akx nkx ckx] 25) := ⟨_, rfl⟩
      have hb : Below u4.heap.size u4 wx := by rw [hwx]; exact Dt.box_below _ _ _
      have e0 : wx.cell? ⟨gx, 0, none⟩ = some (.slice Aex nex cex) := by rw [hwx, hgx]; go_simp
      have e1 : wx.cell? ⟨gx, 1, none⟩ = some (.slice Akx nkx ckx) := by rw [hwx, hgx]; go_simp
      clear s0 s1
      have Rt := Lib.hid (RdT.later Rt.out hb)
      have Rl := Lib.hid (Rl.out.later hb)
      have Rx := Lib.hid (RdT.later Rx.out hb)
      have HKc := Lib.hid (HKc.out.later hb)
      have HKc := Lib.hid ((HKc.out.cons_of e1).cons_of e0)
      have Hwx := Lib.hid hwx
      have Hgx := Lib.hid hgx
      have a0 : (u4.alloc (.cells #[.slice Aex nex cex, .slice Akx nkx ckx] 25)).cell? ⟨g0, 0, none⟩ = some (.slice Aet net cet) := by rw [← hwx]; exact HKc.out.c2
      have a1 : (u4.alloc (.cells #[.slice Aex nex cex, .slice Akx nkx ckx] 25)).cell? ⟨g0, 1, none⟩ = some (.slice Akt nkt ckt) := by rw [← hwx]; exact HKc.out.c3
      clear hb e0 e1 hwx hgx
      have s0 := HKc.out.c0
      have s1 := HKc.out.c1
      have s2 := HKc.out.c2
      have s3 := HKc.out.c3
      have HRF := Lib.hid (refrightT_any t Aet Akt net nkt cet ckt wx HLt.out Rt.out)
      rw [hz] at HRF
      cases z with
      | false =>
        have he1 : er = 1 := by rw [← HER.out]; unfold wrapE; rw [hz]; simp
        subst he1
        have hxn : x = none_ := by rw [← HXX.out]; exact wrap_not (by rw [HER.out]; omega)
        subst hxn
        clear hz
        go_wp2_with fail
        rw [← Hgx.out, ← Hwx.out]
        refine (HRF.out).mono ?_
        rintro e u5 ⟨rfl, hb⟩
        clear a0 a1
        clear s0 s1 s2 s3
        have Rt := Lib.hid (RdT.later Rt.out hb)
        have Rl := Lib.hid (Rl.out.later hb)
        have Rx := Lib.hid (RdT.later Rx.out hb)
        have HKc := Lib.hid (HKc.out.later hb)
        clear hb
        have s0 := HKc.out.c0
        have s1 := HKc.out.c1
        have s2 := HKc.out.c2
        have s3 := HKc.out.c3
        have HZ0 := Lib.hid (decide_eq_true (rd_none Rx.out))
        go_wp2_with fail
        refine (empty_any Aex Akx nex nkx cex ckx u5).mono ?_
        rw [HZ0.out]
        rintro e u6 ⟨rfl, hb⟩
        clear s0 s1 s2 s3
        have Rt := Lib.hid (RdT.later Rt.out hb)
        have Rl := Lib.hid (Rl.out.later hb)
        have Rx := Lib.hid (RdT.later Rx.out hb)
        have HKc := Lib.hid (HKc.out.later hb)
        clear hb
        have s0 := HKc.out.c0
        have s1 := HKc.out.c1
        have s2 := HKc.out.c2
        have s3 := HKc.out.c3
        go_wp2_with fail
        go_ret
        exact ⟨rfl, HKc.out.below⟩
      | true =>
        have HZ := Lib.hid hz
        clear hz
        have fe : (er == er) = true := by simp
        go_wp2_with fail
        rw [← Hgx.out, ← Hwx.out]
        refine (HRF.out).mono ?_
        rintro e u5 ⟨rfl, hb⟩
        clear a0 a1
        clear s0 s1 s2 s3
        have Rt := Lib.hid (RdT.later Rt.out hb)
        have Rl := Lib.hid (Rl.out.later hb)
        have Rx := Lib.hid (RdT.later Rx.out hb)
        have HKc := Lib.hid (HKc.out.later hb)
        clear hb
        have s0 := HKc.out.c0
        have s1 := HKc.out.c1
        have s2 := HKc.out.c2
        have s3 := HKc.out.c3
        have hgb := refwrap_any t Aet Akt net nkt cet ckt l Al nl cl u5 HNl.out (by omega) Rl.out HZ.out (by have := HN60.out; omega) Rt.out
        rw [HXX.out, HER.out] at hgb
        have HGB := Lib.hid hgb
        clear hgb
        go_wp2_with fail
        refine (HGB.out).mono ?_
        rintro e u6 ⟨Aey, ney, cey, Aky, nky, cky, rfl, hro, hb⟩
        have Ry := Lib.hid hro.rd
        clear hro HGB
        clear s0 s1 s2 s3
        have Rt := Lib.hid (RdT.later Rt.out hb)
        have Rl := Lib.hid (Rl.out.later hb)
        have Rx := Lib.hid (RdT.later Rx.out hb)
        have HKc := Lib.hid (HKc.out.later hb)
        clear hb
        have s0 := HKc.out.c0
        have s1 := HKc.out.c1
        have s2 := HKc.out.c2
        have s3 := HKc.out.c3
        obtain ⟨gy, hgy⟩ : ∃ z, z = u6.heap.size := ⟨_, rfl⟩
        obtain ⟨wy, hwy⟩ : ∃ W, W = u6.alloc (.cells #[.slice Aey ney cey, .slice Aky nky cky] 25) := ⟨_, rfl⟩
        have hb : Below u6.heap.size u6 wy := by rw [hwy]; exact Dt.box_below _ _ _
        have e0 : wy.cell? ⟨gy, 0, none⟩ = some (.slice Aey ney cey) := by rw [hwy, hgy]; go_simp
        have e1 : wy.cell? ⟨gy, 1, none⟩ = some (.slice Aky nky cky) := by rw [hwy, hgy]; go_simp
        clear s0 s1 s2 s3
        have Rt := Lib.hid (RdT.later Rt.out hb)
        have Rl := Lib.hid (Rl.out.later hb)
        have Rx := Lib.hid (RdT.later Rx.out hb)
        have Ry := Lib.hid (RdT.later Ry.out hb)
        have HKc := Lib.hid (HKc.out.later hb)
        have HKc := Lib.hid ((HKc.out.cons_of e1).cons_of e0)
        have Hwy := Lib.hid hwy
        have Hgy := Lib.hid hgy
        have a0 : (u6.alloc (.cells #[.slice Aey ney cey, .slice Aky nky cky] 25)).cell? ⟨gx, 0, none⟩ = some (.slice Aex nex cex) := by rw [← hwy]; exact HKc.out.c2
        have a1 : (u6.alloc (.cells #[.slice Aey ney cey, .slice Aky nky cky] 25)).cell? ⟨gx, 1, none⟩ = some (.slice Akx nkx ckx) := by rw [← hwy]; exact HKc.out.c3
        have a2 : (u6.alloc (.cells #[.slice Aey ney cey, .slice Aky nky cky] 25)).cell? ⟨g0, 0, none⟩ = some (.slice Aet net cet) := by rw [← hwy]; exact HKc.out.c4
        have a3 : (u6.alloc (.cells #[.slice Aey ney cey, .slice Aky nky cky] 25)).cell? ⟨g0, 1, none⟩ = some (.slice Akt nkt ckt) := by rw [← hwy]; exact HKc.out.c5
        clear hb e0 e1 hwy hgy
        have s0 := HKc.out.c0
        have s1 := HKc.out.c1
        have s2 := HKc.out.c2
        have s3 := HKc.out.c3
        have s4 := HKc.out.c4
        have s5 := HKc.out.c5
        have HSM := Lib.hid (refsameT_any x x Aex Akx nex nkx cex ckx Aey Aky ney nky cey cky wy (by have := HNX.out; omega) Rx.out Ry.out)
        rw [eqB_yes rfl] at HSM
        go_wp2_with fail
        rw [← Hgy.out, ← Hwy.out]
        refine (HSM.out).mono ?_
        rintro e u7 ⟨rfl, hb⟩
        clear a0 a1 a2 a3
        clear s0 s1 s2 s3 s4 s5
        have Rt := Lib.hid (RdT.later Rt.out hb)
        have Rl := Lib.hid (Rl.out.later hb)
        have Rx := Lib.hid (RdT.later Rx.out hb)
        have Ry := Lib.hid (RdT.later Ry.out hb)
        have HKc := Lib.hid (HKc.out.later hb)
        clear hb
        have s0 := HKc.out.c0
        have s1 := HKc.out.c1
        have s2 := HKc.out.c2
        have s3 := HKc.out.c3
        have s4 := HKc.out.c4
        have s5 := HKc.out.c5
        go_wp2_with fail
        go_ret
        exact ⟨rfl, HKc.out.below⟩
set_option maxRecDepth 100000 in
theorem lifted (os : Os) (started : os.Started) (H : Type) (enc : TypeId × Value → H) :
    ReturnsInHanded {} Try.checked os 6 .any (Rows.treeWrapsSpec.pre6 enc Try.prog Try.f6 Rows.treeWrapsRow.domain false) (Rows.treeWrapsSpec.post enc Try.prog Try.f6 false true false false) := by
  refine returnsInHanded_of_change_sized (C := Try.checked) own started (by kernel_rfl) Try.func6
    (ChangeSpec.witness6 (enc := enc) (C := Try.checked) false ⟨#[], #[.agg #[.slice none 0 0, .slice none 0 0], .slice none 0 0], []⟩ 8 (by kernel_rfl) (by kernel_rfl) (by kernel_rfl) (by kernel_rfl)) ?_
  intro W base args ds gs before hval0 hW _ hsz0 _
  have hval : ∀ (j : Nat) t v, Try.f6.params[j]? = some t → args[j]? = some v → Value.okWide Try.prog W .any base t v := hval0
  have hW' := hW
  obtain ⟨p, q, hA0, hV, rfl, hfz, hnd⟩ := hW
  have hA : DataW.TrodAll enc Try.prog W 0 (fun _ => true) true Try.f6.params.toList args.toList ds p := hA0
  rw [Try.params6] at hA hval
  obtain ⟨v0, v1, d0, d1, p0, p1, rfl, rfl, rfl, h0, h1⟩ := trodAll_two hA
  obtain ⟨rfl, rfl⟩ := trodVars_none hV
  have hsz : (DataW.weightsEach Try.prog (25 :: 39 :: _) (d0 :: d1 :: _)).all (· ≤ reachBytes) = true := hsz0
  obtain ⟨hw0, hsz⟩ := Tr.weights_head hsz
  obtain ⟨hw1, hsz⟩ := Tr.weights_head hsz
  obtain ⟨t0, ae0, ak0, ne0, nk0, ce0, ck0, rfl, hr0, hl0⟩ := Tr.treeV_of_trod (hval 0 25 v0 rfl rfl) h0 hw0
  obtain ⟨a1, len1, cap1, rfl⟩ := okWide_slice Try.underlying39 (hval 1 39 v1 rfl rfl)
  obtain ⟨fuel1, hf1⟩ := h1
  obtain ⟨l1, hll1, hr1, _⟩ := Tr.strs_of_trod hf1
  refine (walk_any t0 ae0 ak0 ne0 nk0 ce0 ck0 l1 len1 a1 cap1 W hr0 hl0 hll1 hr1).mono fun e W' ⟨he, hb⟩ => ?_
  subst he
  exact ⟨_, rfl, law_post hW' (by kernel_rfl) rfl rfl rfl hb⟩
theorem proved : Rows.TreeWrapsSaid :=
  OpenClaim.holds_of_wide 6 Try.f6 rfl rfl rfl rfl rfl rfl rfl ⟨rfl, rfl, rfl, rfl, rfl⟩ rfl rfl rfl rfl rfl (by kernel_rfl) Try.func6 (by kernel_rfl)
    (of_decide_eq_true (by kernel_rfl)) (by unfold Func.isWrapper; first | (rw [if_pos (by decide +kernel)]; kernel_rfl) | (rw [if_neg (by decide +kernel)]; exact ⟨rfl, rfl⟩))
    (fun os started H enc _ => lifted os started H enc)
#print axioms proved
end Go.Proofs.Ytbfcbfadfnaebaa.lawTreeWraps
