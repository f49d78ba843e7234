/- TreeOwn answers true for every tree, all keys. No condition. -/
import Derived.Test.YtbfcbfadfnaebaaTreeLaw
import Derived.Test.YtbfcbfadfnaebaaTreeScribble
import Derived.Test.YtbfcbfadfnaebaaTreeRefClone
namespace Go.Proofs.Ytbfcbfadfnaebaa.lawTreeOwn
open Go.ChangeShapes Go.WideShapes Go.ChangeAt Go.RowKit Sp Rw Tr
theorem nodes_getT (t : T) : ∀ p : List ByteArray, nodes (getT t p) ≤ nodes t
  | [] => Nat.le_refl _
  | k :: p => by
    have h1 := nodes_getT (kidAt t.ks k) p
    have h2 := nodes_kidAt t.ks t.es k
    rw [T.eta] at h2
    exact Nat.le_trans h1 h2
theorem sum_filter (f : ByteArray × T → Bool) (g : ByteArray × T → Nat) : ∀ l : List (ByteArray × T), ((l.filter f).map g).sum ≤ (l.map g).sum
  | [] => Nat.le_refl _
  | a :: l => by
    have := sum_filter f g l
    rw [List.filter_cons]
    split <;> simp only [List.map_cons, List.sum_cons] <;> omega
theorem nodes_keep (es : List E) (f : ByteArray → Bool) (t : T) (h : es.length ≤ t.es.length) : nodes (.mk es (keepK f t.ks)) ≤ nodes t := by
  have e : nodes t = t.es.length + t.ks.length + (t.ks.map fun k => nodes k.2).sum := by
    conv => lhs; rw [← T.eta t]
    exact nodes_mk _ _
  rw [nodes_mk, e]
  unfold keepK
  have h1 := sum_filter (fun k => f k.1) (fun k => nodes k.2) t.ks
  have h2 := List.length_filter_le (fun k : ByteArray × T => f k.1) t.ks
  omega
theorem len_if {b : Bool} {t u : T} (ht : nodes t ≤ 60) (h : nodes u ≤ nodes t) : LenT reachBytes (if b = true then u else none_) := by
  split
  · exact LenT.few (by omega)
  · exact LenT.few (by rw [nodes_none]; omega)
set_option maxRecDepth 100000 in
set_option maxHeartbeats 4000000 in
theorem walk_any (t : T) (Aet Akt : Option Addr) (net nkt cet ckt : Nat) (l : List ByteArray) (nl : Nat) (Al : Option Addr) (cl : Nat) (w : World) (hrt : RdT w w.heap.size t ⟨Aet, net, cet⟩ ⟨Akt, nkt, ckt⟩) (hlt : LenT reachBytes t) (hnl : l.length = nl) (hsl : Rd w w.heap.size 1 Al nl cl (Tr.strs l)) :
    Calls Try.prog 10 #[.agg #[.slice Aet net cet, .slice Akt nkt ckt], .slice Al nl cl] w fun e w' => e = .returned (.bool true) ∧ Below w.heap.size w w' := by
  have HKc : Hid (Kept [] w w) := Kept.nil w
  have Rt := Lib.hid hrt
  have HLt := Lib.hid hlt
  clear hrt hlt
  have Rl := Lib.hid hsl
  have HNl := Lib.hid hnl
  clear hsl hnl
  obtain ⟨g0, hg0⟩ : ∃ z, z = w.heap.size := ⟨_, rfl⟩
  obtain ⟨B0, hB0⟩ : ∃ W, W = w.alloc (.cells #[.slice Aet net cet, .slice Akt nkt ckt] 25) := ⟨_, rfl⟩
  have hb : Below w.heap.size w B0 := by rw [hB0]; exact Dt.box_below _ _ _
  have e0 : B0.cell? ⟨g0, 0, none⟩ = some (.slice Aet net cet) := by rw [hB0, hg0]; go_simp
  have e1 : B0.cell? ⟨g0, 1, none⟩ = some (.slice Akt nkt ckt) := by rw [hB0, hg0]; go_simp
  have Rt := Lib.hid (RdT.later Rt.out hb)
  have Rl := Lib.hid (Rl.out.later hb)
  have HKc := Lib.hid (((HKc.out.later hb).cons_of e1).cons_of e0)
  have HB0 := Lib.hid hB0
  have Hg0 := Lib.hid hg0
  clear hb e0 e1 hB0 hg0
  have s0 := HKc.out.c0
  have s1 := HKc.out.c1
  go_enter Try.func10, Try.ntmps10
  go_wp2_with fail
  rw [← Hg0.out, ← HB0.out]
  refine (awake_any B0).mono ?_
  rintro e u1 ⟨rfl, hb⟩
  clear s0 s1
  have Rt := Lib.hid (RdT.later Rt.out hb)
  have Rl := Lib.hid (Rl.out.later hb)
  have HKc := Lib.hid (HKc.out.later hb)
  clear hb
  have s0 := HKc.out.c0
  have s1 := HKc.out.c1
  go_wp2_with fail
  refine (small_to t Aet Akt net nkt cet ckt 60 60 rfl u1 (by omega) HLt.out Rt.out).mono ?_
  rintro e u2 ⟨sbt, rfl, hsmt, hb⟩
  clear s0 s1
  have Rt := Lib.hid (RdT.later Rt.out hb)
  have Rl := Lib.hid (Rl.out.later hb)
  have HKc := Lib.hid (HKc.out.later hb)
  clear hb
  have s0 := HKc.out.c0
  have s1 := HKc.out.c1
  cases sbt with
  | false =>
    go_wp2_with fail
    refine (awake_any _).mono ?_
    rintro e u3 ⟨rfl, hb⟩
    clear s0 s1
    have Rt := Lib.hid (RdT.later Rt.out hb)
    have Rl := Lib.hid (Rl.out.later hb)
    have HKc := Lib.hid (HKc.out.later hb)
    clear hb
    have s0 := HKc.out.c0
    have s1 := HKc.out.c1
    go_wp2_with fail
    go_ret
    exact ⟨rfl, HKc.out.below⟩
  | true =>
    have HN60 := Lib.hid (hsmt rfl)
    clear hsmt
    obtain ⟨fw, hfw⟩ : ∃ z, decide (nl ≤ 20) = z := ⟨_, rfl⟩
    go_wp2_with fail
    refine (few_any l nl Al cl u2 fw hfw HNl.out).mono ?_
    rintro e u3 ⟨rfl, rfl⟩
    cases fw with
    | false =>
      clear hfw
      go_wp2_with fail
      refine (awake_any _).mono ?_
      rintro e u4 ⟨rfl, hb⟩
      clear s0 s1
      have Rt := Lib.hid (RdT.later Rt.out hb)
      have Rl := Lib.hid (Rl.out.later hb)
      have HKc := Lib.hid (HKc.out.later hb)
      clear hb
      have s0 := HKc.out.c0
      have s1 := HKc.out.c1
      go_wp2_with fail
      go_ret
      exact ⟨rfl, HKc.out.below⟩
    | true =>
      have hn20 : nl ≤ 20 := of_decide_eq_true hfw
      clear hfw
      go_wp2_with fail
      refine (refclone_any t Aet Akt net nkt cet ckt u3 (by have := HN60.out; omega) Rt.out).mono ?_
      rintro e u4 ⟨Aes, ces, Aks, cks, rfl, hro, hb⟩
      have Rs := Lib.hid hro.rd
      clear hro
      clear s0 s1
      have Rt := Lib.hid (RdT.later Rt.out hb)
      have Rl := Lib.hid (Rl.out.later hb)
      have HKc := Lib.hid (HKc.out.later hb)
      clear hb
      have s0 := HKc.out.c0
      have s1 := HKc.out.c1
      obtain ⟨gs, hgs⟩ : ∃ z, z = u4.heap.size := ⟨_, rfl⟩
      obtain ⟨ws, hws⟩ : ∃ W, W = u4.alloc (.cells #[.slice Aes net ces, .slice Aks nkt cks] 25) := ⟨_, rfl⟩
      have hb : Below u4.heap.size u4 ws := by rw [hws]; exact Dt.box_below _ _ _
      have e0 : ws.cell? ⟨gs, 0, none⟩ = some (.slice Aes net ces) := by rw [hws, hgs]; go_simp
      have e1 : ws.cell? ⟨gs, 1, none⟩ = some (.slice Aks nkt cks) := by rw [hws, hgs]; go_simp
      have Rt := Lib.hid (RdT.later Rt.out hb)
      have Rl := Lib.hid (Rl.out.later hb)
      have Rs := Lib.hid (RdT.later Rs.out hb)
      have HKc := Lib.hid (HKc.out.later hb)
      have HKd := Lib.hid ((HKc.out.cons_of e1).cons_of e0)
      have Hws := Lib.hid hws
      have Hgs := Lib.hid hgs
      have a0 : (u4.alloc (.cells #[.slice Aes net ces, .slice Aks nkt cks] 25)).cell? ⟨g0, 0, none⟩ = some (.slice Aet net cet) := by rw [← hws]; exact HKd.out.c2
      have a1 : (u4.alloc (.cells #[.slice Aes net ces, .slice Aks nkt cks] 25)).cell? ⟨g0, 1, none⟩ = some (.slice Akt nkt ckt) := by rw [← hws]; exact HKd.out.c3
      clear hb e0 e1 hws hgs
      go_wp2_with fail
      rw [← Hgs.out, ← Hws.out]
      have HKc := HKd
      refine (clone_any t Aet Akt net nkt cet ckt ws HLt.out (by have := HN60.out; omega) Rt.out).mono ?_
      rintro e u5 ⟨Ae1, ne1, ce1, Ak1, nk1, ck1, rfl, hro, hb⟩
      have hsc := ScrT.of_rd (lo := ws.heap.size) (fun b hb _ => hb) _ hro
      have HS1 := Lib.hid (scribble_any _ Ae1 Ak1 ne1 nk1 ce1 ck1 ws.heap.size u5 hb.size (len_if HN60.out (Nat.le_refl _)) hsc)
      have HB1 := Lib.hid hb
      clear hro hb hsc
      go_wp2_with fail
      refine HS1.out.mono ?_
      rintro e u6 ⟨rfl, hf⟩
      have hb : Below ws.heap.size ws u6 := HB1.out.trans hf.below
      clear s0 s1 a0 a1
      have Rt := Lib.hid (RdT.later Rt.out hb)
      have Rl := Lib.hid (Rl.out.later hb)
      have Rs := Lib.hid (RdT.later Rs.out hb)
      have HKc := Lib.hid (HKc.out.later hb)
      clear hb hf
      have s0 := HKc.out.c0
      have s1 := HKc.out.c1
      have s2 := HKc.out.c2
      have s3 := HKc.out.c3
      go_wp2_with fail
      refine (get_any t Aet Akt net nkt cet ckt u6 l Al nl cl HNl.out (by omega) Rl.out HLt.out (by have := HN60.out; omega) Rt.out).mono ?_
      rintro e u7 ⟨Ae2, ne2, ce2, Ak2, nk2, ck2, rfl, hro, hb⟩
      have hsc := ScrT.of_rd (lo := u6.heap.size) (fun b hb _ => hb) _ hro
      have HS2 := Lib.hid (scribble_any _ Ae2 Ak2 ne2 nk2 ce2 ck2 u6.heap.size u7 hb.size (len_if HN60.out (nodes_getT t l)) hsc)
      have HB2 := Lib.hid hb
      clear hro hb hsc
      go_wp2_with fail
      refine HS2.out.mono ?_
      rintro e u8 ⟨rfl, hf⟩
      have hb : Below u6.heap.size u6 u8 := HB2.out.trans hf.below
      clear s0 s1 s2 s3
      have Rt := Lib.hid (RdT.later Rt.out hb)
      have Rl := Lib.hid (Rl.out.later hb)
      have Rs := Lib.hid (RdT.later Rs.out hb)
      have HKc := Lib.hid (HKc.out.later hb)
      clear hb hf
      have s0 := HKc.out.c0
      have s1 := HKc.out.c1
      have s2 := HKc.out.c2
      have s3 := HKc.out.c3
      go_wp2_with fail
      refine (only_any t Aet Akt net nkt cet ckt u8 l Al nl cl HNl.out (by omega) Rl.out HLt.out (by have := HN60.out; omega) Rt.out).mono ?_
      rintro e u9 ⟨Ae3, ne3, ce3, Ak3, nk3, ck3, rfl, hro, hb⟩
      have hsc := ScrT.of_rd (lo := u8.heap.size) (fun b hb _ => hb) _ hro
      have HS3 := Lib.hid (scribble_any _ Ae3 Ak3 ne3 nk3 ce3 ck3 u8.heap.size u9 hb.size (len_if HN60.out (nodes_keep [] _ t (Nat.zero_le _))) hsc)
      have HB3 := Lib.hid hb
      clear hro hb hsc
      go_wp2_with fail
      refine HS3.out.mono ?_
      rintro e u10 ⟨rfl, hf⟩
      have hb : Below u8.heap.size u8 u10 := HB3.out.trans hf.below
      clear s0 s1 s2 s3
      have Rt := Lib.hid (RdT.later Rt.out hb)
      have Rl := Lib.hid (Rl.out.later hb)
      have Rs := Lib.hid (RdT.later Rs.out hb)
      have HKc := Lib.hid (HKc.out.later hb)
      clear hb hf
      have s0 := HKc.out.c0
      have s1 := HKc.out.c1
      have s2 := HKc.out.c2
      have s3 := HKc.out.c3
      go_wp2_with fail
      refine (without_any t Aet Akt net nkt cet ckt u10 l Al nl cl HNl.out (by omega) Rl.out HLt.out (by have := HN60.out; omega) Rt.out).mono ?_
      rintro e u11 ⟨Ae4, ne4, ce4, Ak4, nk4, ck4, rfl, hro, hb⟩
      have hsc := ScrT.of_rd (lo := u10.heap.size) (fun b hb _ => hb) _ hro
      have HS4 := Lib.hid (scribble_any _ Ae4 Ak4 ne4 nk4 ce4 ck4 u10.heap.size u11 hb.size (len_if HN60.out (nodes_keep t.es _ t (Nat.le_refl _))) hsc)
      have HB4 := Lib.hid hb
      clear hro hb hsc
      go_wp2_with fail
      refine HS4.out.mono ?_
      rintro e u12 ⟨rfl, hf⟩
      have hb : Below u10.heap.size u10 u12 := HB4.out.trans hf.below
      clear s0 s1 s2 s3
      have Rt := Lib.hid (RdT.later Rt.out hb)
      have Rl := Lib.hid (Rl.out.later hb)
      have Rs := Lib.hid (RdT.later Rs.out hb)
      have HKc := Lib.hid (HKc.out.later hb)
      clear hb hf
      have s0 := HKc.out.c0
      have s1 := HKc.out.c1
      have s2 := HKc.out.c2
      have s3 := HKc.out.c3
      go_wp2_with fail
      obtain ⟨x, hx⟩ : ∃ x, wrapR t l = x := ⟨_, rfl⟩
      refine (wrap_any t Aet Akt net nkt cet ckt l Al nl cl u12 HNl.out (by omega) Rl.out HLt.out (by have := HN60.out; omega) Rt.out).mono ?_
      rintro e u13 ⟨Ae5, ne5, ce5, Ak5, nk5, ck5, rfl, hro, hb⟩
      have hnx : nodes (wrapR t l) ≤ 100000 := by
        by_cases h : wrapE t l = 0
        · have := (wrap_ok h).nodes; have := HNl.out; have := HN60.out; omega
        · rw [wrap_not h, nodes_none]; omega
      rw [hx] at hro hnx
      obtain ⟨gx, hgx⟩ : ∃ z, z = u13.heap.size := ⟨_, rfl⟩
      obtain ⟨wx, hwx⟩ : ∃ W, W = u13.alloc (.cells #[.slice Ae5 ne5 ce5, .slice Ak5 nk5 ck5] 25) := ⟨_, rfl⟩
      have hb2 : Below u13.heap.size u13 wx := by rw [hwx]; exact Dt.box_below _ _ _
      have hsc := ScrT.of_rd (lo := u12.heap.size) (fun b hb _ => hb) _ (RdO.later hro hb2)
      have hb3 : Below u12.heap.size u12 wx := hb.trans (hb2.mono hb.size)
      have HS5 := Lib.hid (scribble_any _ Ae5 Ak5 ne5 nk5 ce5 ck5 u12.heap.size wx hb3.size (LenT.few hnx) hsc)
      have HB5 := Lib.hid hb3
      have Hwx := Lib.hid hwx
      have Hgx := Lib.hid hgx
      clear hro hb hb2 hb3 hsc hx hnx hwx hgx
      go_wp2_with fail
      rw [← Hwx.out]
      refine HS5.out.mono ?_
      rintro e u14 ⟨rfl, hf⟩
      have hb : Below u12.heap.size u12 u14 := HB5.out.trans hf.below
      clear s0 s1 s2 s3
      have Rt := Lib.hid (RdT.later Rt.out hb)
      have Rl := Lib.hid (Rl.out.later hb)
      have Rs := Lib.hid (RdT.later Rs.out hb)
      have HKc := Lib.hid (HKc.out.later hb)
      clear hb hf
      have s0 := HKc.out.c0
      have s1 := HKc.out.c1
      have s2 := HKc.out.c2
      have s3 := HKc.out.c3
      go_wp2_with fail
      refine (refsameT_any t t Aet Akt net nkt cet ckt Aes Aks net nkt ces cks u14 (by have := HN60.out; omega) Rt.out Rs.out).mono ?_
      rw [eqB_yes rfl]
      rintro e u15 ⟨rfl, hb⟩
      clear s0 s1 s2 s3
      have Rt := Lib.hid (RdT.later Rt.out hb)
      have Rl := Lib.hid (Rl.out.later hb)
      have Rs := Lib.hid (RdT.later Rs.out hb)
      have HKc := Lib.hid (HKc.out.later hb)
      clear hb
      have s0 := HKc.out.c0
      have s1 := HKc.out.c1
      have s2 := HKc.out.c2
      have s3 := HKc.out.c3
      go_wp2_with fail
      go_ret
      exact ⟨rfl, HKc.out.below⟩
set_option maxRecDepth 100000 in
theorem lifted (os : Os) (started : os.Started) (H : Type) (enc : TypeId × Value → H) :
    ReturnsInHanded {} Try.checked os 10 .any (Rows.treeOwnSpec.pre6 enc Try.prog Try.f10 Rows.treeOwnRow.domain false) (Rows.treeOwnSpec.post enc Try.prog Try.f10 false true false false) := by
  refine returnsInHanded_of_change_sized (C := Try.checked) own started (by kernel_rfl) Try.func10
    (ChangeSpec.witness6 (enc := enc) (C := Try.checked) false ⟨#[], #[.agg #[.slice none 0 0, .slice none 0 0], .slice none 0 0], []⟩ 8 (by kernel_rfl) (by kernel_rfl) (by kernel_rfl) (by kernel_rfl)) ?_
  intro W base args ds gs before hval0 hW _ hsz0 _
  have hval : ∀ (j : Nat) t v, Try.f10.params[j]? = some t → args[j]? = some v → Value.okWide Try.prog W .any base t v := hval0
  have hW' := hW
  obtain ⟨p, q, hA0, hV, rfl, hfz, hnd⟩ := hW
  have hA : DataW.TrodAll enc Try.prog W 0 (fun _ => true) true Try.f10.params.toList args.toList ds p := hA0
  rw [Try.params10] at hA hval
  obtain ⟨v0, v1, d0, d1, p0, p1, rfl, rfl, rfl, h0, h1⟩ := trodAll_two hA
  obtain ⟨rfl, rfl⟩ := trodVars_none hV
  have hsz : (DataW.weightsEach Try.prog (25 :: 39 :: _) (d0 :: d1 :: _)).all (· ≤ reachBytes) = true := hsz0
  obtain ⟨hw0, hsz⟩ := Tr.weights_head hsz
  obtain ⟨hw1, hsz⟩ := Tr.weights_head hsz
  obtain ⟨t0, ae0, ak0, ne0, nk0, ce0, ck0, rfl, hr0, hl0⟩ := Tr.treeV_of_trod (hval 0 25 v0 rfl rfl) h0 hw0
  obtain ⟨a1, len1, cap1, rfl⟩ := okWide_slice Try.underlying39 (hval 1 39 v1 rfl rfl)
  obtain ⟨fuel1, hf1⟩ := h1
  obtain ⟨l1, hll1, hr1, _⟩ := Tr.strs_of_trod hf1
  refine (walk_any t0 ae0 ak0 ne0 nk0 ce0 ck0 l1 len1 a1 cap1 W hr0 hl0 hll1 hr1).mono fun e W' ⟨he, hb⟩ => ?_
  subst he
  exact ⟨_, rfl, law_post hW' (by kernel_rfl) rfl rfl rfl hb⟩
theorem proved : Rows.TreeOwnSaid :=
  OpenClaim.holds_of_wide 10 Try.f10 rfl rfl rfl rfl rfl rfl rfl ⟨rfl, rfl, rfl, rfl, rfl⟩ rfl rfl rfl rfl rfl (by kernel_rfl) Try.func10 (by kernel_rfl)
    (of_decide_eq_true (by kernel_rfl)) (by unfold Func.isWrapper; first | (rw [if_pos (by decide +kernel)]; kernel_rfl) | (rw [if_neg (by decide +kernel)]; exact ⟨rfl, rfl⟩))
    (fun os started H enc _ => lifted os started H enc)
#print axioms proved
end Go.Proofs.Ytbfcbfadfnaebaa.lawTreeOwn
