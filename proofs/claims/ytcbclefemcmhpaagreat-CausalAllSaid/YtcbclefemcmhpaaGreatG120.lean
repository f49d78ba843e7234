/- What is known: awake; what comes in. -/
import Derived.Test.YtcbclefemcmhpaaGreatCauKit
import Derived.Test.YtcbclefemcmhpaaGreatG30
import Derived.Test.YtcbclefemcmhpaaGreatG01
namespace Go.Proofs.YtcbclefemcmhpaaGreat
open Go.ChangeShapes Go.WideShapes Go.ChangeAt Go.RowKit
namespace Cs
open Tr Cx Sp Rw Classical
theorem join_none2 {a x : K} (ha : RK a) (h : IsJ a noneK x) : x = a := ext_st (h.right ha right_noneK) ha fun p q => by rw [h.st ha right_noneK, st_noneK, none_mx]
def awT : T := .mk [⟨1, 1, ⟨#[]⟩, 0⟩] []
def awC : List S3 := [(1, 1, 1)]
theorem awRight : RK (awT, awC) := by
  refine ⟨?_, ?_, fun x hx => ?_⟩
  · refine ⟨fun e he => ?_, by simp, by simp, by simp⟩
    rw [List.mem_singleton.1 he]
    exact ⟨by decide, by decide, by decide, by decide⟩
  · refine ⟨⟨by decide, by decide, trivial⟩, fun d hd => ?_⟩
    show RightF 1 (Cx.part [(1, 1, 1)] d)
    rw [part_cons, part_nil]
    split
    · exact ⟨by decide, by decide, by decide, trivial⟩
    · trivial
  · have h1 : x ∈ leaves awT := hx
    unfold awT at h1
    rw [leaves_mk] at h1
    have h2 : x = ([], ⟨1, 1, ⟨#[]⟩, 0⟩) := by simpa [below] using h1
    rw [h2]
    rfl
theorem awNodes : nodes awT = 1 := by unfold awT; rw [nodes_mk]; rfl
theorem RdP.of_own {w : World} {lo : Nat} {k : K} {Ae Ak Ca : Option Addr} {ne ce nk ck na ca9 : Nat} (h : OwC w lo k Ae ne ce Ak nk ck Ca na ca9) : RdP w ⟨k, ⟨Ae, ne, ce⟩, ⟨Ak, nk, ck⟩, ⟨Ca, na, ca9⟩⟩ := ⟨h.rdT, h.len, h.ctx.rd⟩
theorem RdP.zero (w : World) : RdP w ⟨noneK, ⟨none, 0, 0⟩, ⟨none, 0, 0⟩, ⟨none, 0, 0⟩⟩ := ⟨RdT.none _ _ _ _, rfl, Rd.nil _⟩
set_option maxRecDepth 100000 in
theorem awRd (w : World) : ∃ (W : World) (g : Nat), Hid (W = (((w.alloc (.cells #[.int .i64 1, .int .i64 1] 48)).alloc (.cells #[.int .i64 1, .int .i64 1, .string ⟨#[]⟩, .int .i64 0] 58)).alloc (.cells #[.int .i64 1, .int .i64 1, .int .i64 1] 55)).alloc (.cells #[.slice (some ⟨w.heap.size + 1, 0, none⟩) 1 1, .slice none 0 0, .slice (some ⟨w.heap.size + 1 + 1, 0, none⟩) 1 1] 29)) ∧ Hid (g = w.heap.size) ∧ Hid (RdP W ⟨(awT, awC), ⟨some ⟨g + 1, 0, none⟩, 1, 1⟩, ⟨none, 0, 0⟩, ⟨some ⟨g + 1 + 1, 0, none⟩, 1, 1⟩⟩) ∧ Hid (Kept [(⟨g + 1 + 1 + 1, 0, none⟩, .slice (some ⟨g + 1, 0, none⟩) 1 1), (⟨g + 1 + 1 + 1, 1, none⟩, .slice none 0 0), (⟨g + 1 + 1 + 1, 2, none⟩, .slice (some ⟨g + 1 + 1, 0, none⟩) 1 1)] w W) := by
  refine ⟨_, _, rfl, rfl, ?_, ?_⟩
  · refine ⟨?_, rfl, ?_⟩
    · show RdT _ _ (T.mk _ _) _ _
      rw [rdT_mk]
      refine ⟨rfl, ⟨rfl, Nat.le_refl _, fun u hu => ?_, fun _ => ⟨_, _, rfl, by simp; try omega, fun j u hu => ?_⟩⟩, rfl, [], Rd.nil _, fun i hi => by simp at hi⟩
      · simp [entsC, entC] at hu
        rcases hu with rfl | rfl | rfl <;> rfl
      · rcases (by have := List.getElem?_eq_some_iff.1 hu; obtain ⟨h, _⟩ := this; simp [entsC, entC] at h; omega : j = 0 ∨ j = 1 ∨ j = 2 ∨ j = 3) with rfl | rfl | rfl | rfl <;> (simp [entsC, entC] at hu; subst hu; go_simp)
    · refine ⟨rfl, Nat.le_refl _, fun u hu => ?_, fun _ => ⟨_, _, rfl, by simp; try omega, fun j u hu => ?_⟩⟩
      · simp [spsC, spC, awC] at hu
        rw [hu]; rfl
      · rcases (by have := List.getElem?_eq_some_iff.1 hu; obtain ⟨h, _⟩ := this; simp [spsC, spC, awC] at h; omega : j = 0 ∨ j = 1 ∨ j = 2) with rfl | rfl | rfl <;> (simp [spsC, spC, awC] at hu; subst hu; go_simp)
  · have hb : Below w.heap.size w ((((w.alloc (.cells #[.int .i64 1, .int .i64 1] 48)).alloc (.cells #[.int .i64 1, .int .i64 1, .string ⟨#[]⟩, .int .i64 0] 58)).alloc (.cells #[.int .i64 1, .int .i64 1, .int .i64 1] 55)).alloc (.cells #[.slice (some ⟨w.heap.size + 1, 0, none⟩) 1 1, .slice none 0 0, .slice (some ⟨w.heap.size + 1 + 1, 0, none⟩) 1 1] 29)) := ((((Below.refl _ _).alloc (Nat.le_refl _) _).alloc (by simp) _).alloc (by simp; omega) _).alloc (by simp; omega) _
    refine (((Kept.nil_of hb).cons_of ?_).cons_of ?_).cons_of ?_ <;> go_simp
set_option maxRecDepth 100000 in
set_option maxHeartbeats 4000000 in
theorem awake_any (w : World) : Calls Tryz.prog 13 #[] w fun e w' => e = .returned (.bool true) ∧ Below w.heap.size w w' := by
  obtain ⟨W, g, HW, HG, HA, HKc⟩ := awRd w
  have c0 := HKc.out.c0
  have c1 := HKc.out.c1
  have c2 := HKc.out.c2
  have HJ := Lib.hid (joinE_any awT none_ awC [] (some ⟨g + 1, 0, none⟩) none (some ⟨g + 1 + 1, 0, none⟩) none none none 1 0 1 0 1 1 0 0 0 0 0 0 W (by rw [awNodes]; omega) rfl (by omega) HA.out.tree HA.out.ctx (by rw [nodes_none]; omega) rfl (by omega) (RdP.zero W).tree (RdP.zero W).ctx)
  go_enter Tryz.func13, Tryz.ntmps13
  go_wp2_with fail
  rw [← HW.out, ← HG.out]
  refine HJ.out.mono ?_
  rintro e v1 ⟨x, y, hxy, Re, rn, rc, Rk, rm, rd, Rc, rq, re, rfl, how, hb9⟩
  obtain ⟨rfl, hj, _⟩ := hxy.1 ⟨awRight, right_noneK⟩
  obtain rfl : x = (awT, awC) := join_none2 awRight hj
  obtain ⟨v2, hv2⟩ : ∃ v, v = v1.alloc (.cells #[.slice Re rn rc, .slice Rk rm rd, .slice Rc rq re] 29) := ⟨_, rfl⟩
  obtain ⟨h, hh⟩ : ∃ h, h = v1.heap.size := ⟨_, rfl⟩
  have hb2 : Below v1.heap.size v1 v2 := by rw [hv2]; exact Dt.box_below _ _ _
  have HA := Lib.hid ((HA.out.later hb9).later hb2)
  have HOW := Lib.hid (RdP.of_own (how.later hb2))
  have HKc := Lib.hid ((HKc.out.later hb9).later hb2)
  have HV2 := Lib.hid hv2
  have HH := Lib.hid hh
  have x0 : v2.cell? ⟨h, 0, none⟩ = some (.slice Re rn rc) := by rw [hv2, hh]; go_simp
  have x1 : v2.cell? ⟨h, 1, none⟩ = some (.slice Rk rm rd) := by rw [hv2, hh]; go_simp
  have x2 : v2.cell? ⟨h, 2, none⟩ = some (.slice Rc rq re) := by rw [hv2, hh]; go_simp
  rw [HV2.out, HH.out] at x0 x1 x2
  clear hxy hj how hb9 hb2 hv2 hh c0 c1 c2
  have c0 := HKc.out.c0
  have c1 := HKc.out.c1
  have c2 := HKc.out.c2
  rw [HV2.out] at c0 c1 c2
  have HS := Lib.hid (refsameK_any awT awT awC awC Re Rk Rc (some ⟨g + 1, 0, none⟩) none (some ⟨g + 1 + 1, 0, none⟩) rn rm rc rd rq re 1 0 1 0 1 1 v2 true (decide_eq_true rfl) (by rw [awNodes]; omega) HOW.out.len (by have := HOW.out.len; have h1 : awC.length = 1 := rfl; have h2 : awC.length = rq := HOW.out.len; omega) HOW.out.tree HOW.out.ctx HA.out.len HA.out.tree HA.out.ctx)
  go_wp2_with fail
  rw [← HV2.out]
  refine HS.out.mono ?_
  rintro e v3 ⟨rfl, hb9⟩
  have HA := Lib.hid (HA.out.later hb9)
  have HKc := Lib.hid (HKc.out.later hb9)
  clear hb9 x0 x1 x2 c0 c1 c2
  have c0 := HKc.out.c0
  have c1 := HKc.out.c1
  have c2 := HKc.out.c2
  have HR := Lib.hid (rightK_any awT awC (some ⟨g + 1, 0, none⟩) none (some ⟨g + 1 + 1, 0, none⟩) 1 0 1 0 1 1 v3 (by rw [awNodes]; omega) rfl (by omega) HA.out.tree HA.out.ctx)
  rw [rightKB_iff.2 awRight] at HR
  go_wp2_with fail
  refine HR.out.mono ?_
  rintro e v4 ⟨rfl, hb9⟩
  have HKc := Lib.hid (HKc.out.later hb9)
  clear hb9 c0 c1 c2
  go_wp2_with fail
  go_ret
  exact ⟨rfl, HKc.out.below⟩
set_option maxRecDepth 100000 in
theorem cau_of_trod {H : Type} {enc : TypeId × Value → H} {W : World} {fuel : Nat} {cs : List Value} {x : DataW H × List MemPlace} (h : DataW.trod enc Tryz.prog W 0 (fun _ => true) true fuel 29 cs = some x) (hw : ∀ m ∈ x.1.weights Tryz.prog 29, m ≤ reachBytes) :
    ∃ p : CP, cs = cpV p ∧ RdP W p ∧ LenT reachBytes p.k.1 := by
  obtain ⟨f0, f1, hT, t0, o0, t1, o1⟩ : ∃ f0 f1 : Field, Tryz.prog.underlying 29 = some (.struct #[f0, f1]) ∧ f0.type = 25 ∧ f0.offset = 0 ∧ f1.type = 27 ∧ f1.offset = 2 := ⟨_, _, Tryz.underlying29, rfl, rfl, rfl, rfl⟩
  obtain ⟨xs, n, rfl, rfl, hlen, hxl, hfs⟩ := DataW.trod_struct hT h
  have hc3 : Tryz.prog.cellsOf 29 = 3 := by kernel_rfl
  have hc2 : Tryz.prog.cellsOf 25 = 2 := by kernel_rfl
  have hc1 : Tryz.prog.cellsOf 27 = 1 := by kernel_rfl
  rw [hc3] at hlen
  obtain ⟨c0, c1, c2, rfl⟩ : ∃ c0 c1 c2, cs = [c0, c1, c2] := by
    match cs, hlen with
    | [c0, c1, c2], _ => exact ⟨_, _, _, rfl⟩
  have h0 := hfs 0 f0 rfl
  have h1 := hfs 1 f1 rfl
  rw [t0, o0, hc2, List.getElem?_eq_getElem (by rw [hxl]; simp)] at h0
  rw [t1, o1, hc1, List.getElem?_eq_getElem (by rw [hxl]; simp)] at h1
  simp at h0 h1
  obtain ⟨x0, x1, rfl⟩ : ∃ x0 x1, xs = [x0, x1] := by
    match xs, hxl with
    | [x0, x1], _ => exact ⟨_, _, rfl⟩
  simp at h0 h1
  have hw0 : ∀ m ∈ x0.1.weights Tryz.prog 25, m ≤ reachBytes := fun m hm => hw m (by simp only [DataW.weights, hT]; simp [DataW.weightsEach, t0, t1, hm])
  obtain ⟨t, se, sk, e1, hr, hl⟩ := tree_of_trod types _ h0 hw0
  simp at e1
  obtain ⟨rfl, rfl⟩ := e1
  obtain ⟨A, nn, cc, rfl⟩ : ∃ A nn cc, c2 = .slice A nn cc := by
    rcases DataW.trod_slice Tryz.underlying27 h1 with ⟨e, _⟩ | ⟨a, len, cap, _, _, _, _, e, _⟩ <;> exact ⟨_, _, _, by simpa using e⟩
  obtain ⟨l, hl1, hl2, _⟩ := ctx_of_trod (A := A) (len := nn) (cap := cc) h1
  exact ⟨⟨(t, l), se, sk, ⟨A, nn, cc⟩⟩, rfl, ⟨hr, hl1, hl2⟩, hl⟩
set_option maxRecDepth 100000 in
theorem cauV_of_trod {H : Type} {enc : TypeId × Value → H} {W : World} {b0 : Nat} {v : Value} {d : DataW H} {p : List MemPlace}
    (hv : Value.okWide Tryz.prog W .any b0 29 v) (h : DataW.Trod enc Tryz.prog W 0 (fun _ => true) true 29 v d p) (hw : ∀ m ∈ d.weights Tryz.prog 29, m ≤ reachBytes) :
    ∃ (t : T) (cs : List S3) (Ae Ak Ca : Option Addr) (ne nk ce ck na ca9 : Nat), v = .agg #[.slice Ae ne ce, .slice Ak nk ck, .slice Ca na ca9] ∧ RdP W ⟨(t, cs), ⟨Ae, ne, ce⟩, ⟨Ak, nk, ck⟩, ⟨Ca, na, ca9⟩⟩ ∧ LenT reachBytes t := by
  obtain ⟨cs, rfl, hsz⟩ : ∃ cs, v = .agg cs ∧ cs.size = Tryz.prog.cellsOf 29 := by
    simp only [Value.okWide, Tryz.underlying29] at hv
    obtain ⟨cs, h1, h2, _⟩ := hv
    exact ⟨cs, h1, h2⟩
  obtain ⟨fuel, hf⟩ := h
  obtain ⟨⟨⟨t, l⟩, ⟨Ae, ne, ce⟩, ⟨Ak, nk, ck⟩, ⟨Ca, na, ca9⟩⟩, he, hr, hl⟩ := cau_of_trod hf hw
  refine ⟨t, l, Ae, Ak, Ca, ne, nk, ce, ck, na, ca9, ?_, hr, hl⟩
  have : cs.toList = [.slice Ae ne ce, .slice Ak nk ck, .slice Ca na ca9] := he
  rw [← Array.toArray_toList (xs := cs), this]
end Cs
end Go.Proofs.YtcbclefemcmhpaaGreat
