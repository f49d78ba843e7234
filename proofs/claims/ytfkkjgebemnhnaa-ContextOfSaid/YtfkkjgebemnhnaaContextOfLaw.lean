/- ContextOf answers true for every list of dots. No condition. -/
import Derived.Test.YtfkkjgebemnhnaaCtxRef3
import Derived.Test.YtfkkjgebemnhnaaCtxAwake
import Derived.Test.YtfkkjgebemnhnaaCtxArgs
import Derived.ProofKit
import Derived.OpenShut
namespace Go.Proofs.Ytfkkjgebemnhnaa.lawContextOf
open Go.ChangeShapes Go.WideShapes Go.ChangeAt Go.RowKit Sp Rw Cx
theorem ofC_good (l : List (Int × Int)) (n : Nat) (A : Option Addr) (c : Nat) (w : World) (hl : l.length = n) (hn : n ≤ 1000) (hr : Rd w w.heap.size 2 A n c (l.flatMap Cx.dotC)) (hg : goodD l) :
    Calls Try.prog 23 #[.slice A n c] w fun e w' => ∃ u q A c, e = .returned (.tuple #[.slice A q c, .int .i64 0]) ∧ Hid (u.length = q) ∧ Hid (OfC l u) ∧ q ≤ 4 * n ∧ Hid (Rd w' w'.heap.size 3 A q c (spsC u)) ∧ Below w.heap.size w w' := by
  refine (ofC_any l n A c w hl hn hr).mono ?_
  rintro e w' (⟨_, h⟩ | ⟨h, _⟩)
  · exact h
  · exact absurd hg h
theorem ofC_bad (l : List (Int × Int)) (n : Nat) (A : Option Addr) (c : Nat) (w : World) (hl : l.length = n) (hn : n ≤ 1000) (hr : Rd w w.heap.size 2 A n c (l.flatMap Cx.dotC)) (hg : ¬ goodD l) :
    Calls Try.prog 23 #[.slice A n c] w fun e w' => e = .returned (.tuple #[.slice none 0 0, .int .i64 1]) ∧ Below w.heap.size w w' := by
  refine (ofC_any l n A c w hl hn hr).mono ?_
  rintro e w' (⟨h, _⟩ | ⟨_, h⟩)
  · exact absurd h hg
  · exact h
set_option maxRecDepth 100000 in
set_option maxHeartbeats 2000000 in
theorem walk_any (ua : List (Int × Int)) (Aa : Option Addr) (ca : Nat) (w : World) (hra : Rd w w.heap.size 2 Aa ua.length ca (ua.flatMap Cx.dotC)) :
    Calls Try.prog 4 #[.slice Aa ua.length ca] w fun e w' => e = .returned (.bool true) ∧ Below w.heap.size w w' := by
  obtain ⟨na, hna⟩ : ∃ n, n = ua.length := ⟨_, rfl⟩
  rw [← hna] at hra ⊢
  have HLa : Hid (ua.length = na) := hna.symm
  have Ra := Lib.hid hra
  clear hra hna
  have HB0 : Hid (Below w.heap.size w w) := Below.refl _ _
  by_cases h40 : na ≤ 40
  · have f1 : decide ((40 : Int) < na) = false := decide_eq_false (by omega)
    by_cases hg : goodD ua
    · have HG := Lib.hid hg
      clear hg
      go_enter Try.func4, Try.ntmps4
      go_wp2_with fail
      refine (Cx.awake_any _).mono ?_
      rintro e w1 ⟨rfl, hb⟩
      have HB1 := Lib.hid (HB0.out.trans (hb.mono HB0.out.size))
      have Ra := Lib.hid (Ra.out.later hb)
      clear hb
      go_wp2_with fail
      refine (ofC_good ua na Aa ca w1 HLa.out (by omega) Ra.out HG.out).mono ?_
      rintro e w2 ⟨uu, nu, Au, cu, rfl, HLu, HSu, hqu, Ru, hb⟩
      have HB2 := Lib.hid (HB1.out.trans (hb.mono HB1.out.size))
      have Ra := Lib.hid (Ra.out.later hb)
      clear hb
      go_wp2
      go_loopw [21] (fun i wr => ∃ (k : Nat), k ≤ na ∧ i = .int .i64 k ∧ Hid (Below w2.heap.size w2 wr)) (fun i _ => na - (intOf i).toNat)
      case atStart => exact ⟨0, by omega, rfl, Below.refl _ _⟩
      case round =>
        obtain ⟨k, hk, rfl, HBL⟩ := hrel
        have RA := Lib.hid (Ra.out.later HBL.out)
        by_cases hlt : k < na
        · have hkl : k < ua.length := by rw [HLa.out]; exact hlt
          obtain ⟨b, o, rfl, hbl, hc⟩ := rd_dot RA.out hlt
          obtain ⟨q0, q1⟩ := hc k hkl
          obtain ⟨x, hx⟩ : ∃ x, x = ua[k] := ⟨_, rfl⟩
          have hmem : x ∈ ua := by rw [hx]; exact List.getElem_mem hkl
          have htk : ua.take (k + 1) = ua.take k ++ [x] := by rw [hx]; exact List.take_succ_eq_append_getElem hkl
          rw [← hx] at q0 q1
          obtain ⟨dc, y⟩ := x
          dsimp only at q0 q1
          have HRT := Lib.hid (Dt.refright_any dc y wr)
          have hrb := HG.out (dc, y) hmem
          dsimp only at hrb
          rw [hrb] at HRT
          clear hc hx hmem htk hrb
          go_wp2_with (go_at_call 24; refine HRT.out.mono ?_; rintro e w1 ⟨rfl, hb1⟩; have HB1 := Lib.hid (HBL.out.trans (hb1.mono HBL.out.size)); clear hb1)
          go_roundw
          case rel => exact ⟨k + 1, by omega, by go_num, HB1.out⟩
          case measure => simp [intOf]; omega
        · obtain rfl : k = na := by omega
          have Ru := Lib.hid (Ru.out.later HBL.out)
          have HB3 := Lib.hid (HB2.out.trans (HBL.out.mono HB2.out.size))
          go_wp2_with fail
          refine (refofC_any ua k Aa ca _ HLa.out (by omega) RA.out HG.out uu HSu.out nu HLu.out (by omega)).mono ?_
          rintro e w9 ⟨Ap, cp, rfl, hrp, hb⟩
          have Ru := Lib.hid (Ru.out.later hb)
          have HB9 := Lib.hid (HB3.out.trans (hb.mono HB3.out.size))
          have Rp := Lib.hid hrp
          clear hb hrp
          go_wp2_with fail
          refine (refsameC_any uu uu nu nu Au Ap cu cp _ HLu.out HLu.out (by omega) Ru.out Rp.out true (by simp)).mono ?_
          rintro e w10 ⟨rfl, hb⟩
          have HB10 := Lib.hid (HB9.out.trans (hb.mono HB9.out.size))
          go_wp2
          go_ret
          exact ⟨rfl, HB10.out⟩
    · have HG := Lib.hid hg
      clear hg
      go_enter Try.func4, Try.ntmps4
      go_wp2_with fail
      refine (Cx.awake_any _).mono ?_
      rintro e w1 ⟨rfl, hb⟩
      have HB1 := Lib.hid (HB0.out.trans (hb.mono HB0.out.size))
      have Ra := Lib.hid (Ra.out.later hb)
      clear hb
      go_wp2_with fail
      refine (ofC_bad ua na Aa ca w1 HLa.out (by omega) Ra.out HG.out).mono ?_
      rintro e w2 ⟨rfl, hb⟩
      have HB2 := Lib.hid (HB1.out.trans (hb.mono HB1.out.size))
      have Ra := Lib.hid (Ra.out.later hb)
      clear hb
      go_wp2
      go_loopw [21] (fun i wr => ∃ (k : Nat), k ≤ na ∧ i = .int .i64 k ∧ Hid (goodD (ua.take k)) ∧ Hid (Below w2.heap.size w2 wr)) (fun i _ => na - (intOf i).toNat)
      case atStart => exact ⟨0, by omega, rfl, fun x hx => by simp at hx, Below.refl _ _⟩
      case round =>
        obtain ⟨k, hk, rfl, HK, HBL⟩ := hrel
        have RA := Lib.hid (Ra.out.later HBL.out)
        by_cases hlt : k < na
        · have hkl : k < ua.length := by rw [HLa.out]; exact hlt
          obtain ⟨b, o, rfl, hbl, hc⟩ := rd_dot RA.out hlt
          obtain ⟨q0, q1⟩ := hc k hkl
          obtain ⟨x, hx⟩ : ∃ x, x = ua[k] := ⟨_, rfl⟩
          have hmem : x ∈ ua := by rw [hx]; exact List.getElem_mem hkl
          have htk : ua.take (k + 1) = ua.take k ++ [x] := by rw [hx]; exact List.take_succ_eq_append_getElem hkl
          rw [← hx] at q0 q1
          obtain ⟨dc, y⟩ := x
          dsimp only at q0 q1
          have HRT := Lib.hid (Dt.refright_any dc y wr)
          cases hrb : Dt.rightB dc y with
          | false =>
            rw [hrb] at HRT
            clear hc hx hmem htk hrb
            go_wp2_with (go_at_call 24; refine HRT.out.mono ?_; rintro e w1 ⟨rfl, hb1⟩; have HB1 := Lib.hid (HBL.out.trans (hb1.mono HBL.out.size)); clear hb1)
            go_ret
            exact ⟨rfl, HB2.out.trans (HB1.out.mono HB2.out.size)⟩
          | true =>
            rw [hrb] at HRT
            have HK2 : Hid (goodD (ua.take (k + 1))) := fun z hz => by
              rw [htk] at hz
              rcases List.mem_append.1 hz with hz | hz
              · exact HK.out z hz
              · rw [List.mem_singleton.1 hz]; exact hrb
            clear hc hx hmem htk hrb
            go_wp2_with (go_at_call 24; refine HRT.out.mono ?_; rintro e w1 ⟨rfl, hb1⟩; have HB1 := Lib.hid (HBL.out.trans (hb1.mono HBL.out.size)); clear hb1)
            go_roundw
            case rel => exact ⟨k + 1, by omega, by go_num, HK2.out, HB1.out⟩
            case measure => simp [intOf]; omega
        · exfalso
          have := HK.out
          rw [List.take_of_length_le (by rw [HLa.out]; omega)] at this
          exact HG.out this
  · have f1 : decide ((40 : Int) < na) = true := decide_eq_true (by omega)
    go_enter Try.func4, Try.ntmps4
    go_wp2_with fail
    refine (Cx.awake_any _).mono ?_
    rintro e w1 ⟨rfl, hb⟩
    have HB1 := Lib.hid (HB0.out.trans (hb.mono HB0.out.size))
    have Ra := Lib.hid (Ra.out.later hb)
    clear hb
    go_wp2_with fail
    refine (Cx.awake_any _).mono ?_
    rintro e w2 ⟨rfl, hb⟩
    have HB2 := Lib.hid (HB1.out.trans (hb.mono HB1.out.size))
    have Ra := Lib.hid (Ra.out.later hb)
    clear hb
    go_wp2
    go_ret
    exact ⟨rfl, HB2.out⟩
set_option maxRecDepth 100000 in
theorem lifted (os : Os) (started : os.Started) (H : Type) (enc : TypeId × Value → H) :
    ReturnsInHanded {} Try.checked os 4 .any (Rows.contextOfSpec.pre6 enc Try.prog Try.f4 Rows.contextOfRow.domain false) (Rows.contextOfSpec.post enc Try.prog Try.f4 false true false false) := by
  refine returnsInHanded_of_change (C := Try.checked) own started (by kernel_rfl) Try.func4
    (ChangeSpec.witness6 (enc := enc) (C := Try.checked) false ⟨#[], #[.slice none 0 0], []⟩ 8 (by kernel_rfl) (by kernel_rfl) (by kernel_rfl) (by kernel_rfl)) ?_
  intro W base args ds gs before hval0 hW _ _
  have hval : ∀ (j : Nat) t v, Try.f4.params[j]? = some t → args[j]? = some v → Value.okWide Try.prog W .any base t v := hval0
  have hW' := hW
  obtain ⟨p, q, hA0, hV, rfl, hfz, hnd⟩ := hW
  have hA : DataW.TrodAll enc Try.prog W 0 (fun _ => true) true Try.f4.params.toList args.toList ds p := hA0
  rw [Try.params4] at hA hval
  obtain ⟨v0, d0, rfl, rfl, h0⟩ := trodAll_one hA
  obtain ⟨rfl, rfl⟩ := trodVars_none hV
  obtain ⟨a0, len0, cap0, rfl⟩ := okWide_slice Try.underlying35 (hval 0 35 v0 rfl rfl)
  obtain ⟨fuel0, hf0⟩ := h0
  obtain ⟨l0, rfl, hr0, _⟩ := Cx.dots_of_trod hf0
  refine (walk_any l0 a0 cap0 W hr0).mono fun e W' ⟨he, hb⟩ => ?_
  subst he
  exact ⟨_, rfl, law_post hW' (by kernel_rfl) rfl rfl rfl hb⟩
theorem proved : Rows.ContextOfSaid :=
  OpenClaim.holds_of_wide 4 Try.f4 rfl rfl rfl rfl rfl rfl rfl ⟨rfl, rfl, rfl, rfl, rfl⟩ rfl rfl rfl rfl rfl (by kernel_rfl) Try.func4 (by kernel_rfl)
    (of_decide_eq_true (by kernel_rfl)) (by unfold Func.isWrapper; first | (rw [if_pos (by decide +kernel)]; kernel_rfl) | (rw [if_neg (by decide +kernel)]; exact ⟨rfl, rfl⟩))
    (fun os started H enc _ => lifted os started H enc)
#print axioms proved
end Go.Proofs.Ytfkkjgebemnhnaa.lawContextOf
