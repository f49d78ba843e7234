/- SpanOf answers true for every list of whole numbers. No condition. -/
import Derived.Test.YtcdpmedihgobcaaSpanKit0
import Derived.ProofKit
import Derived.OpenShut
namespace Go.Proofs.Ytcdpmedihgobcaa.lawSpanOf
open Go.ChangeShapes Go.WideShapes Go.ChangeAt Go.RowKit Sp
theorem of_good (ns : List Int) (n : Nat) (A : Option Addr) (c : Nat) (w : World) (hl : ns.length = n) (hn : n ≤ 100000) (hr : Rd w w.heap.size 1 A n c (intsC ns)) (hg : ∀ x ∈ ns, 1 ≤ x ∧ x ≤ 1099511627776) :
    Calls Try.prog 19 #[.slice A n c] w fun e w' => ∃ u q A' c', e = .returned (.tuple #[.slice A' q c', .int .i64 0]) ∧ Hid (u.length = q) ∧ Hid (SetIs ns u) ∧ q ≤ n ∧ Hid (Rd w' w'.heap.size 2 A' q c' (runsC u)) ∧ Below w.heap.size w w' := by
  refine (of_any ns n A c w hl hn hr).mono ?_
  rintro e w2 (⟨_, l, A, c, rfl, hs, hq, ho, hb⟩ | ⟨⟨x, hx, hx2⟩, _⟩)
  · exact ⟨l, l.length, A, c, rfl, rfl, hs, by omega, ho.rd, hb⟩
  · have := hg x hx
    omega
theorem of_bad (ns : List Int) (n : Nat) (A : Option Addr) (c : Nat) (w : World) (hl : ns.length = n) (hn : n ≤ 100000) (hr : Rd w w.heap.size 1 A n c (intsC ns)) (hg : ¬ ∀ x ∈ ns, 1 ≤ x ∧ x ≤ 1099511627776) :
    Calls Try.prog 19 #[.slice A n c] w fun e w' => e = .returned (.tuple #[.slice none 0 0, .int .i64 1]) ∧ Below w.heap.size w w' := by
  refine (of_any ns n A c w hl hn hr).mono ?_
  rintro e w2 (⟨h, _⟩ | ⟨_, he, hb⟩)
  · exact absurd h hg
  · exact ⟨he, hb⟩
theorem refof_to (ns : List Int) (n : Nat) (A : Option Addr) (c : Nat) (w : World) (hl : ns.length = n) (hn : n ≤ 100000) (hr : Rd w w.heap.size 1 A n c (intsC ns)) (hg : ∀ x ∈ ns, 1 ≤ x ∧ x ≤ 1099511627776) (u : List (Int × Int)) (hu : SetIs ns u) (q : Nat) (hq : u.length = q) :
    Calls Try.prog 21 #[.slice A n c] w (SlIs q u w) := by
  refine (refof_any ns n A c w hl hn hr hg).mono ?_
  rintro e w' ⟨l, A', c', he, hs, ho, hb⟩
  have := hs.eq hu
  subst this; subst hq
  exact ⟨A', c', he, ho.rd, hb⟩
set_option maxRecDepth 100000 in
set_option maxHeartbeats 2000000 in
theorem walk_any (ua : List Int) (Aa : Option Addr) (ca : Nat) (w : World) (hra : Rd w w.heap.size 1 Aa ua.length ca (intsC ua)) :
    Calls Try.prog 4 #[.slice Aa ua.length ca] w fun e w' => e = .returned (.bool true) ∧ Below w.heap.size w w' := by
  obtain ⟨na, hna⟩ : ∃ n, n = ua.length := ⟨_, rfl⟩
  rw [← hna] at hra ⊢
  have HLa : Hid (ua.length = na) := hna.symm
  have Ra := Lib.hid hra
  clear hra hna
  have HB0 : Hid (Below w.heap.size w w) := Below.refl _ _
  by_cases h40 : na ≤ 40
  · have f1 : decide ((40 : Int) < na) = false := decide_eq_false (by omega)
    by_cases hg : ∀ x ∈ ua, 1 ≤ x ∧ x ≤ 1099511627776
    · have HG := Lib.hid hg
      clear hg
      go_enter Try.func4, Try.ntmps4
      go_wp2_with fail
      refine (awake_any _).mono ?_
      rintro e w1 ⟨rfl, hb⟩
      have HB1 := Lib.hid (HB0.out.trans (hb.mono HB0.out.size))
      have Ra := Lib.hid (Ra.out.later hb)
      clear hb
      go_wp2_with fail
      refine (of_good ua na Aa ca w1 HLa.out (by omega) Ra.out HG.out).mono ?_
      rintro e w2 ⟨uu, nu, Au, cu, rfl, HLu, HSu, hqu, Ru, hb⟩
      have HB2 := Lib.hid (HB1.out.trans (hb.mono HB1.out.size))
      have Ra := Lib.hid (Ra.out.later hb)
      clear hb
      go_wp2
      go_loop [21] (fun i => ∃ (k : Nat), k ≤ na ∧ i = .int .i64 k) (fun i => na - (intOf i).toNat)
      case atStart => exact ⟨0, by omega, rfl⟩
      case round =>
        obtain ⟨k, hk, rfl⟩ := hrel
        by_cases hlt : k < na
        · have hkl : k < ua.length := by rw [HLa.out]; exact hlt
          obtain ⟨b, o, rfl, hbl, hc⟩ := rd_int Ra.out HLa.out hlt
          have q0 := hc k hkl
          obtain ⟨x, hx⟩ : ∃ x, x = ua[k] := ⟨_, rfl⟩
          have hmem : x ∈ ua := by rw [hx]; exact List.getElem_mem hkl
          rw [← hx] at q0
          obtain ⟨hx1, hx2⟩ := HG.out x hmem
          have g1 : decide (x < 1) = false := decide_eq_false (by omega)
          have g2 : decide (1099511627776 < x) = false := decide_eq_false (by omega)
          clear hc hx hmem
          go_wp2
          go_round
          case rel => exact ⟨k + 1, by omega, by go_num⟩
          case measure => simp [intOf]; omega
        · go_wp2_with fail
          refine (refof_to ua na Aa ca w2 HLa.out (by omega) Ra.out HG.out uu HSu.out nu HLu.out).mono ?_
          rintro e w3 ⟨Ap, cp, rfl, hrp, hb⟩
          have HB3 := Lib.hid (HB2.out.trans (hb.mono HB2.out.size))
          have Ra := Lib.hid (Ra.out.later hb)
          have Ru := Lib.hid (Ru.out.later hb)
          clear hb
          have Rp := Lib.hid hrp
          clear hrp
          go_wp2_with fail
          refine (same_to uu uu nu nu Au Ap cu cp w3 HLu.out HLu.out (by omega) Ru.out Rp.out rfl).mono ?_
          rintro e w4 ⟨rfl, hb⟩
          have HB4 := Lib.hid (HB3.out.trans (hb.mono HB3.out.size))
          have Ra := Lib.hid (Ra.out.later hb)
          have Ru := Lib.hid (Ru.out.later hb)
          have Rp := Lib.hid (Rp.out.later hb)
          clear hb
          go_wp2
          go_ret
          exact ⟨rfl, HB4.out⟩
    · have HG := Lib.hid hg
      clear hg
      go_enter Try.func4, Try.ntmps4
      go_wp2_with fail
      refine (awake_any _).mono ?_
      rintro e w1 ⟨rfl, hb⟩
      have HB1 := Lib.hid (HB0.out.trans (hb.mono HB0.out.size))
      have Ra := Lib.hid (Ra.out.later hb)
      clear hb
      go_wp2_with fail
      refine (of_bad ua na Aa ca w1 HLa.out (by omega) Ra.out HG.out).mono ?_
      rintro e w2 ⟨rfl, hb⟩
      have HB2 := Lib.hid (HB1.out.trans (hb.mono HB1.out.size))
      have Ra := Lib.hid (Ra.out.later hb)
      clear hb
      go_wp2
      go_loop [21] (fun i => ∃ (k : Nat), k ≤ na ∧ i = .int .i64 k ∧ Hid (∀ x ∈ ua.take k, 1 ≤ x ∧ x ≤ 1099511627776)) (fun i => na - (intOf i).toNat)
      case atStart => exact ⟨0, by omega, rfl, Lib.hid (by simp)⟩
      case round =>
        obtain ⟨k, hk, rfl, HK⟩ := hrel
        by_cases hlt : k < na
        · have hkl : k < ua.length := by rw [HLa.out]; exact hlt
          obtain ⟨b, o, rfl, hbl, hc⟩ := rd_int Ra.out HLa.out hlt
          have q0 := hc k hkl
          obtain ⟨x, hx⟩ : ∃ x, x = ua[k] := ⟨_, rfl⟩
          have hmem : x ∈ ua := by rw [hx]; exact List.getElem_mem hkl
          have htk : ua.take (k + 1) = ua.take k ++ [ua[k]] := List.take_succ_eq_append_getElem hkl
          rw [← hx] at q0 htk
          rcases (by omega : x < 1 ∨ (1 ≤ x ∧ 1099511627776 < x) ∨ (1 ≤ x ∧ x ≤ 1099511627776)) with h1 | ⟨h1, h2⟩ | ⟨h1, h2⟩
          · have g1 : decide (x < 1) = true := decide_eq_true h1
            clear hc hx hmem htk
            go_wp2
            go_ret
            exact ⟨rfl, HB2.out⟩
          · have g1 : decide (x < 1) = false := decide_eq_false (by omega)
            have g2 : decide (1099511627776 < x) = true := decide_eq_true h2
            clear hc hx hmem htk
            go_wp2
            go_ret
            exact ⟨rfl, HB2.out⟩
          · have g1 : decide (x < 1) = false := decide_eq_false (by omega)
            have g2 : decide (1099511627776 < x) = false := decide_eq_false (by omega)
            have HK2 : Hid (∀ x ∈ ua.take (k + 1), 1 ≤ x ∧ x ≤ 1099511627776) := fun y hy => by
              rw [htk] at hy
              rcases List.mem_append.1 hy with hy | hy
              · exact HK.out y hy
              · rw [List.mem_singleton.1 hy]; exact ⟨h1, h2⟩
            clear hc hx hmem htk
            go_wp2
            go_round
            case rel => exact ⟨k + 1, by omega, by go_num, HK2.out⟩
            case measure => simp [intOf]; omega
        · exfalso
          have := HK.out
          rw [List.take_of_length_le (by rw [HLa.out]; omega)] at this
          exact HG.out this
  · have f1 : decide ((40 : Int) < na) = true := decide_eq_true (by omega)
    go_enter Try.func4, Try.ntmps4
    go_wp2_with fail
    refine (awake_any _).mono ?_
    rintro e w1 ⟨rfl, hb⟩
    have HB1 := Lib.hid (HB0.out.trans (hb.mono HB0.out.size))
    have Ra := Lib.hid (Ra.out.later hb)
    clear hb
    go_wp2_with fail
    refine (awake_any _).mono ?_
    rintro e w2 ⟨rfl, hb⟩
    have HB2 := Lib.hid (HB1.out.trans (hb.mono HB1.out.size))
    have Ra := Lib.hid (Ra.out.later hb)
    clear hb
    go_wp2
    go_ret
    exact ⟨rfl, HB2.out⟩
set_option maxRecDepth 100000 in
theorem lifted (os : Os) (started : os.Started) (H : Type) (enc : TypeId × Value → H) :
    ReturnsInHanded {} Try.checked os 4 .any (Rows.spanOfSpec.pre6 enc Try.prog Try.f4 Rows.spanOfRow.domain false) (Rows.spanOfSpec.post enc Try.prog Try.f4 false true false false) := by
  refine returnsInHanded_of_change (C := Try.checked) own started (by kernel_rfl) Try.func4
    (ChangeSpec.witness6 (enc := enc) (C := Try.checked) false ⟨#[], #[.slice none 0 0], []⟩ 8 (by kernel_rfl) (by kernel_rfl) (by kernel_rfl) (by kernel_rfl)) ?_
  intro W base args ds gs before hval0 hW _ _
  have hval : ∀ (j : Nat) t v, Try.f4.params[j]? = some t → args[j]? = some v → Value.okWide Try.prog W .any base t v := hval0
  have hW' := hW
  obtain ⟨p, q, hA0, hV, rfl, hfz, hnd⟩ := hW
  have hA : DataW.TrodAll enc Try.prog W 0 (fun _ => true) true Try.f4.params.toList args.toList ds p := hA0
  rw [Try.params4] at hA hval
  obtain ⟨v0, d0, rfl, rfl, h0⟩ := trodAll_one hA
  obtain ⟨rfl, rfl⟩ := trodVars_none hV
  obtain ⟨a0, len0, cap0, rfl⟩ := okWide_slice Try.underlying30 (hval 0 30 v0 rfl rfl)
  obtain ⟨fuel0, hf0⟩ := h0
  obtain ⟨l0, rfl, hr0, _⟩ := Sp.ints_of_trod hf0
  refine (walk_any l0 a0 cap0 W hr0).mono fun e W' ⟨he, hb⟩ => ?_
  subst he
  exact ⟨_, rfl, law_post hW' (by kernel_rfl) rfl rfl rfl hb⟩
theorem proved : Rows.SpanOfSaid :=
  OpenClaim.holds_of_wide 4 Try.f4 rfl rfl rfl rfl rfl rfl rfl ⟨rfl, rfl, rfl, rfl, rfl⟩ rfl rfl rfl rfl rfl (by kernel_rfl) Try.func4 (by kernel_rfl)
    (of_decide_eq_true (by kernel_rfl)) (by unfold Func.isWrapper; first | (rw [if_pos (by decide +kernel)]; kernel_rfl) | (rw [if_neg (by decide +kernel)]; exact ⟨rfl, rfl⟩))
    (fun os started H enc _ => lifted os started H enc)
#print axioms proved
end Go.Proofs.Ytcdpmedihgobcaa.lawSpanOf
