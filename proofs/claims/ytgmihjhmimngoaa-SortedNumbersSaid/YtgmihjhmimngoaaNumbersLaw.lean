/- SortedNumbers answers true for every list of numbers and every number asked for, and leaves both as they were. No condition. -/
import Derived.Test.YtgmihjhmimngoaaNumbers
import Derived.Test.YtgmihjhmimngoaaLaw
namespace Go.Proofs.Ytgmihjhmimngoaa.lawSortedNumbers
open Go.ChangeShapes Go.WideShapes Go.ChangeAt Go.RowKit
set_option maxRecDepth 100000 in
theorem lifted (os : Os) (started : os.Started) (H : Type) (enc : TypeId × Value → H) :
    ReturnsInHanded {} Try.checked os 5 .any (Rows.sortedNumbersSpec.pre6 enc Try.prog Try.f5 Rows.sortedNumbersRow.domain false) (Rows.sortedNumbersSpec.post enc Try.prog Try.f5 false true false false) := by
  refine returnsInHanded_of_change (C := Try.checked) own started (by kernel_rfl) Try.func5
    (ChangeSpec.witness6 (enc := enc) (C := Try.checked) false ⟨#[], #[.slice none 0 0, .int .i64 0], []⟩ 8 (by kernel_rfl) (by kernel_rfl) (by kernel_rfl) (by kernel_rfl)) ?_
  intro W base args ds gs before hval0 hW _ _
  have hval : ∀ (j : Nat) t v, Try.f5.params[j]? = some t → args[j]? = some v → Value.okWide Try.prog W .any base t v := hval0
  have hW' := hW
  obtain ⟨p, q, hA0, hV, rfl, hfz, hnd⟩ := hW
  have hA : DataW.TrodAll enc Try.prog W 0 (fun _ => true) true Try.f5.params.toList args.toList ds p := hA0
  rw [Try.params5] at hA hval
  obtain ⟨v0, v1, d0, d1, p0, p1, rfl, rfl, rfl, h0, h1⟩ := trodAll_two hA
  obtain ⟨rfl, rfl⟩ := trodVars_none hV
  obtain ⟨ask, rfl, rfl, rfl, w1⟩ := open_int Try.underlying2 (hval 1 2 v1 rfl rfl) h1
  obtain ⟨a0, len, cap, rfl⟩ := okWide_slice Try.underlying38 (hval 0 38 v0 rfl rfl)
  obtain ⟨fuel, hf⟩ := h0
  have key : ∃ l : List Int, l.length = len ∧ Rd W W.heap.size 1 a0 len cap (l.map (Value.int .i64)) ∧ len ≤ maxLen := by
    rcases open_ints Try.underlying38 Try.underlying2 (by kernel_rfl) hf with ⟨hcs, _⟩ | ⟨a, len', cap', zs, hcs, _, hl, hm, hz, _, hcell, _⟩
    · simp only [Value.cells] at hcs
      injection hcs with hcs
      injection hcs with h1 h2 h3
      subst h1; subst h2; subst h3
      exact ⟨[], rfl, Rd.nil _, by simp [maxLen]⟩
    · simp only [Value.cells] at hcs
      injection hcs with hcs
      injection hcs with h1 h2 h3
      subst h1; subst h2; subst h3
      simp only [if_true] at hz
      refine ⟨zs.take len, by simp; omega, rd_of_cells (by simp; omega) hl (by intro u hu; obtain ⟨z, _, rfl⟩ := List.mem_map.1 hu; rfl) (by omega) ?_, Nat.le_trans hl hm⟩
      intro j u hu
      rw [List.getElem?_map, List.getElem?_take] at hu
      split at hu
      · have hj : j < zs.length := by omega
        rw [List.getElem?_eq_getElem hj] at hu
        simp only [Option.map_some, Option.some.injEq] at hu
        subst hu
        have := hcell j hj
        simpa [List.getD_eq_getElem?_getD, List.getElem?_eq_getElem hj] using this
      · simp at hu
  obtain ⟨l, rfl, hrd, hlen⟩ := key
  refine (SortN.numbers_any l ask a0 cap W hrd hlen).mono fun e W' ⟨he, hb⟩ => ?_
  subst he
  exact ⟨_, rfl, law_post hW' (by kernel_rfl) rfl rfl rfl hb⟩
theorem proved : Rows.SortedNumbersSaid :=
  OpenClaim.holds_of_wide 5 Try.f5 rfl rfl rfl rfl rfl rfl rfl ⟨rfl, rfl, rfl, rfl, rfl⟩ rfl rfl rfl rfl rfl (by kernel_rfl) Try.func5 (by kernel_rfl)
    (of_decide_eq_true (by kernel_rfl)) (by unfold Func.isWrapper; first | (rw [if_pos (by decide +kernel)]; kernel_rfl) | (rw [if_neg (by decide +kernel)]; exact ⟨rfl, rfl⟩))
    (fun os started H enc _ => lifted os started H enc)
#print axioms proved
end Go.Proofs.Ytgmihjhmimngoaa.lawSortedNumbers
