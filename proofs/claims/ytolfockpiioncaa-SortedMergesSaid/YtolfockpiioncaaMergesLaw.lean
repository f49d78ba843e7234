/- SortedMerges answers true for every two lists of acts, and leaves them as they were. No condition. -/
import Derived.Test.YtolfockpiioncaaStab
import Derived.Test.YtolfockpiioncaaMerges
import Derived.Test.YtolfockpiioncaaPlaysLaw
namespace Go.Proofs.Ytolfockpiioncaa.lawSortedMerges
open Go.ChangeShapes Go.WideShapes Go.ChangeAt Go.RowKit
/-- acts whose numbers are numbers of the language -/
theorem ranged_of {H : Type} {enc : TypeId × Value → H} {W : World} {base : Nat} {sp : Nat → Bool} {hd : Bool} (n : Nat) (cs : List Value) (y : DataW H × List MemPlace)
    (h : DataW.trod enc Try.prog W base sp hd n 29 cs = some y) : ∃ a : { a : Act // -9223372036854775808 ≤ a.v ∧ a.v ≤ 9223372036854775807 }, cs = [.string a.1.key, .int .i64 a.1.v, .bool a.1.gone] := by
  obtain ⟨xs, m, _, _, hlen, hxl, hg⟩ := DataW.trod_struct Try.underlying29 h
  have hc : cs.length = 3 := hlen.trans (by kernel_rfl)
  match cs, hc with
  | [c0, c1, c2], _ =>
    have hx : xs.length = 3 := hxl
    match xs, hx with
    | [y0, y1, y2], _ =>
      have k1 : Try.prog.cellsOf 9 = 1 := by kernel_rfl
      have k2 : Try.prog.cellsOf 3 = 1 := by kernel_rfl
      have k3 : Try.prog.cellsOf 4 = 1 := by kernel_rfl
      have g0 : DataW.trod enc Try.prog W base sp hd m 9 [c0] = some y0 := by
        have h0 := hg 0 _ rfl
        change DataW.trod enc Try.prog W base sp hd m 9 (List.take (Try.prog.cellsOf 9) (List.drop 0 [c0, c1, c2])) = some y0 at h0
        rw [k1] at h0; exact h0
      have g1 : DataW.trod enc Try.prog W base sp hd m 3 [c1] = some y1 := by
        have h0 := hg 1 _ rfl
        change DataW.trod enc Try.prog W base sp hd m 3 (List.take (Try.prog.cellsOf 3) (List.drop 1 [c0, c1, c2])) = some y1 at h0
        rw [k2] at h0; exact h0
      have g2 : DataW.trod enc Try.prog W base sp hd m 4 [c2] = some y2 := by
        have h0 := hg 2 _ rfl
        change DataW.trod enc Try.prog W base sp hd m 4 (List.take (Try.prog.cellsOf 4) (List.drop 2 [c0, c1, c2])) = some y2 at h0
        rw [k3] at h0; exact h0
      obtain ⟨s, e0, _⟩ := DataW.trod_string Try.underlying9 g0
      obtain ⟨v, e1, _, hw⟩ := DataW.trod_int Try.underlying3 g1
      obtain ⟨b, e2, _⟩ := DataW.trod_bool Try.underlying4 g2
      injection e0 with e0; injection e1 with e1; injection e2 with e2
      have m1 : IntKind.i64.min = -9223372036854775808 := by decide
      have m2 : IntKind.i64.max = 9223372036854775807 := by decide
      simp [Lit.wf, m1, m2] at hw
      exact ⟨⟨⟨s, v, b⟩, hw⟩, by rw [e0, e1, e2]⟩
theorem flat_ranged (l : List { a : Act // -9223372036854775808 ≤ a.v ∧ a.v ≤ 9223372036854775807 }) : l.flatMap (fun a => [Value.string a.1.key, .int .i64 a.1.v, .bool a.1.gone]) = flatA (l.map Subtype.val) := by
  unfold flatA; rw [List.flatMap_map]
theorem ranged_mem (l : List { a : Act // -9223372036854775808 ≤ a.v ∧ a.v ≤ 9223372036854775807 }) : ∀ x ∈ l.map Subtype.val, -9223372036854775808 ≤ x.v ∧ x.v ≤ 9223372036854775807 := by
  intro x hx
  obtain ⟨y, _, rfl⟩ := List.mem_map.1 hx
  exact y.2
set_option maxRecDepth 100000 in
theorem lifted (os : Os) (started : os.Started) (H : Type) (enc : TypeId × Value → H) :
    ReturnsInHanded {} Try.checked os 6 .any (Rows.sortedMergesSpec.pre6 enc Try.prog Try.f6 Rows.sortedMergesRow.domain false) (Rows.sortedMergesSpec.post enc Try.prog Try.f6 false true false false) := by
  refine returnsInHanded_of_change (C := Try.checked) own started (by kernel_rfl) Try.func6
    (ChangeSpec.witness6 (enc := enc) (C := Try.checked) false ⟨#[], #[.slice none 0 0, .slice none 0 0], []⟩ 8 (by kernel_rfl) (by kernel_rfl) (by kernel_rfl) (by kernel_rfl)) ?_
  intro W base args ds gs before hval0 hW _ _
  have hval : ∀ (j : Nat) t v, Try.f6.params[j]? = some t → args[j]? = some v → Value.okWide Try.prog W .any base t v := hval0
  have hW' := hW
  obtain ⟨p, q, hA0, hV, rfl, hfz, hnd⟩ := hW
  have hA : DataW.TrodAll enc Try.prog W 0 (fun _ => true) true Try.f6.params.toList args.toList ds p := hA0
  rw [Try.params6] at hA hval
  obtain ⟨v0, v1, d0, d1, p0, p1, rfl, rfl, rfl, h0, h1⟩ := trodAll_two hA
  obtain ⟨rfl, rfl⟩ := trodVars_none hV
  obtain ⟨a0, len, cap, rfl⟩ := okWide_slice Try.underlying22 (hval 0 22 v0 rfl rfl)
  obtain ⟨fuel, hf⟩ := h0
  obtain ⟨l, hl, hrd, hlen⟩ := rd_of_trod (sz := 3) (fun a : { a : Act // -9223372036854775808 ≤ a.v ∧ a.v ≤ 9223372036854775807 } => [.string a.1.key, .int .i64 a.1.v, .bool a.1.gone]) (fun _ => rfl) (by intro a u hu; simp only [List.mem_cons, List.not_mem_nil, or_false] at hu; rcases hu with rfl | rfl | rfl <;> rfl) (by omega) Try.underlying22 (by kernel_rfl) (fun n cs y h => ranged_of n cs y h) hf
  obtain ⟨a1, len1, cap1, rfl⟩ := okWide_slice Try.underlying22 (hval 1 22 v1 rfl rfl)
  obtain ⟨fuel1, hf1⟩ := h1
  obtain ⟨l1, hl1, hrd1, hlen1⟩ := rd_of_trod (sz := 3) (fun a : { a : Act // -9223372036854775808 ≤ a.v ∧ a.v ≤ 9223372036854775807 } => [.string a.1.key, .int .i64 a.1.v, .bool a.1.gone]) (fun _ => rfl) (by intro a u hu; simp only [List.mem_cons, List.not_mem_nil, or_false] at hu; rcases hu with rfl | rfl | rfl <;> rfl) (by omega) Try.underlying22 (by kernel_rfl) (fun n cs y h => ranged_of n cs y h) hf1
  rw [flat_ranged] at hrd hrd1
  have hll : len = (l.map Subtype.val).length := by rw [List.length_map]; exact hl.symm
  have hll1 : len1 = (l1.map Subtype.val).length := by rw [List.length_map]; exact hl1.symm
  subst hll
  subst hll1
  refine (SortS.merges_law (l.map Subtype.val) (l1.map Subtype.val) a0 a1 cap cap1 W hrd hrd1 hlen hlen1 (ranged_mem l) (ranged_mem l1) SortS.sort_any).mono fun e W' ⟨he, hb⟩ => ?_
  subst he
  exact ⟨_, rfl, law_post hW' (by kernel_rfl) rfl rfl rfl hb⟩
theorem proved : Rows.SortedMergesSaid :=
  OpenClaim.holds_of_wide 6 Try.f6 rfl rfl rfl rfl rfl rfl rfl ⟨rfl, rfl, rfl, rfl, rfl⟩ rfl rfl rfl rfl rfl (by kernel_rfl) Try.func6 (by kernel_rfl)
    (of_decide_eq_true (by kernel_rfl)) (by unfold Func.isWrapper; first | (rw [if_pos (by decide +kernel)]; kernel_rfl) | (rw [if_neg (by decide +kernel)]; exact ⟨rfl, rfl⟩))
    (fun os started H enc _ => lifted os started H enc)
#print axioms proved
end Go.Proofs.Ytolfockpiioncaa.lawSortedMerges
