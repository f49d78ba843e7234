/- SortedPlays answers true for every list of acts, every key and every number asked for, and leaves them as they were. No condition. -/
import Derived.Test.YtolfockpiioncaaPlays
import Derived.Test.YtolfockpiioncaaLaw
namespace Go.Proofs.Ytolfockpiioncaa
open Go.ChangeShapes Go.WideShapes Go.ChangeAt Go.RowKit
theorem act_of {H : Type} {enc : TypeId × Value → H} {W : World} {base : Nat} {sp : Nat → Bool} {hd : Bool} (n : Nat) (cs : List Value) (y : DataW H × List MemPlace)
    (h : DataW.trod enc Try.prog W base sp hd n 29 cs = some y) : ∃ a : Act, cs = [.string a.key, .int .i64 a.v, .bool a.gone] := by
  obtain ⟨xs, m, _, _, hlen, hxl, hg⟩ := DataW.trod_struct Try.underlying29 h
  have hc : cs.length = 3 := hlen.trans (by kernel_rfl)
  match cs, hc with
  | [c0, c1, c2], _ =>
    have hx : xs.length = 3 := hxl
    match xs, hx with
    | [y0, y1, y2], _ =>
      have k1 : Try.prog.cellsOf 9 = 1 := by kernel_rfl
      have k2 : Try.prog.cellsOf 3 = 1 := by kernel_rfl
      have k3 : Try.prog.cellsOf 4 = 1 := by kernel_rfl
      have g0 : DataW.trod enc Try.prog W base sp hd m 9 [c0] = some y0 := by
        have h0 := hg 0 _ rfl
        change DataW.trod enc Try.prog W base sp hd m 9 (List.take (Try.prog.cellsOf 9) (List.drop 0 [c0, c1, c2])) = some y0 at h0
        rw [k1] at h0; exact h0
      have g1 : DataW.trod enc Try.prog W base sp hd m 3 [c1] = some y1 := by
        have h0 := hg 1 _ rfl
        change DataW.trod enc Try.prog W base sp hd m 3 (List.take (Try.prog.cellsOf 3) (List.drop 1 [c0, c1, c2])) = some y1 at h0
        rw [k2] at h0; exact h0
      have g2 : DataW.trod enc Try.prog W base sp hd m 4 [c2] = some y2 := by
        have h0 := hg 2 _ rfl
        change DataW.trod enc Try.prog W base sp hd m 4 (List.take (Try.prog.cellsOf 4) (List.drop 2 [c0, c1, c2])) = some y2 at h0
        rw [k3] at h0; exact h0
      obtain ⟨s, e0, _⟩ := DataW.trod_string Try.underlying9 g0
      obtain ⟨v, e1, _⟩ := DataW.trod_int Try.underlying3 g1
      obtain ⟨b, e2, _⟩ := DataW.trod_bool Try.underlying4 g2
      injection e0 with e0; injection e1 with e1; injection e2 with e2
      exact ⟨⟨s, v, b⟩, by rw [e0, e1, e2]⟩
end Go.Proofs.Ytolfockpiioncaa
namespace Go.Proofs.Ytolfockpiioncaa.lawSortedPlays
open Go.ChangeShapes Go.WideShapes Go.ChangeAt Go.RowKit
set_option maxRecDepth 100000 in
theorem lifted (os : Os) (started : os.Started) (H : Type) (enc : TypeId × Value → H) :
    ReturnsInHanded {} Try.checked os 3 .any (Rows.sortedPlaysSpec.pre6 enc Try.prog Try.f3 Rows.sortedPlaysRow.domain false) (Rows.sortedPlaysSpec.post enc Try.prog Try.f3 false true false false) := by
  refine returnsInHanded_of_change (C := Try.checked) own started (by kernel_rfl) Try.func3
    (ChangeSpec.witness6 (enc := enc) (C := Try.checked) false ⟨#[], #[.slice none 0 0, .string ByteArray.empty, .int .i64 0], []⟩ 8 (by kernel_rfl) (by kernel_rfl) (by kernel_rfl) (by kernel_rfl)) ?_
  intro W base args ds gs before hval0 hW _ _
  have hval : ∀ (j : Nat) t v, Try.f3.params[j]? = some t → args[j]? = some v → Value.okWide Try.prog W .any base t v := hval0
  have hW' := hW
  obtain ⟨p, q, hA0, hV, rfl, hfz, hnd⟩ := hW
  have hA : DataW.TrodAll enc Try.prog W 0 (fun _ => true) true Try.f3.params.toList args.toList ds p := hA0
  rw [Try.params3] at hA hval
  obtain ⟨v0, v1, v2, d0, d1, d2, p0, p1, p2, rfl, rfl, rfl, h0, h1, h2⟩ := trodAll_three hA
  obtain ⟨rfl, rfl⟩ := trodVars_none hV
  obtain ⟨t, rfl, rfl, rfl, w1⟩ := ChangeMaps.open_string Try.underlying9 (hval 1 9 v1 rfl rfl) h1
  obtain ⟨n, rfl, rfl, rfl, w2⟩ := open_int Try.underlying3 (hval 2 3 v2 rfl rfl) h2
  obtain ⟨a0, len, cap, rfl⟩ := okWide_slice Try.underlying22 (hval 0 22 v0 rfl rfl)
  obtain ⟨fuel, hf⟩ := h0
  obtain ⟨l, rfl, hrd, hlen⟩ := rd_of_trod (sz := 3) (fun a : Act => [.string a.key, .int .i64 a.v, .bool a.gone]) (fun _ => rfl) (by intro a u hu; simp only [List.mem_cons, List.not_mem_nil, or_false] at hu; rcases hu with rfl | rfl | rfl <;> rfl) (by omega) Try.underlying22 (by kernel_rfl) (fun n cs y h => act_of n cs y h) hf
  refine (SortS.plays_any l t n a0 cap W hrd hlen).mono fun e W' ⟨he, hb⟩ => ?_
  subst he
  exact ⟨_, rfl, law_post hW' (by kernel_rfl) rfl rfl rfl hb⟩
theorem proved : Rows.SortedPlaysSaid :=
  OpenClaim.holds_of_wide 3 Try.f3 rfl rfl rfl rfl rfl rfl rfl ⟨rfl, rfl, rfl, rfl, rfl⟩ rfl rfl rfl rfl rfl (by kernel_rfl) Try.func3 (by kernel_rfl)
    (of_decide_eq_true (by kernel_rfl)) (by unfold Func.isWrapper; first | (rw [if_pos (by decide +kernel)]; kernel_rfl) | (rw [if_neg (by decide +kernel)]; exact ⟨rfl, rfl⟩))
    (fun os started H enc _ => lifted os started H enc)
#print axioms proved
end Go.Proofs.Ytolfockpiioncaa.lawSortedPlays
