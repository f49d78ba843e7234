/- CrcHash answers true for every text. No condition. -/
import Derived.Test.YtmgcodagheeedaaCrcAwake
namespace Go.Proofs.Ytmgcodagheeedaa.lawCrcHash
open Go.ChangeShapes Go.WideShapes Go.ChangeAt Go.RowKit Crc
set_option maxRecDepth 100000 in
theorem walk_any (s : ByteArray) (w : World) (hs : s.size ≤ maxLen) :
    Calls Try.prog 4 #[.string s] w fun e w' => e = .returned (.bool true) ∧ Below w.heap.size w w' := by
  clear hs
  obtain ⟨bs, hbs⟩ : ∃ bs, bs = s.data.toList.reverse := ⟨_, rfl⟩
  have hbl : bs.length = s.size := by rw [hbs]; simp
  have HBack : Hid (∀ w : World, s.size ≤ 100000 → Calls Try.prog 12 #[.string s] w (NewRow 5 1 (u8s bs) bs.length w)) := fun w h => by rw [hbs]; exact back_any s w (by omega)
  have HHash : Hid (∀ w : World, s.size ≤ 100000 → Calls Try.prog 11 #[.string s] w fun e w' => e = .returned (.int .u32 (crcN bs)) ∧ w = w') := fun w h => by rw [hbs]; exact hash_any s w (by omega)
  have HL := Lib.hid hbl
  clear hbs hbl
  obtain ⟨z, hz⟩ : ∃ z, z = crcN bs := ⟨_, rfl⟩
  have HZ := Lib.hid hz
  clear hz
  by_cases hlt : s.size ≤ 100000
  · have f1 : decide ((100000 : Int) < s.size) = false := by simp; omega
    go_enter Try.func4, Try.ntmps4
    go_wp2_with (first
      | (go_at_call 8; refine (awake_any w).mono ?_; rintro e w1 ⟨rfl, hb1⟩; have HB := Lib.hid hb1; clear hb1)
      | (go_at_call 11; refine (HHash.out w1 hlt).mono ?_; rw [← HZ.out]; rintro e w' ⟨rfl, rfl⟩)
      | (go_at_call 12; refine (HBack.out w1 hlt).mono ?_; rintro e w2 ⟨A2, c2, rfl, ho2, hb2⟩; have HB2 := Lib.hid (Below.trans HB.out (hb2.mono HB.out.size)); have HR := Lib.hid ho2.rd; clear ho2 hb2)
      | (go_at_call 10; refine (refcrc_any bs bs.length A2 c2 _ w2 rfl (by rw [HL.out]; omega) HR.out).mono ?_; rw [← HZ.out]; rintro e w' ⟨rfl, rfl⟩))
    go_ret
    exact ⟨rfl, HB2.out⟩
  · have f1 : decide ((100000 : Int) < s.size) = true := by simp; omega
    go_enter Try.func4, Try.ntmps4
    go_wp2_with (first
      | (go_at_call 8; refine (awake_any w).mono ?_; rintro e w1 ⟨rfl, hb1⟩)
      | (go_at_call 8; refine (awake_any w1).mono ?_; rintro e w2 ⟨rfl, hb2⟩))
    go_ret
    exact ⟨rfl, hb1.trans (hb2.mono hb1.size)⟩
set_option maxRecDepth 100000 in
theorem lifted (os : Os) (started : os.Started) (H : Type) (enc : TypeId × Value → H) :
    ReturnsInHanded {} Try.checked os 4 .any (Rows.crcHashSpec.pre6 enc Try.prog Try.f4 Rows.crcHashRow.domain false) (Rows.crcHashSpec.post enc Try.prog Try.f4 false true false false) := by
  refine returnsInHanded_of_change (C := Try.checked) own started (by kernel_rfl) Try.func4
    (ChangeSpec.witness6 (enc := enc) (C := Try.checked) false ⟨#[], #[.string ByteArray.empty], []⟩ 8 (by kernel_rfl) (by kernel_rfl) (by kernel_rfl) (by kernel_rfl)) ?_
  intro W base args ds gs before hval0 hW _ _
  have hval : ∀ (j : Nat) t v, Try.f4.params[j]? = some t → args[j]? = some v → Value.okWide Try.prog W .any base t v := hval0
  have hW' := hW
  obtain ⟨p, q, hA0, hV, rfl, hfz, hnd⟩ := hW
  have hA : DataW.TrodAll enc Try.prog W 0 (fun _ => true) true Try.f4.params.toList args.toList ds p := hA0
  rw [Try.params4] at hA hval
  obtain ⟨v0, d0, rfl, rfl, h0⟩ := trodAll_one hA
  obtain ⟨rfl, rfl⟩ := trodVars_none hV
  obtain ⟨s0, rfl, rfl, rfl, hs0⟩ := Go.ChangeMaps.open_string Try.underlying9 (hval 0 9 v0 rfl rfl) h0
  refine (walk_any s0 W hs0).mono fun e W' ⟨he, hb⟩ => ?_
  subst he
  exact ⟨_, rfl, law_post hW' (by kernel_rfl) rfl rfl rfl hb⟩
theorem proved : Rows.CrcHashSaid :=
  OpenClaim.holds_of_wide 4 Try.f4 rfl rfl rfl rfl rfl rfl rfl ⟨rfl, rfl, rfl, rfl, rfl⟩ rfl rfl rfl rfl rfl (by kernel_rfl) Try.func4 (by kernel_rfl)
    (of_decide_eq_true (by kernel_rfl)) (by unfold Func.isWrapper; first | (rw [if_pos (by decide +kernel)]; kernel_rfl) | (rw [if_neg (by decide +kernel)]; exact ⟨rfl, rfl⟩))
    (fun os started H enc _ => lifted os started H enc)
#print axioms proved
end Go.Proofs.Ytmgcodagheeedaa.lawCrcHash
