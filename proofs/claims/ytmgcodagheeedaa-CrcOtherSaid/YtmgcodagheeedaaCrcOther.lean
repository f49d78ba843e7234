/- CrcOther answers true for all bytes, whichever one is turned by whatever, and leaves them as they were. No condition. -/
import Derived.Test.YtmgcodagheeedaaCrcAwake
namespace Go.Proofs.Ytmgcodagheeedaa.lawCrcOther
open Go.ChangeShapes Go.WideShapes Go.ChangeAt Go.RowKit Crc
theorem turned (bs : List UInt8) (i : Nat) (h : i < bs.length) (b : UInt8) (hb : b ≠ 0) : crcN (bs.set i (bs[i] ^^^ b)) ≠ crcN bs := by
  intro e
  have h1 : bs.set i (bs[i] ^^^ b) = bs.take i ++ [bs[i] ^^^ b] ++ bs.drop (i + 1) := by rw [List.set_eq_take_append_cons_drop, if_pos h, List.append_assoc]; rfl
  have h2 : bs = bs.take i ++ [bs[i]] ++ bs.drop (i + 1) := by rw [← List.take_succ_eq_append_getElem h, List.take_append_drop]
  rw [h1] at e
  conv at e => rhs; rw [h2]
  exact hb (other e)
theorem xor8 (a b : UInt8) : bits .xor .u8 (a.toNat : Int) (b.toNat : Int) = (((a ^^^ b).toNat : Nat) : Int) := by
  rw [UInt8.toNat_xor]; exact u8_xor_nat _ _ a.toNat_lt b.toNat_lt
set_option maxRecDepth 100000 in
set_option maxHeartbeats 400000 in
theorem walk_any (bs : List UInt8) (A : Option Addr) (c : Nat) (x1 x2 : Int) (w : World) (hr : Rd w w.heap.size 1 A bs.length c (u8s bs)) (h1 : 0 ≤ x1 ∧ x1 ≤ 4294967295) (h2 : 0 ≤ x2 ∧ x2 ≤ 255) :
    Calls Try.prog 5 #[.slice A bs.length c, .int .u32 x1, .int .u8 x2] w fun e w' => e = .returned (.bool true) ∧ Below w.heap.size w w' := by
  obtain ⟨n, hn⟩ : ∃ n, n = bs.length := ⟨_, rfl⟩
  obtain ⟨a, rfl⟩ := Int.eq_ofNat_of_zero_le h1.1
  obtain ⟨y, rfl⟩ := Int.eq_ofNat_of_zero_le h2.1
  obtain ⟨b, rfl⟩ : ∃ b : UInt8, b.toNat = y := ⟨UInt8.ofNat y, by rw [UInt8.toNat_ofNat']; omega⟩
  rw [← hn] at hr ⊢
  have ha : a ≤ 4294967295 := by omega
  clear h1 h2
  by_cases hok : n ≤ 100000 ∧ 0 < n ∧ b ≠ 0
  · obtain ⟨hn1, hn0, hb0⟩ := hok
    have f1 : decide ((100000 : Int) < n) = false := by simp; omega
    have f2 : ((n : Int) == 0) = false := by simp; omega
    have hbn : b.toNat ≠ 0 := fun e => hb0 (UInt8.toNat_inj.1 e)
    have f3 : ((b.toNat : Int) == 0) = false := by simp only [beq_eq_false_iff_ne]; omega
    obtain ⟨i, hi⟩ : ∃ i, i = a % n := ⟨_, rfl⟩
    have hin : i < n := by rw [hi]; exact Nat.mod_lt _ hn0
    have hmod : (a : Int) % (n : Int) = (i : Int) := by rw [hi]; rfl
    have hwa : IntKind.i64.wrap (a : Int) = a := IntWalk.i64_in _ (by omega)
    have hib : i < bs.length := by omega
    have hne := turned bs i hib b hb0
    obtain ⟨v, hv⟩ : ∃ v, v = bs[i] := ⟨_, rfl⟩
    obtain ⟨z, hz⟩ : ∃ z, z = crcN bs := ⟨_, rfl⟩
    obtain ⟨z', hz'⟩ : ∃ z, z = crcN (bs.set i (bs[i] ^^^ b)) := ⟨_, rfl⟩
    have hzz : ((z' : Int) != (z : Int)) = true := by rw [← hz', ← hz] at hne; simp only [bne_iff_ne]; omega
    obtain ⟨u, hu⟩ : ∃ u, u = (v ^^^ b).toNat := ⟨_, rfl⟩
    have hxor : bits .xor .u8 (v.toNat : Int) (b.toNat : Int) = (u : Int) := by rw [hu]; exact xor8 v b
    have HU := Lib.hid hu
    have HR := Lib.hid hr
    have HN := Lib.hid hn
    have HZ := Lib.hid hz
    have HZ' := Lib.hid hz'
    have HV := Lib.hid hv
    have HBN := Lib.hid hbn
    clear hu hr hn hz hz' hne hi hv hbn hb0
    go_enter Try.func5, Try.ntmps5
    go_wp2_with (first
      | (go_at_call 8; refine (awake_any w).mono ?_; rintro e w1 ⟨rfl, hb1⟩; have HB := Lib.hid hb1; (have HR1 := Lib.hid (Rd.later HR.out hb1)); obtain ⟨g, c', w2, hrun, hc', hg, hwr, hb2⟩ := By.run_copy8 w1 HN.out.symm HR1.out (Nat.le_refl _) (by omega); have Hrun := Lib.hid hrun; have HW := Lib.hid hwr; have HB2 := Lib.hid (Below.trans HB.out (hb2.mono HB.out.size)); (have HR2 := Lib.hid ((Rd.below HR1.out hb2).setCell (p := ⟨g, i, none⟩) hg (.int .u8 u))); (have HW3 : Hid (Rd (w2.setCell ⟨g, i, none⟩ (.int .u8 u)) (w2.setCell ⟨g, i, none⟩ (.int .u8 u)).heap.size 1 (some ⟨g, 0, none⟩) n c' (u8s (bs.set i (bs[i] ^^^ b)))) := (by have := (hwr.set hib (bs[i] ^^^ b)).rd (n := n) (c := c') (by rw [List.length_set]; exact HN.out.symm) hc'; rw [← HV.out, ← HU.out] at this; rw [← HV.out]; exact this)); have k0 := hwr.cell i hib; rw [← HV.out] at k0; (have k1 := hwr.free i); clear hb1 hrun hwr hb2)
      | (at_builtin; refine Lib.wpList_append_run _ rfl _ _ _ _ rfl _ _ rfl rfl _ _ Hrun.out ?_)
      | (go_at_call 9; first
          | ((with_reducible refine (crc_any (bs.set i (bs[i] ^^^ b)) n (some ⟨g, 0, none⟩) c' _ _ (by rw [List.length_set]; exact HN.out.symm) (by omega) HW3.out).mono ?_); rw [← HZ'.out]; rintro e w' ⟨rfl, rfl⟩)
          | ((with_reducible refine (crc_any bs n A c _ _ HN.out.symm (by omega) HR2.out).mono ?_); rw [← HZ.out]; rintro e w' ⟨rfl, rfl⟩)))
    go_ret
    exact ⟨rfl, HB2.out.setCell (by have := HB.out.size; exact Nat.le_trans this hg) _⟩
  · have hg : decide ((100000 : Int) < n) = true ∨ (decide ((100000 : Int) < n) = false ∧ ((n : Int) == 0) = true) ∨ (decide ((100000 : Int) < n) = false ∧ ((n : Int) == 0) = false ∧ ((b.toNat : Int) == 0) = true) := by
      by_cases g1 : n ≤ 100000
      · refine .inr ?_
        by_cases g2 : n = 0
        · exact .inl ⟨by simp; omega, by simp; omega⟩
        · refine .inr ⟨by simp; omega, by simp; omega, ?_⟩
          by_cases g3 : b = 0
          · rw [g3]; rfl
          · exact absurd ⟨g1, by omega, g3⟩ hok
      · exact .inl (by simp; omega)
    clear hok hr hn
    rcases hg with g1 | ⟨g1, g2⟩ | ⟨g1, g2, g3⟩
    all_goals
      go_enter Try.func5, Try.ntmps5
      go_wp2_with (first
        | (go_at_call 8; refine (awake_any w).mono ?_; rintro e w1 ⟨rfl, hb1⟩)
        | (go_at_call 8; refine (awake_any w1).mono ?_; rintro e w2 ⟨rfl, hb2⟩))
      go_ret
      exact ⟨rfl, hb1.trans (hb2.mono hb1.size)⟩
set_option maxRecDepth 100000 in
theorem lifted (os : Os) (started : os.Started) (H : Type) (enc : TypeId × Value → H) :
    ReturnsInHanded {} Try.checked os 5 .any (Rows.crcOtherSpec.pre6 enc Try.prog Try.f5 Rows.crcOtherRow.domain false) (Rows.crcOtherSpec.post enc Try.prog Try.f5 false true false false) := by
  refine returnsInHanded_of_change (C := Try.checked) own started (by kernel_rfl) Try.func5
    (ChangeSpec.witness6 (enc := enc) (C := Try.checked) false ⟨#[], #[.slice none 0 0, .int .u32 0, .int .u8 0], []⟩ 8 (by kernel_rfl) (by kernel_rfl) (by kernel_rfl) (by kernel_rfl)) ?_
  intro W base args ds gs before hval0 hW _ _
  have hval : ∀ (j : Nat) t v, Try.f5.params[j]? = some t → args[j]? = some v → Value.okWide Try.prog W .any base t v := hval0
  have hW' := hW
  obtain ⟨p, q, hA0, hV, rfl, hfz, hnd⟩ := hW
  have hA : DataW.TrodAll enc Try.prog W 0 (fun _ => true) true Try.f5.params.toList args.toList ds p := hA0
  rw [Try.params5] at hA hval
  obtain ⟨v0, v1, v2, d0, d1, d2, p0, p1, p2, rfl, rfl, rfl, h0, h1, h2⟩ := trodAll_three hA
  obtain ⟨rfl, rfl⟩ := trodVars_none hV
  obtain ⟨a0, len0, cap0, rfl⟩ := okWide_slice Try.underlying22 (hval 0 22 v0 rfl rfl)
  obtain ⟨fuel0, hf0⟩ := h0
  obtain ⟨bs0, rfl, hr0, _⟩ := By.bytes_of_trod hf0
  obtain ⟨x1, rfl, rfl, rfl, w1⟩ := open_int Try.underlying24 (hval 1 24 v1 rfl rfl) h1
  obtain ⟨x2, rfl, rfl, rfl, w2⟩ := open_int Try.underlying5 (hval 2 5 v2 rfl rfl) h2
  refine (walk_any bs0 a0 cap0 x1 x2 W hr0 (By.wf_u32 w1) (By.wf_u8 w2)).mono fun e W' ⟨he, hb⟩ => ?_
  subst he
  exact ⟨_, rfl, law_post hW' (by kernel_rfl) rfl rfl rfl hb⟩
theorem proved : Rows.CrcOtherSaid :=
  OpenClaim.holds_of_wide 5 Try.f5 rfl rfl rfl rfl rfl rfl rfl ⟨rfl, rfl, rfl, rfl, rfl⟩ rfl rfl rfl rfl rfl (by kernel_rfl) Try.func5 (by kernel_rfl)
    (of_decide_eq_true (by kernel_rfl)) (by unfold Func.isWrapper; first | (rw [if_pos (by decide +kernel)]; kernel_rfl) | (rw [if_neg (by decide +kernel)]; exact ⟨rfl, rfl⟩))
    (fun os started H enc _ => lifted os started H enc)
#print axioms proved
end Go.Proofs.Ytmgcodagheeedaa.lawCrcOther
