/- FrameTurned answers true for all bytes, whichever one is turned by whatever, and leaves them as they were. No condition. -/
import Derived.Test.YtgglpkkmehpjhaaFrameAwake
import Derived.Test.YtgglpkkmehpjhaaFrameOne
namespace Go.Proofs.Ytgglpkkmehpjhaa.lawFrameTurned
open Go.ChangeShapes Go.WideShapes Go.ChangeAt Go.RowKit Frm
theorem xor8 (a b : UInt8) : bits .xor .u8 (a.toNat : Int) (b.toNat : Int) = (((a ^^^ b).toNat : Nat) : Int) := by
  rw [UInt8.toNat_xor]; exact u8_xor_nat _ _ a.toNat_lt b.toNat_lt
/-- a frame in a row that may be written -/
theorem frame_wr (bs : List UInt8) (n : Nat) (A : Option Addr) (c : Nat) (w : World) (hl : bs.length = n) (hn : n ≤ 60000) (hr : Rd w w.heap.size 1 A n c (u8s bs)) (x : List UInt8) (hx : frm bs = x) (m : Nat) (hm : n + 8 = m) :
    Calls Try.prog 11 #[.slice A n c] w fun e w' => ∃ g c', e = .returned (.tuple #[.slice (some ⟨g, 0, none⟩) m c', .int .i64 0]) ∧ m ≤ c' ∧ w.heap.size ≤ g ∧ By.Wr w' g x ∧ Below w.heap.size w w' := by
  refine (frame_to bs n A c _ w hl hn hr (Nat.le_refl _) x hx m hm).mono ?_
  rintro e w' ⟨A', c', rfl, ho, hb⟩
  obtain ⟨g, c2, he, hc, hg, hwr⟩ := By.Wr.of_row ho.row (by
    rcases ho.row.2 with ⟨_, h0⟩ | ⟨g, _, _, hv, _⟩
    · omega
    · rw [hv]; simp [Value.ownBlock])
  exact ⟨g, c2, by rw [he], hc, hg, hwr, hb⟩
set_option maxRecDepth 100000 in
set_option maxHeartbeats 400000 in
theorem walk_any (bs : List UInt8) (A : Option Addr) (c : Nat) (x1 x2 : Int) (w : World) (hr : Rd w w.heap.size 1 A bs.length c (u8s bs)) (h1 : 0 ≤ x1 ∧ x1 ≤ 4294967295) (h2 : 0 ≤ x2 ∧ x2 ≤ 255) :
    Calls Try.prog 7 #[.slice A bs.length c, .int .u32 x1, .int .u8 x2] w fun e w' => e = .returned (.bool true) ∧ Below w.heap.size w w' := by
  obtain ⟨n, hn⟩ : ∃ n, n = bs.length := ⟨_, rfl⟩
  obtain ⟨a, rfl⟩ := Int.eq_ofNat_of_zero_le h1.1
  obtain ⟨y, rfl⟩ := Int.eq_ofNat_of_zero_le h2.1
  obtain ⟨b, rfl⟩ : ∃ b : UInt8, b.toNat = y := ⟨UInt8.ofNat y, by rw [UInt8.toNat_ofNat']; omega⟩
  rw [← hn] at hr ⊢
  have ha : a ≤ 4294967295 := by omega
  clear h1 h2
  by_cases hok : n ≤ 60000 ∧ b ≠ 0
  · obtain ⟨hn1, hb0⟩ := hok
    have f1 : decide ((60000 : Int) < n) = false := by simp; omega
    have hbn : b.toNat ≠ 0 := fun e => hb0 (UInt8.toNat_inj.1 e)
    have f3 : ((b.toNat : Int) == 0) = false := by simp only [beq_eq_false_iff_ne]; omega
    obtain ⟨m, hm⟩ : ∃ m, m = n + 8 := ⟨_, rfl⟩
    have f2 : ((m : Int) == 0) = false := by simp only [beq_eq_false_iff_ne]; omega
    have hm0 : m ≠ 0 := by omega
    have hm6 : m ≤ 60008 := by omega
    obtain ⟨i, hi⟩ : ∃ i, i = a % m := ⟨_, rfl⟩
    have him : i < m := by rw [hi]; exact Nat.mod_lt _ (by omega)
    have hmod : (a : Int) % (m : Int) = (i : Int) := by rw [hi]; rfl
    have hwa : IntKind.i64.wrap (a : Int) = a := IntWalk.i64_in _ (by omega)
    obtain ⟨x, hx⟩ : ∃ x, x = frm bs := ⟨_, rfl⟩
    have hxl : x.length = m := by rw [hx, frm_len, ← hn, hm]
    have hib : i < x.length := by omega
    have hne : oneE (x.set i (x[i] ^^^ b)) ≠ 0 := by subst hx; exact Frm.turned (by omega) hib hb0
    obtain ⟨v, hv⟩ : ∃ v, v = x[i] := ⟨_, rfl⟩
    obtain ⟨x', hx'⟩ : ∃ x', x' = x.set i (x[i] ^^^ b) := ⟨_, rfl⟩
    rw [← hx'] at hne
    obtain ⟨k, hk⟩ : ∃ k, k = oneE x' := ⟨_, rfl⟩
    have hxl' : x'.length = m := by rw [hx', List.length_set, hxl]
    have hB0 := oneB_bad hne
    have f4 : ((k : Int) != 0) = true := by rw [← hk] at hne; simp only [bne_iff_ne]; omega
    obtain ⟨u, hu⟩ : ∃ u, u = (v ^^^ b).toNat := ⟨_, rfl⟩
    have hxor : bits .xor .u8 (v.toNat : Int) (b.toNat : Int) = (u : Int) := by rw [hu]; exact xor8 v b
    have him' : (i : Int) < m := by omega
    have HU := Lib.hid hu
    have HR := Lib.hid hr
    have HN := Lib.hid hn
    have HV := Lib.hid hv
    have HBN := Lib.hid hbn
    have HX := Lib.hid hx
    have HX' := Lib.hid hx'
    have HM := Lib.hid hm
    have HXL := Lib.hid hxl
    have HXL' := Lib.hid hxl'
    have HK := Lib.hid hk
    have HB0 := Lib.hid hB0
    clear hu hr hn hne hi hv hbn hb0 hx hx' hm hxl hxl' hk hB0
    go_enter Try.func7, Try.ntmps7
    go_wp2_with (first
      | (go_at_call 10; refine (awake_any w).mono ?_; rintro e w1 ⟨rfl, hb1⟩; have HB := Lib.hid hb1; (have HR1 := Lib.hid (Rd.later HR.out hb1)); clear hb1)
      | (go_at_call 11; refine (frame_wr bs n A c w1 HN.out.symm hn1 HR1.out x HX.out.symm m HM.out.symm).mono ?_; rintro e w2 ⟨g, c', rfl, hc', hg, hwr, hb2⟩; have HB2 := Lib.hid (Below.trans HB.out (hb2.mono HB.out.size)); (have HW3 : Hid (Rd (w2.setCell ⟨g, i, none⟩ (.int .u8 u)) (w2.setCell ⟨g, i, none⟩ (.int .u8 u)).heap.size 1 (some ⟨g, 0, none⟩) m c' (u8s x')) := (by have := (hwr.set hib (x[i] ^^^ b)).rd (n := m) (c := c') (by rw [List.length_set]; exact HXL.out) hc'; rw [← HX'.out, ← HV.out, ← HU.out] at this; exact this)); have k0 := hwr.cell i hib; rw [← HV.out] at k0; (have k1 := hwr.free i); clear hwr hb2)
      | (go_at_call 15; refine (one_to x' m (some ⟨g, 0, none⟩) c' _ HXL'.out (by omega) HW3.out [] HB0.out 0 rfl k HK.out.symm).mono ?_; rintro e w4 ⟨A4, c4, rfl, ho4, hb4⟩))
    go_ret
    have hb3 : Below w.heap.size w (w2.setCell ⟨g, i, none⟩ (.int .u8 u)) := HB2.out.setCell (by have := HB.out.size; exact Nat.le_trans this hg) _
    exact ⟨rfl, hb3.trans (hb4.mono hb3.size)⟩
  · have hg : decide ((60000 : Int) < n) = true ∨ (decide ((60000 : Int) < n) = false ∧ ((b.toNat : Int) == 0) = true) := by
      by_cases g1 : n ≤ 60000
      · refine .inr ⟨by simp; omega, ?_⟩
        by_cases g3 : b = 0
        · rw [g3]; rfl
        · exact absurd ⟨g1, g3⟩ hok
      · exact .inl (by simp; omega)
    clear hok hr hn
    rcases hg with g1 | ⟨g1, g2⟩
    all_goals
      go_enter Try.func7, Try.ntmps7
      go_wp2_with (first
        | (go_at_call 10; refine (awake_any w).mono ?_; rintro e w1 ⟨rfl, hb1⟩)
        | (go_at_call 10; refine (awake_any w1).mono ?_; rintro e w2 ⟨rfl, hb2⟩))
      go_ret
      exact ⟨rfl, hb1.trans (hb2.mono hb1.size)⟩
set_option maxRecDepth 100000 in
theorem lifted (os : Os) (started : os.Started) (H : Type) (enc : TypeId × Value → H) :
    ReturnsInHanded {} Try.checked os 7 .any (Rows.frameTurnedSpec.pre6 enc Try.prog Try.f7 Rows.frameTurnedRow.domain false) (Rows.frameTurnedSpec.post enc Try.prog Try.f7 false true false false) := by
  refine returnsInHanded_of_change (C := Try.checked) own started (by kernel_rfl) Try.func7
    (ChangeSpec.witness6 (enc := enc) (C := Try.checked) false ⟨#[], #[.slice none 0 0, .int .u32 0, .int .u8 0], []⟩ 8 (by kernel_rfl) (by kernel_rfl) (by kernel_rfl) (by kernel_rfl)) ?_
  intro W base args ds gs before hval0 hW _ _
  have hval : ∀ (j : Nat) t v, Try.f7.params[j]? = some t → args[j]? = some v → Value.okWide Try.prog W .any base t v := hval0
  have hW' := hW
  obtain ⟨p, q, hA0, hV, rfl, hfz, hnd⟩ := hW
  have hA : DataW.TrodAll enc Try.prog W 0 (fun _ => true) true Try.f7.params.toList args.toList ds p := hA0
  rw [Try.params7] at hA hval
  obtain ⟨v0, v1, v2, d0, d1, d2, p0, p1, p2, rfl, rfl, rfl, h0, h1, h2⟩ := trodAll_three hA
  obtain ⟨rfl, rfl⟩ := trodVars_none hV
  obtain ⟨a0, len0, cap0, rfl⟩ := okWide_slice Try.underlying22 (hval 0 22 v0 rfl rfl)
  obtain ⟨fuel0, hf0⟩ := h0
  obtain ⟨bs0, rfl, hr0, _⟩ := By.bytes_of_trod hf0
  obtain ⟨x1, rfl, rfl, rfl, w1⟩ := open_int Try.underlying37 (hval 1 37 v1 rfl rfl) h1
  obtain ⟨x2, rfl, rfl, rfl, w2⟩ := open_int Try.underlying5 (hval 2 5 v2 rfl rfl) h2
  refine (walk_any bs0 a0 cap0 x1 x2 W hr0 (By.wf_u32 w1) (By.wf_u8 w2)).mono fun e W' ⟨he, hb⟩ => ?_
  subst he
  exact ⟨_, rfl, law_post hW' (by kernel_rfl) rfl rfl rfl hb⟩
theorem proved : Rows.FrameTurnedSaid :=
  OpenClaim.holds_of_wide 7 Try.f7 rfl rfl rfl rfl rfl rfl rfl ⟨rfl, rfl, rfl, rfl, rfl⟩ rfl rfl rfl rfl rfl (by kernel_rfl) Try.func7 (by kernel_rfl)
    (of_decide_eq_true (by kernel_rfl)) (by unfold Func.isWrapper; first | (rw [if_pos (by decide +kernel)]; kernel_rfl) | (rw [if_neg (by decide +kernel)]; exact ⟨rfl, rfl⟩))
    (fun os started H enc _ => lifted os started H enc)
#print axioms proved
end Go.Proofs.Ytgglpkkmehpjhaa.lawFrameTurned
