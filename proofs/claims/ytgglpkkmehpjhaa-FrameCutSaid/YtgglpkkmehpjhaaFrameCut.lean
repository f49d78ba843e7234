/- FrameCut answers true for all bytes, wherever they are cut, whatever is behind them, and leaves them as they were. No condition. -/
import Derived.Test.YtgglpkkmehpjhaaFrameAwake
import Derived.Test.YtgglpkkmehpjhaaFrameOne
namespace Go.Proofs.Ytgglpkkmehpjhaa.lawFrameCut
open Go.ChangeShapes Go.WideShapes Go.ChangeAt Go.RowKit Frm
set_option maxRecDepth 100000 in
set_option maxHeartbeats 400000 in
theorem walk_any (bs : List UInt8) (A : Option Addr) (c : Nat) (x1 : Int) (ms : List UInt8) (Am : Option Addr) (cm : Nat) (w : World) (hr : Rd w w.heap.size 1 A bs.length c (u8s bs)) (h1 : 0 ≤ x1 ∧ x1 ≤ 4294967295) (hr2 : Rd w w.heap.size 1 Am ms.length cm (u8s ms)) :
    Calls Try.prog 8 #[.slice A bs.length c, .int .u32 x1, .slice Am ms.length cm] w fun e w' => e = .returned (.bool true) ∧ Below w.heap.size w w' := by
  obtain ⟨n, hn⟩ : ∃ n, n = bs.length := ⟨_, rfl⟩
  obtain ⟨q, hq⟩ : ∃ q, q = ms.length := ⟨_, rfl⟩
  obtain ⟨a, rfl⟩ := Int.eq_ofNat_of_zero_le h1.1
  rw [← hn] at hr ⊢
  rw [← hq] at hr2 ⊢
  have ha : a ≤ 4294967295 := by omega
  clear h1
  by_cases hok : n ≤ 60000 ∧ q ≤ 1000
  · obtain ⟨hn1, hq1⟩ := hok
    have f1 : decide ((60000 : Int) < n) = false := by simp; omega
    have f3 : decide ((1000 : Int) < q) = false := by simp; omega
    obtain ⟨m, hm⟩ : ∃ m, m = n + 8 := ⟨_, rfl⟩
    have f2 : ((m : Int) == 0) = false := by simp only [beq_eq_false_iff_ne]; omega
    have hm0 : m ≠ 0 := by omega
    obtain ⟨i, hi⟩ : ∃ i, i = a % m := ⟨_, rfl⟩
    have him : i < m := by rw [hi]; exact Nat.mod_lt _ (by omega)
    have hmod : (a : Int) % (m : Int) = (i : Int) := by rw [hi]; rfl
    have hwa : IntKind.i64.wrap (a : Int) = a := IntWalk.i64_in _ (by omega)
    obtain ⟨x, hx⟩ : ∃ x, x = frm bs := ⟨_, rfl⟩
    obtain ⟨z, hz⟩ : ∃ z, z = x ++ ms := ⟨_, rfl⟩
    obtain ⟨d, hd⟩ : ∃ d, d = m + q := ⟨_, rfl⟩
    have hxl : x.length = m := by rw [hx, frm_len, ← hn, hm]
    have hzl : z.length = d := by rw [hz, List.length_append, hxl, ← hq, hd]
    have htl : (x.take i).length = i := by rw [List.length_take, hxl]; omega
    have hE1 : oneE (x.take i) = 2 := by rw [hx]; exact cut_form (by omega) (by omega)
    have hB1 : oneB (x.take i) = [] := oneB_bad (by rw [hE1]; decide)
    have him' : (i : Int) < m := by omega
    obtain ⟨r, hr0⟩ : ∃ r, r = oneB z := ⟨_, rfl⟩
    obtain ⟨k, hk⟩ : ∃ k, k = oneE z := ⟨_, rfl⟩
    obtain ⟨o, ho⟩ : ∃ o, o = r.length := ⟨_, rfl⟩
    have HC : Hid ((((q : Int) == 0) = true ∧ k = 0 ∧ r = bs) ∨ (((q : Int) == 0) = false ∧ k = 2 ∧ o = 0)) := by
      unfold Hid
      rcases Nat.eq_zero_or_pos q with h0 | h0
      · have hms : ms = [] := List.eq_nil_of_length_eq_zero (by omega)
        have hzx : z = frm bs := by rw [hz, hms, List.append_nil, hx]
        exact .inl ⟨by simp; omega, by rw [hk, hzx]; exact oneE_frm (by omega), by rw [hr0, hzx]; exact oneB_frm (by omega)⟩
      · have h2 : k = 2 := by rw [hk, hz, hx]; exact more_form (by omega) (by omega)
        exact .inr ⟨by simp; omega, h2, by rw [ho, hr0, oneB_bad (by rw [← hk, h2]; decide)]; rfl⟩
    have hs : ((strOf bs).toList == (strOf bs).toList) = true := by simp
    have HI : Hid (∀ w1 A1 c1, Own w1 w.heap.size 5 1 A1 m c1 (u8s x) → Below w.heap.size w w1 →
        (∀ W, (Instr.slice 22 (.slice A1 m c1) none (some (.int .i64 (i : Nat))) none).run Try.prog W = .ok (.slice A1 i c1) W) ∧
        Hid (Calls Try.prog 15 #[.slice A1 i c1] w1 fun e w' => ∃ A' c', e = .returned (.tuple #[.slice A' 0 c', .int .i64 2]) ∧ ∃ A3 c3 w3,
          Hid ((Builtin.append_ #[22, 22] 22 #[.slice A1 m c1, .slice Am q cm]).run Try.prog w' = .ok (.slice A3 d c3) w3) ∧
          Hid (Calls Try.prog 15 #[.slice A3 d c3] w3 fun e w4 => ∃ A4 c4, e = .returned (.tuple #[.slice A4 o c4, .int .i64 k]) ∧ Hid (Below w.heap.size w w4) ∧
            (convert 22 9 (.slice A4 o c4)).run Try.prog w4 = .ok (.string (strOf r)) w4 ∧ (convert 22 9 (.slice A n c)).run Try.prog w4 = .ok (.string (strOf bs)) w4))) := by
      intro w1 A1 c1 ho1 hb1
      have hc1 := ho1.rd.cap
      refine ⟨fun W => By.cut_to A1 m c1 i (by omega) W, ?_⟩
      refine (one_to (x.take i) i A1 c1 w1 htl (by omega) (By.take8 ho1.rd (by omega)) [] hB1 0 rfl 2 hE1).mono ?_
      rintro e w2 ⟨A2, c2, rfl, ho2, hb2⟩
      have hb := hb1.trans (hb2.mono hb1.size)
      have ho1' := ownsRow_later ho1.row hb2
      obtain ⟨A3, c3, w3, hrun, ho3, hb3⟩ := By.run_app8 w2 w.heap.size hb.size _ x (by rw [hxl]; exact ho1') (hr2.below hb) (by omega)
      rw [← hz] at hrun ho3
      rw [hzl] at hrun ho3
      have hb' := hb.trans hb3
      refine ⟨A2, c2, rfl, A3, c3, w3, hrun, ?_⟩
      refine (one_to z d A3 c3 w3 hzl (by omega) ho3.rd r hr0.symm o ho.symm k hk.symm).mono ?_
      rintro e w4 ⟨A4, c4, rfl, ho4, hb4⟩
      have hb'' := hb'.trans (hb4.mono hb'.size)
      exact ⟨A4, c4, rfl, hb'', By.str8 ho4.rd, By.str8 (hr.below hb'')⟩
    have HR := Lib.hid hr
    have HN := Lib.hid hn
    have HX := Lib.hid hx
    have HM := Lib.hid hm
    clear hr hr2 hn hq hi hx hz hd hm hxl hzl htl hE1 hB1 hr0 hk ho
    go_enter Try.func8, Try.ntmps8
    go_wp2_with (first
      | (at_builtin; refine Lib.wpList_append_run _ rfl _ _ _ _ rfl _ _ rfl rfl _ _ Hrun.out ?_)
      | (go_at_call 10; refine (awake_any w).mono ?_; rintro e w1 ⟨rfl, hb1⟩; have HB := Lib.hid hb1; (have HR1 := Lib.hid (Rd.later HR.out hb1)); clear hb1)
      | (go_at_call 11; refine (frame_to bs n A c _ w1 HN.out.symm hn1 HR1.out (Nat.le_refl _) x HX.out.symm m HM.out.symm).mono ?_; rintro e w2 ⟨A2, c2, rfl, ho2, hb2⟩; obtain ⟨hcut, HO1⟩ := HI.out w2 A2 c2 (ho2.mono HB.out.size) (HB.out.trans (hb2.mono HB.out.size)); clear ho2 hb2)
      | (go_at_call 15; first
          | (refine HO2.out.mono ?_; rintro e w4 ⟨A4, c4, rfl, HB4, hs1, hs2⟩; rcases HC.out with ⟨hq0, rfl, rfl⟩ | ⟨hq0, rfl, rfl⟩)
          | (refine HO1.out.mono ?_; rintro e w3 ⟨A3, c3, rfl, A5, c5, w5, Hrun, HO2⟩)))
    all_goals
      go_ret
      exact ⟨rfl, HB4.out⟩
  · have hg : decide ((60000 : Int) < n) = true ∨ (decide ((60000 : Int) < n) = false ∧ decide ((1000 : Int) < q) = true) := by
      by_cases g1 : n ≤ 60000
      · exact .inr ⟨by simp; omega, by simp; omega⟩
      · exact .inl (by simp; omega)
    clear hok hr hr2 hn hq
    rcases hg with g1 | ⟨g1, g2⟩
    all_goals
      go_enter Try.func8, Try.ntmps8
      go_wp2_with (first
        | (go_at_call 10; refine (awake_any w).mono ?_; rintro e w1 ⟨rfl, hb1⟩)
        | (go_at_call 10; refine (awake_any w1).mono ?_; rintro e w2 ⟨rfl, hb2⟩))
      go_ret
      exact ⟨rfl, hb1.trans (hb2.mono hb1.size)⟩
set_option maxRecDepth 100000 in
theorem lifted (os : Os) (started : os.Started) (H : Type) (enc : TypeId × Value → H) :
    ReturnsInHanded {} Try.checked os 8 .any (Rows.frameCutSpec.pre6 enc Try.prog Try.f8 Rows.frameCutRow.domain false) (Rows.frameCutSpec.post enc Try.prog Try.f8 false true false false) := by
  refine returnsInHanded_of_change (C := Try.checked) own started (by kernel_rfl) Try.func8
    (ChangeSpec.witness6 (enc := enc) (C := Try.checked) false ⟨#[], #[.slice none 0 0, .int .u32 0, .slice none 0 0], []⟩ 8 (by kernel_rfl) (by kernel_rfl) (by kernel_rfl) (by kernel_rfl)) ?_
  intro W base args ds gs before hval0 hW _ _
  have hval : ∀ (j : Nat) t v, Try.f8.params[j]? = some t → args[j]? = some v → Value.okWide Try.prog W .any base t v := hval0
  have hW' := hW
  obtain ⟨p, q, hA0, hV, rfl, hfz, hnd⟩ := hW
  have hA : DataW.TrodAll enc Try.prog W 0 (fun _ => true) true Try.f8.params.toList args.toList ds p := hA0
  rw [Try.params8] at hA hval
  obtain ⟨v0, v1, v2, d0, d1, d2, p0, p1, p2, rfl, rfl, rfl, h0, h1, h2⟩ := trodAll_three hA
  obtain ⟨rfl, rfl⟩ := trodVars_none hV
  obtain ⟨a0, len0, cap0, rfl⟩ := okWide_slice Try.underlying22 (hval 0 22 v0 rfl rfl)
  obtain ⟨fuel0, hf0⟩ := h0
  obtain ⟨bs0, rfl, hr0, _⟩ := By.bytes_of_trod hf0
  obtain ⟨x1, rfl, rfl, rfl, w1⟩ := open_int Try.underlying37 (hval 1 37 v1 rfl rfl) h1
  obtain ⟨a2, len2, cap2, rfl⟩ := okWide_slice Try.underlying22 (hval 2 22 v2 rfl rfl)
  obtain ⟨fuel2, hf2⟩ := h2
  obtain ⟨bs2, rfl, hr2, _⟩ := By.bytes_of_trod hf2
  refine (walk_any bs0 a0 cap0 x1 bs2 a2 cap2 W hr0 (By.wf_u32 w1) hr2).mono fun e W' ⟨he, hb⟩ => ?_
  subst he
  exact ⟨_, rfl, law_post hW' (by kernel_rfl) rfl rfl rfl hb⟩
theorem proved : Rows.FrameCutSaid :=
  OpenClaim.holds_of_wide 8 Try.f8 rfl rfl rfl rfl rfl rfl rfl ⟨rfl, rfl, rfl, rfl, rfl⟩ rfl rfl rfl rfl rfl (by kernel_rfl) Try.func8 (by kernel_rfl)
    (of_decide_eq_true (by kernel_rfl)) (by unfold Func.isWrapper; first | (rw [if_pos (by decide +kernel)]; kernel_rfl) | (rw [if_neg (by decide +kernel)]; exact ⟨rfl, rfl⟩))
    (fun os started H enc _ => lifted os started H enc)
#print axioms proved
end Go.Proofs.Ytgglpkkmehpjhaa.lawFrameCut
