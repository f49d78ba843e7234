/- FrameBack answers true for all records, wherever the last one is cut, and leaves them as they were. No condition. -/
import Derived.Test.YtgglpkkmehpjhaaFrameScan
namespace Go.Proofs.Ytgglpkkmehpjhaa.lawFrameBack
open Go.ChangeShapes Go.WideShapes Go.ChangeAt Go.RowKit Frm
theorem frms_len_le : ∀ l : List (List UInt8), (∀ a ∈ l, a.length ≤ 3000) → (frms l).length ≤ 3008 * l.length
  | [], _ => by simp [frms]
  | a :: l, h => by
    have h1 := frms_len_le l fun b hb => h b (List.mem_cons_of_mem _ hb)
    have h2 := h a (List.mem_cons_self ..)
    rw [frms_cons, List.length_append, frm_len, List.length_cons]
    omega
/-- the contract with letters -/
def ScanTo (bs : List UInt8) (w : World) (e : Ending) (w' : World) : Prop :=
  ∃ l k p A c, Scans bs l k ∧ e = .returned (.tuple #[.slice A p c, .int .i64 (k : Nat)]) ∧ By.RdL w' w'.heap.size A p c l ∧ Below w.heap.size w w'
theorem scan_to {bs : List UInt8} {w : World} {e : Ending} {w' : World} (h : ScanIs bs w e w') : ScanTo bs w e w' := by
  obtain ⟨l, k, v, hs, rfl, hlog, hb⟩ := h
  obtain ⟨A, c, rfl, hr⟩ := hlog.rdL
  exact ⟨l, k, l.length, A, c, hs, rfl, hr, hb⟩
set_option maxRecDepth 100000 in
set_option maxHeartbeats 1000000 in
theorem walk_any (l : List (List UInt8)) (A : Option Addr) (c : Nat) (ls : List UInt8) (Al : Option Addr) (cl : Nat) (x1 : Int) (w : World) (hr : By.RdL w w.heap.size A l.length c l) (hr2 : Rd w w.heap.size 1 Al ls.length cl (u8s ls)) (h3 : 0 ≤ x1 ∧ x1 ≤ 65535) :
    Calls Try.prog 6 #[.slice A l.length c, .slice Al ls.length cl, .int .u16 x1] w fun e w' => e = .returned (.bool true) ∧ Below w.heap.size w w' := by
  obtain ⟨p, hp⟩ : ∃ p, p = l.length := ⟨_, rfl⟩
  obtain ⟨q, hq⟩ : ∃ q, q = ls.length := ⟨_, rfl⟩
  obtain ⟨a, rfl⟩ := Int.eq_ofNat_of_zero_le h3.1
  rw [← hp] at hr ⊢
  rw [← hq] at hr2 ⊢
  have ha : a ≤ 65535 := by omega
  clear h3
  have HR := Lib.hid hr
  have HR2 := Lib.hid hr2
  have HP := Lib.hid hp
  have HQ := Lib.hid hq
  clear hr hr2 hp hq
  by_cases hok : p ≤ 20 ∧ q ≤ 3000
  · obtain ⟨hp20, hq3⟩ := hok
    have f1 : decide ((20 : Int) < p) = false := by simp; omega
    have f2 : decide ((3000 : Int) < q) = false := by simp; omega
    obtain ⟨m, hm⟩ : ∃ m, m = q + 8 := ⟨_, rfl⟩
    have hm0 : m ≠ 0 := by omega
    have hm3 : m ≤ 3008 := by omega
    have f3 : ((m : Int) != (q : Int) + 8) = false := by simp; omega
    have f4 : ((m : Int) == (q : Int) + 8) = true := by simp; omega
    obtain ⟨i, hi⟩ : ∃ i, i = a % m := ⟨_, rfl⟩
    have him : i < m := by rw [hi]; exact Nat.mod_lt _ (by omega)
    have hmod : (a : Int) % (m : Int) = (i : Int) := by rw [hi]; rfl
    have hwa : IntKind.i64.wrap (a : Int) = a := IntWalk.i64_in _ (by omega)
    have him' : (i : Int) < m := by omega
    obtain ⟨x, hx⟩ : ∃ x, x = frm ls := ⟨_, rfl⟩
    have HX := Lib.hid hx
    have HM := Lib.hid hm
    clear hx hm hi
    go_enter Try.func6, Try.ntmps6
    go_wp2_with (go_at_call 10; refine (awake_any w).mono ?_; rintro e w1 ⟨rfl, hb1⟩; have HB1 := Lib.hid hb1; clear hb1)
    go_loopw [7, 32] (fun v j wr => ∃ i : Nat, j = .int .i64 i ∧ i ≤ p ∧ Hid (∀ a ∈ l.take i, a.length ≤ 3000) ∧ Hid (wr.ownsRow w.heap.size 5 1 v (frms (l.take i)).length (u8s (frms (l.take i)))) ∧ Hid (Below w.heap.size w wr)) (fun _ j _ => p - (intOf j).toNat)
    case atStart => exact ⟨0, rfl, Nat.zero_le _, (fun a ha => by simp at ha), World.ownsRow_nil _ _ _ _, HB1.out⟩
    case round =>
      obtain ⟨j, rfl, hj, HF, HO, HB⟩ := hrel
      by_cases hjp : j < p
      · have hjl : j < l.length := by rw [← HP.out]; exact hjp
        obtain ⟨b, o, rfl, hb, hc⟩ := HR.out.at_ (by omega)
        obtain ⟨A4, c4, k4, r4⟩ := hc j hjl
        have k0 := (HB.out.cell (p := ⟨b, o + j, none⟩) hb).trans k4
        have r0 := (r4.below HB.out).more HB.out.size
        obtain ⟨y, hy⟩ : ∃ y, y = l[j] := ⟨_, rfl⟩
        rw [← hy] at k0 r0
        obtain ⟨r, hr⟩ : ∃ r, r = y.length := ⟨_, rfl⟩
        rw [← hr] at k0 r0
        have hjp' : (j : Int) < p := by omega
        by_cases hr3 : r ≤ 3000
        · have g1 : decide ((3000 : Int) < r) = false := by simp; omega
          have HF2 : Hid (∀ a ∈ l.take (j + 1), a.length ≤ 3000) := by
            intro a ha
            rw [List.take_succ_eq_append_getElem hjl] at ha
            rcases List.mem_append.1 ha with ha | ha
            · exact HF.out a ha
            · simp only [List.mem_cons, List.not_mem_nil, or_false] at ha
              rw [ha, ← hy, ← hr]; exact hr3
          have HI : Hid (Calls Try.prog 11 #[.slice A4 r c4] wr fun e w2 => ∃ A2 c2, e = .returned (.tuple #[.slice A2 (r + 8) c2, .int .i64 0]) ∧ ∃ v3 w3, Hid ((Builtin.append_ #[22, 22] 22 #[u7, .slice A2 (r + 8) c2]).run Try.prog w2 = .ok v3 w3) ∧
              Hid (w3.ownsRow w.heap.size 5 1 v3 (frms (l.take (j + 1))).length (u8s (frms (l.take (j + 1))))) ∧ Hid (Below w.heap.size w w3)) := by
            refine (frame_to y r A4 c4 _ wr hr.symm (by omega) r0 (Nat.le_refl _) (frm y) rfl (r + 8) rfl).mono ?_
            rintro e w2 ⟨A2, c2, rfl, ho2, hb2⟩
            have hbb := HB.out.trans (hb2.mono HB.out.size)
            have hlen := frms_len_le _ HF.out
            have htl : (l.take j).length ≤ 20 := by rw [List.length_take]; omega
            obtain ⟨A3, c3, w3, hrun, ho3, hb3⟩ := By.run_app8 w2 w.heap.size hbb.size _ (frms (l.take j)) (ownsRow_later HO.out hb2) ho2.rd (by omega)
            have e1 : frms (l.take j) ++ frm y = frms (l.take (j + 1)) := by rw [List.take_succ_eq_append_getElem hjl, frms_snoc, hy]
            rw [e1] at hrun ho3
            exact ⟨A2, c2, rfl, _, w3, hrun, ho3.row, hbb.trans hb3⟩
          clear hy hr r0 r4 k4 hc HO HF
          go_wp2_with (first
            | (at_builtin; refine Lib.wpList_append_run _ rfl _ _ _ _ rfl _ _ rfl rfl _ _ Hrun.out ?_)
            | (go_at_call 11; refine HI.out.mono ?_; rintro e w2 ⟨A2, c2, rfl, v3, w3, Hrun, HO3, HB3⟩))
          go_roundw
          case rel => exact ⟨j + 1, by go_num, by omega, HF2, HO3, HB3⟩
          case measure => simp [intOf]; omega
        · have g1 : decide ((3000 : Int) < r) = true := by simp; omega
          clear hy hr r0 r4 k4 hc
          go_wp2
          go_ret
          exact ⟨rfl, HB.out⟩
      · have hjp2 : j = p := by omega
        have ht : l.take j = l := List.take_of_length_le (by rw [← HP.out]; omega)
        rw [ht] at HO HF
        obtain ⟨N, hN⟩ : ∃ N, N = (frms l).length := ⟨_, rfl⟩
        obtain ⟨A0, c0, rfl, ho0⟩ := Own.of_row HO.out (u8s_one _)
        rw [← hN] at ho0 ⊢
        have hNl : N ≤ 60160 := by rw [hN]; have := frms_len_le l HF.out; rw [← HP.out] at this; omega
        obtain ⟨z, hz⟩ : ∃ z, z = frms l ++ x.take i := ⟨_, rfl⟩
        obtain ⟨d, hd⟩ : ∃ d, d = z.length := ⟨_, rfl⟩
        have hxl : x.length = m := by rw [HX.out, frm_len, ← HQ.out, HM.out]
        have hdl : d = N + i := by rw [hd, hz, List.length_append, ← hN, List.length_take, hxl]; omega
        have hsc : Scans z l N := by
          rw [hz, hN, HX.out]
          exact scans_part (fun a ha => by have := HF.out a ha; omega) (by rw [← HQ.out]; omega) (by rw [← HQ.out, ← HM.out]; exact him)
        have HI : Hid (Calls Try.prog 11 #[.slice Al q cl] wr fun e w2 => ∃ A2 c2, e = .returned (.tuple #[.slice A2 m c2, .int .i64 0]) ∧
            (∀ W, (Instr.slice 22 (.slice A2 m c2) none (some (.int .i64 (i : Nat))) none).run Try.prog W = .ok (.slice A2 i c2) W) ∧
            ∃ A3 c3 w3, Hid ((Builtin.append_ #[22, 22] 22 #[.slice A0 N c0, .slice A2 i c2]).run Try.prog w2 = .ok (.slice A3 d c3) w3) ∧
            Hid (Calls Try.prog 13 #[.slice A3 d c3] w3 fun e w4 => ∃ A4 c4, e = .returned (.tuple #[.slice A4 p c4, .int .i64 N]) ∧ Hid (By.RdL w4 w4.heap.size A4 p c4 l) ∧ Hid (By.RdL w4 w4.heap.size A p c l) ∧ Hid (Below w.heap.size w w4))) := by
          refine (frame_to ls q Al cl _ wr HQ.out.symm (by omega) (HR2.out.below HB.out) HB.out.size x HX.out.symm m HM.out.symm).mono ?_
          rintro e w2 ⟨A2, c2, rfl, ho2, hb2⟩
          have hbb := HB.out.trans (hb2.mono HB.out.size)
          have hcap := ho2.rd.cap
          obtain ⟨A3, c3, w3, hrun, ho3, hb3⟩ := By.run_app8 w2 w.heap.size hbb.size _ (frms l) (by rw [← hN]; exact ownsRow_later ho0.row hb2) (By.take8 ho2.rd (k := i) (by omega)) (by rw [← hN]; omega)
          rw [← hz, ← hd] at hrun ho3
          refine ⟨A2, c2, rfl, fun W => By.cut_to A2 m c2 i (by omega) W, A3, c3, w3, hrun, ?_⟩
          refine (scan_any z d A3 c3 w3 hd.symm (by omega) ho3.rd).mono ?_
          intro e w4 hs4
          obtain ⟨l2, k2, p2, A4, c4, hs, rfl, hrl, hb4⟩ := scan_to hs4
          obtain ⟨rfl, rfl⟩ := hsc.uniq hs
          have hpp : p2 = p := by rw [← hrl.len, ← HP.out]
          subst hpp
          have hbz := (hbb.trans hb3).trans (hb4.mono (hbb.trans hb3).size)
          exact ⟨A4, c4, rfl, hrl, (HR.out.below hbz).more hbz.size, hbz⟩
        clear hsc hdl hxl hd hz hN ho0 ht HO HF
        go_wp2_with (first
          | (at_builtin; refine Lib.wpList_append_run _ rfl _ _ _ _ rfl _ _ rfl rfl _ _ Hrun.out ?_)
          | (go_at_call 11; refine HI.out.mono ?_; rintro e w2 ⟨A2, c2, rfl, hcut, A3, c3, w3, Hrun, HSC⟩)
          | (go_at_call 13; refine HSC.out.mono ?_; rintro e w4 ⟨A4, c4, rfl, HRL2, HRL1, HB4⟩))
        go_loopw [97] (fun q wr => ∃ i : Nat, q = .int .i64 i ∧ i ≤ p ∧ Hid (Below w4.heap.size w4 wr)) (fun q _ => p - (intOf q).toNat)
        case atStart => exact ⟨0, rfl, Nat.zero_le _, Below.refl _ _⟩
        case round =>
          obtain ⟨i2, rfl, hi2, HBR⟩ := hrel
          by_cases hip : i2 < p
          · have hil : i2 < l.length := by rw [← HP.out]; exact hip
            obtain ⟨b1, o1, rfl, hb1, hc1⟩ := HRL1.out.at_ (by omega)
            obtain ⟨b2, o2, rfl, hb2, hc2⟩ := HRL2.out.at_ (by omega)
            obtain ⟨A4, c4, k4, r4⟩ := hc1 i2 hil
            obtain ⟨A5, c5, k5, r5⟩ := hc2 i2 hil
            have k1 := (HBR.out.cell (p := ⟨b1, o1 + i2, none⟩) hb1).trans k4
            have k2' := (HBR.out.cell (p := ⟨b2, o2 + i2, none⟩) hb2).trans k5
            have r4' := r4.below HBR.out
            have r5' := r5.below HBR.out
            obtain ⟨y, hy⟩ : ∃ y, y = l[i2] := ⟨_, rfl⟩
            obtain ⟨t, ht⟩ : ∃ t, t = l[i2].length := ⟨_, rfl⟩
            rw [← ht] at k1 k2' r4' r5'
            rw [← hy] at r4' r5'
            have hs1 := fun k => By.str8 (r4'.drewN k)
            have hs2 := fun k => By.str8 (r5'.drewN k)
            have hq1 : ((strOf y).toList == (strOf y).toList) = true := by simp
            have hip' : (i2 : Int) < p := by omega
            clear hy ht k4 k5 r4 r5 r4' r5' hc1 hc2
            go_wp2
            go_quiet (fail)
            go_wp2
            go_roundw
            case rel => exact ⟨i2 + 1, by go_num, by omega, bel_drewN HBR.out _⟩
            case measure => simp [intOf]; omega
          · go_wp2
            go_ret
            exact ⟨rfl, HB4.out.trans (HBR.out.mono HB4.out.size)⟩
  · have hg : decide ((20 : Int) < p) = true ∨ (decide ((20 : Int) < p) = false ∧ decide ((3000 : Int) < q) = true) := by
      by_cases g1 : p ≤ 20
      · exact .inr ⟨by simp; omega, by simp; omega⟩
      · exact .inl (by simp; omega)
    clear hok
    rcases hg with g1 | ⟨g1, g2⟩
    all_goals
      go_enter Try.func6, Try.ntmps6
      go_wp2_with (first
        | (go_at_call 10; refine (awake_any w).mono ?_; rintro e w1 ⟨rfl, hb1⟩)
        | (go_at_call 10; refine (awake_any w1).mono ?_; rintro e w2 ⟨rfl, hb2⟩))
      go_ret
      exact ⟨rfl, hb1.trans (hb2.mono hb1.size)⟩
set_option maxRecDepth 100000 in
theorem lifted (os : Os) (started : os.Started) (H : Type) (enc : TypeId × Value → H) :
    ReturnsInHanded {} Try.checked os 6 .any (Rows.frameBackSpec.pre6 enc Try.prog Try.f6 Rows.frameBackRow.domain false) (Rows.frameBackSpec.post enc Try.prog Try.f6 false true false false) := by
  refine returnsInHanded_of_change (C := Try.checked) own started (by kernel_rfl) Try.func6
    (ChangeSpec.witness6 (enc := enc) (C := Try.checked) false ⟨#[], #[.slice none 0 0, .slice none 0 0, .int .u16 0], []⟩ 8 (by kernel_rfl) (by kernel_rfl) (by kernel_rfl) (by kernel_rfl)) ?_
  intro W base args ds gs before hval0 hW _ _
  have hval : ∀ (j : Nat) t v, Try.f6.params[j]? = some t → args[j]? = some v → Value.okWide Try.prog W .any base t v := hval0
  have hW' := hW
  obtain ⟨p, q, hA0, hV, rfl, hfz, hnd⟩ := hW
  have hA : DataW.TrodAll enc Try.prog W 0 (fun _ => true) true Try.f6.params.toList args.toList ds p := hA0
  rw [Try.params6] at hA hval
  obtain ⟨v0, v1, v2, d0, d1, d2, p0, p1, p2, rfl, rfl, rfl, h0, h1, h2⟩ := trodAll_three hA
  obtain ⟨rfl, rfl⟩ := trodVars_none hV
  obtain ⟨a0, len0, cap0, rfl⟩ := okWide_slice Try.underlying30 (hval 0 30 v0 rfl rfl)
  obtain ⟨fuel0, hf0⟩ := h0
  obtain ⟨bs0, rfl, hr0, _⟩ := By.list_of_trod hf0
  obtain ⟨a1, len1, cap1, rfl⟩ := okWide_slice Try.underlying22 (hval 1 22 v1 rfl rfl)
  obtain ⟨fuel1, hf1⟩ := h1
  obtain ⟨bs1, rfl, hr1, _⟩ := By.bytes_of_trod hf1
  obtain ⟨x2, rfl, rfl, rfl, w2⟩ := open_int Try.underlying35 (hval 2 35 v2 rfl rfl) h2
  refine (walk_any bs0 a0 cap0 bs1 a1 cap1 x2 W hr0 hr1 (By.wf_u16 w2)).mono fun e W' ⟨he, hb⟩ => ?_
  subst he
  exact ⟨_, rfl, law_post hW' (by kernel_rfl) rfl rfl rfl hb⟩
theorem proved : Rows.FrameBackSaid :=
  OpenClaim.holds_of_wide 6 Try.f6 rfl rfl rfl rfl rfl rfl rfl ⟨rfl, rfl, rfl, rfl, rfl⟩ rfl rfl rfl rfl rfl (by kernel_rfl) Try.func6 (by kernel_rfl)
    (of_decide_eq_true (by kernel_rfl)) (by unfold Func.isWrapper; first | (rw [if_pos (by decide +kernel)]; kernel_rfl) | (rw [if_neg (by decide +kernel)]; exact ⟨rfl, rfl⟩))
    (fun os started H enc _ => lifted os started H enc)
#print axioms proved
end Go.Proofs.Ytgglpkkmehpjhaa.lawFrameBack
