/- The document's own frames: what bytes begin with; what they are as one frame. -/
import Derived.Test.YtcffbgehopjgpaaFrameRef
namespace Go.Proofs.Ytcffbgehopjgpaa
open Go.RowKit
namespace Frm
open Crc
/-- what 'First' answers -/
def FirstIs (bs : List UInt8) (w : World) (e : Ending) (w' : World) : Prop :=
  Below w.heap.size w w' ∧ ((¬ Beg bs ∧ ∃ v, e = .returned (.tuple #[v, .bool false])) ∨
    (Beg bs ∧ ∃ A c, e = .returned (.tuple #[.slice A (inn (cutf bs)).length c, .bool true]) ∧ Own w' w.heap.size 5 1 A (inn (cutf bs)).length c (u8s (inn (cutf bs)))))
theorem mid_inn {bs : List UInt8} (_ : Fits bs) : (bs.drop 4).take (val4 bs) = inn (cutf bs) := by
  have hl := cutf_len ‹Fits bs›
  unfold inn
  rw [hl]
  unfold cutf
  rw [List.take_take, Nat.min_eq_left (by omega), List.drop_take]
  congr 1
theorem eq_beg {bs : List UInt8} (h : Fits bs) : frm (inn (cutf bs)) = cutf bs ↔ Beg bs :=
  ⟨fun e => ⟨h, sum_of_frm e⟩, fun hb => frm_inn (told_cutf h) hb.2⟩
set_option maxRecDepth 100000 in
set_option maxHeartbeats 1000000 in
theorem first_any (bs : List UInt8) (n : Nat) (A : Option Addr) (c : Nat) (w : World) (hl : bs.length = n) (hn : n ≤ 200000) (hr : Rd w w.heap.size 1 A n c (u8s bs)) :
    Calls Try.prog 51 #[.slice A n c] w (FirstIs bs w) := by
  have HT0 := Lib.hid (told_any bs n A c _ w hl hr)
  have HR := Lib.hid hr
  have HL := Lib.hid hl
  clear hr hl
  by_cases h4 : n < 4
  · have hno : Hid (¬ Beg bs) := not_beg_of_fits fun h => by have := h.1; rw [HL.out] at this; omega
    have HT : Hid (Calls Try.prog 56 #[.slice A n c] w fun e w' => e = .returned (.int .i64 (-1)) ∧ Below w.heap.size w w') := by
      have := HT0.out; rw [if_pos h4] at this; exact this
    clear HT0
    go_enter Try.func51, Try.ntmps51
    go_wp2_with (go_at_call 56; refine HT.out.mono ?_; rintro e w1 ⟨rfl, hb1⟩)
    go_ret2
    exact ⟨hb1, .inl ⟨hno.out, _, rfl⟩⟩
  · obtain ⟨v, hv⟩ : ∃ v, v = val4 bs := ⟨_, rfl⟩
    have HT : Hid (Calls Try.prog 56 #[.slice A n c] w fun e w' => e = .returned (.int .i64 v) ∧ Below w.heap.size w w') := by
      have := HT0.out; rw [if_neg h4, ← hv] at this; exact this
    clear HT0
    have hv0 : decide ((v : Int) < 0) = false := decide_eq_false (by omega)
    have HV := Lib.hid hv
    clear hv
    by_cases h6 : v ≤ 60000
    · have d6 : decide ((60000 : Int) < v) = false := by simp; omega
      by_cases h8 : v + 8 ≤ n
      · have d8 : decide ((n : Int) - 8 < v) = false := by simp; omega
        have hf : Hid (Fits bs) := ⟨by rw [HL.out]; omega, by rw [← HV.out]; exact h6, by rw [← HV.out, HL.out]; exact h8⟩
        obtain ⟨j, hj⟩ : ∃ j, j = 4 + v := ⟨_, rfl⟩
        obtain ⟨m, hm⟩ : ∃ m, m = 8 + v := ⟨_, rfl⟩
        have ej : (4 : Int) + v = (j : Int) := by omega
        have em : (8 : Int) + v = (m : Int) := by omega
        have hcap := HR.out.cap
        obtain ⟨A1, hA1⟩ : ∃ A1, A1 = By.cutA A c 4 := ⟨_, rfl⟩
        have hc1 : ∀ W, (Instr.slice 23 (.slice A n c) (some (.int .i64 4)) (some (.int .i64 (j : Nat))) none).run Try.prog W = .ok (.slice A1 v (c - 4)) W := by
          intro W
          have := By.cut_both A n c 4 j (by omega) (by omega) W
          rw [← hA1, show j - 4 = v by omega] at this
          exact this
        have hc2 : ∀ W, (Instr.slice 23 (.slice A n c) none (some (.int .i64 (m : Nat))) none).run Try.prog W = .ok (.slice A m c) W := fun W => By.cut_to A n c m (by omega) W
        have HR1 : Hid (Rd w w.heap.size 1 A1 v (c - 4) (u8s (inn (cutf bs)))) := by
          have := By.mid8 HR.out (k := 4) (j := j) (by omega) (by omega)
          rw [← hA1, show j - 4 = v by omega, HV.out, mid_inn hf.out, ← HV.out] at this
          exact this
        have HRm : Hid (Rd w w.heap.size 1 A m c (u8s (cutf bs))) := by
          have := By.take8 HR.out (k := m) (by omega)
          rw [show m = val4 bs + 8 by rw [← HV.out]; omega] at this ⊢
          exact this
        have HM : Hid (m = 8 + v) := hm
        have LI : Hid ((inn (cutf bs)).length = v) := by unfold Hid; rw [inn_len (told_cutf hf.out), HV.out]; unfold cutf; exact val4_take (by omega)
        obtain ⟨x, hx⟩ : ∃ x, x = inn (cutf bs) := ⟨_, rfl⟩
        have L3 : Hid ((frm x).length = m) := by unfold Hid; rw [frm_len, hx, LI.out, HM.out]; omega
        obtain ⟨t, ht⟩ : ∃ t, t = decide (Beg bs) := ⟨_, rfl⟩
        have hX : ((strOf (frm x)).toList == (strOf (cutf bs)).toList) = t := by
          rw [By.str_beq, ht, hx]
          exact decide_eq_decide.2 (eq_beg hf.out)
        rw [← hx] at HR1 LI
        have H1 : ∀ w1, Below w.heap.size w w1 → ∃ A2 c2 w2, Hid ((Builtin.append_ #[23, 23] 23 #[.slice (some ⟨w1.heap.size, 0, none⟩) 0 0, .slice A1 v (c - 4)]).run Try.prog (w1.alloc (.cells #[] 5)) = .ok (.slice A2 v c2) w2) ∧
            Hid (Own w2 w.heap.size 5 1 A2 v c2 (u8s x)) ∧ Hid (Below w.heap.size w w2) ∧ Hid (Calls Try.prog 33 #[.slice A2 v c2] w2 fun e w3 => ∃ A3 c3, e = .returned (.tuple #[.slice A3 m c3, .bool true]) ∧
              Hid (Own w3 w.heap.size 5 1 A2 v c2 (u8s x)) ∧ Hid (Below w.heap.size w w3) ∧ (∀ k, (convert 23 9 (.slice A3 m c3)).run Try.prog (w3.drewN k) = .ok (.string (strOf (frm x))) (w3.drewN k)) ∧
              (∀ k, (convert 23 9 (.slice A m c)).run Try.prog (w3.drewN k) = .ok (.string (strOf (cutf bs))) (w3.drewN k))) := by
          intro w1 hb1
          obtain ⟨A2, c2, w2, hrun, ho2, hb2⟩ := By.run_new8 w1 ((HR1.out.below hb1).more hb1.size) (Nat.le_refl _) (by omega)
          have hb := hb1.trans (hb2.mono hb1.size)
          have ho2' := ho2.mono hb1.size
          refine ⟨A2, c2, w2, hrun, ho2', hb, ?_⟩
          refine (refframe_any x v A2 c2 _ w2 LI.out h6 ho2.rd (Nat.le_refl _)).mono ?_
          rintro e w3 ⟨A3, c3, rfl, ho3, hb3⟩
          rw [L3.out] at ho3 ⊢
          refine ⟨A3, c3, rfl, ⟨ownsRow_later ho2'.row hb3, ho2'.one⟩, hb.trans (hb3.mono hb.size), fun k => By.str8 (ho3.rd.drewN k), fun k => By.str8 ((HRm.out.below (hb.trans (hb3.mono hb.size))).drewN k)⟩
        have HH1 := Lib.hid H1
        have HX := Lib.hid hx
        have HTT := Lib.hid ht
        clear H1 hx ht hA1 hj hm
        go_enter Try.func51, Try.ntmps51
        go_wp2_with (first
          | (at_builtin; refine Lib.wpList_append_run _ rfl _ _ _ _ rfl _ _ rfl rfl _ _ Hrun.out ?_)
          | (go_at_call 56; refine HT.out.mono ?_; rintro e w1 ⟨rfl, hb1⟩; obtain ⟨A2, c2, w2, Hrun, HO2, HB2, HF⟩ := HH1.out w1 hb1; clear hb1)
          | (go_at_call 33; refine HF.out.mono ?_; rintro e w3 ⟨A3, c3, rfl, HO3, HB3, hs1, hs2⟩))
        go_quiet (fail)
        go_wp2
        go_ret2
        cases t with
        | false => exact ⟨bel_drewN HB3.out _, .inl ⟨of_decide_eq_false HTT.out.symm, _, rfl⟩⟩
        | true =>
          refine ⟨bel_drewN HB3.out _, .inr ⟨of_decide_eq_true HTT.out.symm, A2, c2, ?_, ?_⟩⟩
          · rw [← HX.out, LI.out]; rfl
          · rw [← HX.out, LI.out]; exact ⟨ownsRow_later HO3.out.row (bel_drewN (Below.refl _ _) _), HO3.out.one⟩
      · have d8 : decide ((n : Int) - 8 < v) = true := by simp; omega
        have hno : Hid (¬ Beg bs) := not_beg_of_fits fun h => by have := h.2.2; rw [HL.out, ← HV.out] at this; omega
        go_enter Try.func51, Try.ntmps51
        go_wp2_with (go_at_call 56; refine HT.out.mono ?_; rintro e w1 ⟨rfl, hb1⟩)
        go_ret2
        exact ⟨hb1, .inl ⟨hno.out, _, rfl⟩⟩
    · have d6 : decide ((60000 : Int) < v) = true := by simp; omega
      have hno : Hid (¬ Beg bs) := not_beg_of_fits fun h => by have := h.2.1; rw [← HV.out] at this; omega
      go_enter Try.func51, Try.ntmps51
      go_wp2_with (go_at_call 56; refine HT.out.mono ?_; rintro e w1 ⟨rfl, hb1⟩)
      go_ret2
      exact ⟨hb1, .inl ⟨hno.out, _, rfl⟩⟩
theorem cutf_told {bs : List UInt8} (h : Told bs) : cutf bs = bs := by
  unfold cutf
  rw [h.2.2]
  exact List.take_length
theorem fits_told {bs : List UInt8} (h : Told bs) : Fits bs := ⟨h.1, h.2.1, by rw [h.2.2]; exact Nat.le_refl _⟩
end Frm
end Go.Proofs.Ytcffbgehopjgpaa
