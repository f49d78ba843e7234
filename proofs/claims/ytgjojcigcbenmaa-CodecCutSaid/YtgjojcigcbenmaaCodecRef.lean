/- The document's own bytes of numbers and texts, and what it takes. -/
import Derived.Test.YtgjojcigcbenmaaCodec1
namespace Go.Proofs.Ytgjojcigcbenmaa
open Go.RowKit
namespace Codec
set_option maxRecDepth 100000 in
set_option maxHeartbeats 400000 in
theorem refnum_any (v : Int) (w : World) (h1 : -9223372036854775808 ≤ v) (h2 : v ≤ 9223372036854775807) :
    Calls Try.prog 29 #[.int .i64 v] w (NewRow 5 1 (u8s (numB v)) (numB v).length w) := by
  have hf := fold_lt h1 h2
  obtain ⟨u, hu⟩ : ∃ u, u = foldN v := ⟨_, rfl⟩
  have h10 := sev_ten hf
  rw [← hu] at hf h10
  have HN : Hid (numB v = sev u) := by rw [hu]; rfl
  by_cases hv : v < 0
  have e1 : IntKind.i64.wrap (v + 1) = v + 1 := IntWalk.i64_in _ (by omega)
  have e2 : IntKind.i64.wrap (-(v + 1)) = -(v + 1) := IntWalk.i64_in _ (by omega)
  have e3 : IntKind.u64.wrap (-(v + 1)) = -(v + 1) := IntWalk.u64_in _ (by omega)
  have e4 : IntKind.u64.wrap (2 * -(v + 1)) = 2 * -(v + 1) := IntWalk.u64_in _ (by omega)
  have e5 : IntKind.u64.wrap (2 * -(v + 1) + 1) = (u : Int) := by
    rw [IntWalk.u64_in _ (by omega), hu]
    unfold foldN; rw [if_pos hv]; omega
  clear hu
  rotate_left
  have e3 : IntKind.u64.wrap v = v := IntWalk.u64_in _ (by omega)
  have e5 : IntKind.u64.wrap (2 * v) = (u : Int) := by rw [IntKind.wrap_u64, hu]; unfold foldN; rw [if_neg hv]; omega
  clear hu
  all_goals
    go_enter Try.func29, Try.ntmps29
    go_wp2
    go_loopw [3, 4] (fun x v wr => ∃ (k : Nat) (pre : List UInt8), x = .int .u64 k ∧ k ≤ u ∧ wr.ownsRow w.heap.size 5 1 v pre.length (u8s pre) ∧ Below w.heap.size w wr ∧ Hid (pre ++ sev k = sev u)) (fun x _ _ => (intOf x).toNat)
    case atStart => exact ⟨u, [], rfl, Nat.le_refl _, World.ownsRow_nil _ _ _ _, Below.refl _ _, rfl⟩
    case round =>
      obtain ⟨k, pre, rfl, hk, hown, hB, hpre⟩ := hrel
      by_cases hge : 128 ≤ k
      · obtain ⟨b, hb⟩ : ∃ b, b = UInt8.ofNat (k % 128 + 128) := ⟨_, rfl⟩
        have hpre2 : Hid ((pre ++ [b]) ++ sev (k / 128) = sev u) := by
          unfold Hid at *
          rw [← hpre, sev_ge hge, hb]; simp
        have hx : Hid (128 + (k : Int) % 128 = (b.toNat : Int)) := by
          unfold Hid
          rw [hb, UInt8.toNat_ofNat']; omega
        have hlen : pre.length ≤ 1000 := by
          have h1 := congrArg List.length hpre
          have h2 := sev_pos k
          rw [List.length_append] at h1; omega
        clear hb
        obtain ⟨v2, w4, hrun, hown2, hb4⟩ := run_push8 wr w.heap.size wr.heap.size rfl hB.size _ pre hown b _ hx.out hlen
        have Hrun := Lib.hid hrun
        clear hrun
        go_wp2_with (at_builtin; refine Lib.wpList_append_run _ rfl _ _ _ _ rfl _ _ rfl rfl _ _ Hrun.out ?_)
        go_roundw
        case rel => exact ⟨k / 128, pre ++ [b], by go_num, by omega, hown2, hB.trans hb4, hpre2⟩
        case measure => simp [intOf]; omega
      · obtain ⟨b, hb⟩ : ∃ b, b = UInt8.ofNat k := ⟨_, rfl⟩
        have hpre2 : Hid (sev u = pre ++ [b]) := by
          unfold Hid at *
          rw [← hpre, sev_lt (by omega), hb]
        have hx : Hid ((k : Int) = (b.toNat : Int)) := by
          unfold Hid
          rw [hb, UInt8.toNat_ofNat']; omega
        have hlen : pre.length ≤ 1000 := by
          have h1 := congrArg List.length hpre2
          rw [List.length_append] at h1; omega
        clear hb
        obtain ⟨v2, w4, hrun, hown2, hb4⟩ := run_push8 wr w.heap.size wr.heap.size rfl hB.size _ pre hown b _ hx.out hlen
        obtain ⟨acc2, hacc2⟩ : ∃ acc2, acc2 = pre ++ [b] := ⟨_, rfl⟩
        rw [← hacc2] at hown2
        have HA := Lib.hid hacc2
        clear hacc2
        have Hrun := Lib.hid hrun
        clear hrun
        obtain ⟨A2, c2, rfl, ho2⟩ := Own.of_row hown2 (u8s_one _)
        clear hown2
        go_wp2_with (at_builtin; refine Lib.wpList_append_run _ rfl _ _ _ _ rfl _ _ rfl rfl _ _ Hrun.out ?_)
        go_ret
        have he : numB v = acc2 := HN.out.trans (hpre2.out.trans HA.out.symm)
        rw [he]
        exact ⟨A2, c2, rfl, ho2, hB.trans hb4⟩

theorem run_appstr' (W : World) (base : Nat) (v : Value) (acc : List UInt8) (hown : W.ownsRow base 5 1 v acc.length (u8s acc)) (s : ByteArray) (hn : acc.length + s.size ≤ 1000000) (hb : base ≤ W.heap.size) :
    ∃ A c w', (Builtin.append_ #[25, 9] 25 #[v, .string s]).run Try.prog W = .ok (.slice A (acc ++ s.data.toList).length c) w' ∧ Own w' base 5 1 A (acc ++ s.data.toList).length c (u8s (acc ++ s.data.toList)) ∧ Below base W w' := by
  obtain ⟨i0, hi0, hz0, hz1, hz2⟩ := info_parts8
  obtain ⟨v', w', hrun, hown', hgr, hbl⟩ := run_app_str (P := Try.prog) W 25 9 25 5 i0 Try.underlying25 Try.underlying9 hi0 hz0 hz1 hz2 hown s hn hb
  obtain ⟨A, c, rfl, ho⟩ := Own.of_row hown' (by rw [← u8s_append]; exact u8s_one _)
  have hl : (acc ++ s.data.toList).length = acc.length + s.size := by simp
  rw [hl, u8s_append]
  exact ⟨A, c, w', hrun, ho, (Below.refl base W).grown hgr hb (fun k hk => (hown.lt k hk).1)⟩
/-- a text's bytes -/
def textB (s : List UInt8) : List UInt8 := numB s.length ++ s
theorem text_len (s : ByteArray) : s.data.toList.length = s.size := by simp
set_option maxRecDepth 100000 in
theorem reftext_any (s : ByteArray) (w : World) (hs : s.size ≤ 900000) :
    Calls Try.prog 28 #[.string s] w (NewRow 5 1 (u8s (textB s.data.toList)) (textB s.data.toList).length w) := by
  have h10 := numB_ten (v := s.size) (by omega) (by omega)
  have HT : Hid (textB s.data.toList = numB s.size ++ s.data.toList) := by unfold textB; rw [text_len]; rfl
  go_enter Try.func28, Try.ntmps28
  go_wp2_with (first
    | (go_at_call 29; refine (refnum_any s.size _ (by omega) (by omega)).mono ?_; rintro e w1 ⟨A1, c1, rfl, ho1, hb1⟩; obtain ⟨A2, c2, w2, hrun, ho2, hb2⟩ := run_appstr' w1 w.heap.size _ _ ho1.row s (by omega) hb1.size; have Hrun := Lib.hid hrun; clear hrun)
    | (at_builtin; refine Lib.wpList_append_run _ rfl _ _ _ _ rfl _ _ rfl rfl _ _ Hrun.out ?_))
  go_ret
  have hl : (numB s.size ++ s.data.toList).length = (numB s.size).length + s.size := by simp
  rw [hl] at ho2
  rw [HT.out, hl]
  exact ⟨A2, c2, rfl, ho2, hb1.trans hb2⟩
end Codec
end Go.Proofs.Ytgjojcigcbenmaa
