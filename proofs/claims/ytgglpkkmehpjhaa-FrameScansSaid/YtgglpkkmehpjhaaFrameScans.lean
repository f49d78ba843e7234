/- FrameScans answers true for all bytes, and leaves them as they were. No condition. -/
import Derived.Test.YtgglpkkmehpjhaaFrameScan
namespace Go.Proofs.Ytgglpkkmehpjhaa.lawFrameScans
open Go.ChangeShapes Go.WideShapes Go.ChangeAt Go.RowKit Frm
/-- the contract with letters -/
def ScanTo (bs : List UInt8) (w : World) (e : Ending) (w' : World) : Prop :=
  ∃ l k p A c, Scans bs l k ∧ e = .returned (.tuple #[.slice A p c, .int .i64 (k : Nat)]) ∧ By.RdL w' w'.heap.size A p c l ∧ Below w.heap.size w w'
theorem scan_to {bs : List UInt8} {w : World} {e : Ending} {w' : World} (h : ScanIs bs w e w') : ScanTo bs w e w' := by
  obtain ⟨l, k, v, hs, rfl, hlog, hb⟩ := h
  obtain ⟨A, c, rfl, hr⟩ := hlog.rdL
  exact ⟨l, k, l.length, A, c, hs, rfl, hr, hb⟩
set_option maxRecDepth 100000 in
set_option maxHeartbeats 400000 in
theorem walk_any (bs : List UInt8) (A : Option Addr) (c : Nat) (w : World) (hr : Rd w w.heap.size 1 A bs.length c (u8s bs)) :
    Calls Try.prog 4 #[.slice A bs.length c] w fun e w' => e = .returned (.bool true) ∧ Below w.heap.size w w' := by
  obtain ⟨n, hn⟩ : ∃ n, n = bs.length := ⟨_, rfl⟩
  rw [← hn] at hr ⊢
  have HR := Lib.hid hr
  have HN := Lib.hid hn
  clear hr hn
  by_cases hlt : n ≤ 100000
  · have f1 : decide ((100000 : Int) < n) = false := by simp; omega
    go_enter Try.func4, Try.ntmps4
    go_wp2_with (first
      | (go_at_call 10; refine (awake_any w).mono ?_; rintro e w1 ⟨rfl, hb1⟩; have HB := Lib.hid hb1; have HR1 := Lib.hid (Rd.later HR.out hb1); clear hb1)
      | (go_at_call 13; refine (scan_any bs n A c w1 HN.out.symm hlt HR1.out).mono ?_; intro e w2 hsc; obtain ⟨l, k, p, A1, c1, hs, rfl, hrl, hb2⟩ := scan_to hsc; have HS := Lib.hid hs; have HRL := Lib.hid hrl; have HR2 := Lib.hid (Rd.later HR1.out hb2); have HB2 := Lib.hid (HB.out.trans (hb2.mono HB.out.size)); clear hsc hs hrl hb2)
      | (go_at_call 14; refine (refscan_any bs n A c w2 HN.out.symm hlt HR2.out).mono ?_; intro e w3 hsc; obtain ⟨l2, k2, p2, A2, c2, hs, rfl, hrl, hb3⟩ := scan_to hsc; obtain ⟨rfl, rfl⟩ := HS.out.uniq hs; (have hpp : p2 = p := by rw [← HRL.out.len, ← hrl.len]); subst hpp; have HRL2 := Lib.hid hrl; have HRL1 := Lib.hid (By.RdL.later HRL.out hb3); have HB3 := Lib.hid (HB2.out.trans (hb3.mono HB2.out.size)); clear hsc hs hrl hb3))
    go_loopw [38] (fun q wr => ∃ i : Nat, q = .int .i64 i ∧ i ≤ p2 ∧ Hid (Below w3.heap.size w3 wr)) (fun q _ => p2 - (intOf q).toNat)
    case atStart => exact ⟨0, rfl, Nat.zero_le _, Below.refl _ _⟩
    case round =>
      obtain ⟨i, rfl, hi, HBR⟩ := hrel
      have hpb : p2 ≤ 100000 := by have h1 := HS.out.toUpto.count; have h2 := HS.out.toUpto.le; rw [← HN.out] at h2; rw [HRL2.out.len] at h1; omega
      by_cases hip : i < p2
      · have hil : i < l.length := by rw [HRL2.out.len]; exact hip
        obtain ⟨b1, o1, rfl, hb1, hc1⟩ := HRL1.out.at_ (by omega)
        obtain ⟨b2, o2, rfl, hb2, hc2⟩ := HRL2.out.at_ (by omega)
        obtain ⟨A4, c4, k4, r4⟩ := hc1 i hil
        obtain ⟨A5, c5, k5, r5⟩ := hc2 i hil
        have k1 := (HBR.out.cell (p := ⟨b1, o1 + i, none⟩) hb1).trans k4
        have k2' := (HBR.out.cell (p := ⟨b2, o2 + i, none⟩) hb2).trans k5
        have r4' := r4.below HBR.out
        have r5' := r5.below HBR.out
        obtain ⟨x, hx⟩ : ∃ x, x = l[i] := ⟨_, rfl⟩
        obtain ⟨q, hq⟩ : ∃ q, q = l[i].length := ⟨_, rfl⟩
        rw [← hq] at k1 k2' r4' r5'
        rw [← hx] at r4' r5'
        have hs1 := fun k => By.str8 (r4'.drewN k)
        have hs2 := fun k => By.str8 (r5'.drewN k)
        have hq1 : ((strOf x).toList == (strOf x).toList) = true := by simp
        have hip' : (i : Int) < p2 := by omega
        clear hx hq k4 k5 r4 r5 r4' r5' hc1 hc2
        go_wp2
        go_quiet (fail)
        go_wp2
        go_roundw
        case rel => exact ⟨i + 1, by go_num, by omega, bel_drewN HBR.out _⟩
        case measure => simp [intOf]; omega
      · go_wp2
        go_ret
        exact ⟨rfl, HB3.out.trans (HBR.out.mono HB3.out.size)⟩
  · have f1 : decide ((100000 : Int) < n) = true := by simp; omega
    go_enter Try.func4, Try.ntmps4
    go_wp2_with (first
      | (go_at_call 10; refine (awake_any w).mono ?_; rintro e w1 ⟨rfl, hb1⟩)
      | (go_at_call 10; refine (awake_any w1).mono ?_; rintro e w2 ⟨rfl, hb2⟩))
    go_ret
    exact ⟨rfl, hb1.trans (hb2.mono hb1.size)⟩
set_option maxRecDepth 100000 in
theorem lifted (os : Os) (started : os.Started) (H : Type) (enc : TypeId × Value → H) :
    ReturnsInHanded {} Try.checked os 4 .any (Rows.frameScansSpec.pre6 enc Try.prog Try.f4 Rows.frameScansRow.domain false) (Rows.frameScansSpec.post enc Try.prog Try.f4 false true false false) := by
  refine returnsInHanded_of_change (C := Try.checked) own started (by kernel_rfl) Try.func4
    (ChangeSpec.witness6 (enc := enc) (C := Try.checked) false ⟨#[], #[.slice none 0 0], []⟩ 8 (by kernel_rfl) (by kernel_rfl) (by kernel_rfl) (by kernel_rfl)) ?_
  intro W base args ds gs before hval0 hW _ _
  have hval : ∀ (j : Nat) t v, Try.f4.params[j]? = some t → args[j]? = some v → Value.okWide Try.prog W .any base t v := hval0
  have hW' := hW
  obtain ⟨p, q, hA0, hV, rfl, hfz, hnd⟩ := hW
  have hA : DataW.TrodAll enc Try.prog W 0 (fun _ => true) true Try.f4.params.toList args.toList ds p := hA0
  rw [Try.params4] at hA hval
  obtain ⟨v0, d0, rfl, rfl, h0⟩ := trodAll_one hA
  obtain ⟨rfl, rfl⟩ := trodVars_none hV
  obtain ⟨a0, len0, cap0, rfl⟩ := okWide_slice Try.underlying22 (hval 0 22 v0 rfl rfl)
  obtain ⟨fuel0, hf0⟩ := h0
  obtain ⟨bs0, rfl, hr0, _⟩ := By.bytes_of_trod hf0
  refine (walk_any bs0 a0 cap0 W hr0).mono fun e W' ⟨he, hb⟩ => ?_
  subst he
  exact ⟨_, rfl, law_post hW' (by kernel_rfl) rfl rfl rfl hb⟩
theorem proved : Rows.FrameScansSaid :=
  OpenClaim.holds_of_wide 4 Try.f4 rfl rfl rfl rfl rfl rfl rfl ⟨rfl, rfl, rfl, rfl, rfl⟩ rfl rfl rfl rfl rfl (by kernel_rfl) Try.func4 (by kernel_rfl)
    (of_decide_eq_true (by kernel_rfl)) (by unfold Func.isWrapper; first | (rw [if_pos (by decide +kernel)]; kernel_rfl) | (rw [if_neg (by decide +kernel)]; exact ⟨rfl, rfl⟩))
    (fun os started H enc _ => lifted os started H enc)
#print axioms proved
end Go.Proofs.Ytgglpkkmehpjhaa.lawFrameScans
