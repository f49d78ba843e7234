/- All frames of bytes, up to the first place at which none stands: the program's, the document's. -/
import Derived.Test.YtcffbgehopjgpaaFrameOne
import Derived.Test.YtcffbgehopjgpaaFrameRef2
import Derived.Test.YtcffbgehopjgpaaFrameAwake
import Derived.Test.YtcffbgehopjgpaaByList
namespace Go.Proofs.Ytcffbgehopjgpaa
open Go.RowKit
namespace Frm
open Crc By
/-- what 'Scan' answers -/
def ScanIs (bs : List UInt8) (w : World) (e : Ending) (w' : World) : Prop :=
  ∃ l k v, Scans bs l k ∧ e = .returned (.tuple #[v, .int .i64 (k : Nat)]) ∧ LogL w.heap.size w' v l ∧ Below w.heap.size w w'
theorem drop_len {bs : List UInt8} {n k : Nat} (hl : bs.length = n) : (bs.drop k).length = n - k := by rw [List.length_drop, hl]
/-- one round's 'One' -/
theorem one_at (bs : List UInt8) (n : Nat) (A : Option Addr) (c : Nat) (w wr : World) (hl : bs.length = n) (hn : n ≤ 100000) (hr : Rd w w.heap.size 1 A n c (u8s bs)) (hB : Below w.heap.size w wr) (k : Nat) (_ : k ≤ n) (m s : Nat) (hf : Fits (bs.drop k)) (hm : m = val4 (bs.drop k) + 8) (hs : s = k + m) :
    s ≤ n ∧ (∀ W, (Instr.slice 23 (.slice A n c) (some (.int .i64 (k : Nat))) (some (.int .i64 (s : Nat))) none).run Try.prog W = .ok (.slice (cutA A c k) m (c - k)) W) ∧
    Calls Try.prog 55 #[.slice (cutA A c k) m (c - k)] wr (NewTup (oneB (cutf (bs.drop k))) (.int .i64 (oneE (cutf (bs.drop k)))) wr) := by
  have h1 := hf.2.2
  rw [drop_len hl] at h1
  have hsn : s ≤ n := by omega
  have hcap := hr.cap
  refine ⟨hsn, fun W => ?_, ?_⟩
  · have := cut_both A n c k s (by omega) (by omega) W
    rwa [show s - k = m by omega] at this
  · have hr' := mid8 ((hr.below hB).more hB.size) (k := k) (j := s) (by omega) (by omega)
    rw [show s - k = m by omega, hm] at hr'
    have hcl := cutf_len hf
    rw [hm]
    exact one_any (cutf (bs.drop k)) _ _ _ wr hcl (by omega) hr'
set_option maxRecDepth 100000 in
set_option maxHeartbeats 1000000 in
theorem scan_any (bs : List UInt8) (n : Nat) (A : Option Addr) (c : Nat) (w : World) (hl : bs.length = n) (hn : n ≤ 100000) (hr : Rd w w.heap.size 1 A n c (u8s bs)) :
    Calls Try.prog 50 #[.slice A n c] w (ScanIs bs w) := by
  have HR := Lib.hid hr
  have HL := Lib.hid hl
  clear hr hl
  go_enter Try.func50, Try.ntmps50
  go_wp2
  go_loopw [4, 5] (fun v q wr => ∃ l k : _, q = .int .i64 (k : Nat) ∧ k ≤ n ∧ Hid (Upto bs l k) ∧ Hid (LogL w.heap.size wr v l) ∧ Hid (Below w.heap.size w wr)) (fun _ q _ => n - (intOf q).toNat)
  case atStart => exact ⟨[], 0, rfl, Nat.zero_le _, Upto.zero _, LogL.nil _ _, Below.refl _ _⟩
  case round =>
    obtain ⟨l, k, rfl, hk, HU, HLOG, HB⟩ := hrel
    have hcf := fun W => cut_from A n c k hk W
    obtain ⟨A1, hA1⟩ : ∃ A1, A1 = cutA A c k := ⟨_, rfl⟩
    obtain ⟨n1, hn1⟩ : ∃ n1, n1 = n - k := ⟨_, rfl⟩
    rw [← hA1, ← hn1] at hcf
    have HS : Hid (Calls Try.prog 54 #[.slice A1 n1 (c - k)] wr (SizeIs (bs.drop k) wr)) := by
      rw [hA1, hn1]
      exact size_any (bs.drop k) (n - k) _ _ _ wr (drop_len HL.out) (by omega) (drop8 (HR.out.below HB.out) hk)
    by_cases hf : Fits (bs.drop k)
    · obtain ⟨m, hm⟩ : ∃ m, m = val4 (bs.drop k) + 8 := ⟨_, rfl⟩
      have HS1 : Hid (Calls Try.prog 54 #[.slice A1 n1 (c - k)] wr fun e w' => e = .returned (.tuple #[.int .i64 m, .bool true]) ∧ wr = w') := HS.out.mono (by
        rintro e w' ⟨rfl, ⟨_, hno⟩ | ⟨m', rfl, _, hmv⟩⟩
        · exact absurd hf hno
        · rw [← hm] at hmv
          rw [hmv]
          exact ⟨rfl, rfl⟩)
      obtain ⟨s, hs⟩ : ∃ s, s = k + m := ⟨_, rfl⟩
      obtain ⟨hsn, hcb, hone⟩ := one_at bs n A c w wr HL.out hn HR.out HB.out k hk m s hf hm hs
      rw [← hA1] at hcb hone
      have es : (k : Int) + m = (s : Int) := by omega
      have HM := Lib.hid hm
      have HF := Lib.hid hf
      have HS' := Lib.hid hs
      clear HS hf hA1 hn1 hm hs
      by_cases hb : Beg (bs.drop k)
      · obtain ⟨x, hx⟩ : ∃ x, x = inn (cutf (bs.drop k)) := ⟨_, rfl⟩
        have hE0 := (beg_one HF.out).1 hb
        have hBx : oneB (cutf (bs.drop k)) = x := by rw [oneB_ok hE0, hx]
        obtain ⟨q, hq⟩ : ∃ q, q = x.length := ⟨_, rfl⟩
        obtain ⟨hup, hle⟩ := HU.out.more hb
        rw [← hx, ← HM.out, ← HS'.out] at hup
        have HONE : Hid (Calls Try.prog 55 #[.slice A1 m (c - k)] wr fun e w2 => ∃ A2 c2, e = .returned (.tuple #[.slice A2 q c2, .int .i64 0]) ∧ ∃ v2 w3, Hid ((Builtin.append_ #[54, 54] 54 #[u4, .slice (some ⟨w2.heap.size, 0, none⟩) 1 1]).run Try.prog (w2.alloc (.cells #[.slice A2 q c2] 23)) = .ok v2 w3) ∧
            Hid (LogL w.heap.size w3 v2 (l ++ [x])) ∧ Hid (Below w.heap.size w w3)) := by
          refine hone.mono ?_
          rintro e w2 ⟨A2, c2, rfl, ho2, hb2⟩
          rw [hBx, ← hq] at ho2 ⊢
          rw [hE0]
          have hc := HU.out.count
          obtain ⟨v2, w3, hrun, hlog, hb3⟩ := HLOG.out.push hb2 HB.out.size (by omega) hq.symm ho2
          exact ⟨A2, c2, rfl, v2, w3, hrun, hlog, (HB.out.trans (hb2.mono HB.out.size)).trans hb3⟩
        have HUP := Lib.hid hup
        have hm8 : 8 ≤ m := by rw [HM.out]; omega
        have hks : k < s := by rw [HS'.out]; omega
        clear hone hx hE0 hBx hq hup hle hb HLOG HU
        go_wp2_with (first
          | (at_builtin; refine Lib.wpList_append_run _ rfl _ _ _ _ rfl _ _ rfl rfl _ _ Hrun.out ?_)
          | (go_at_call 54; refine HS1.out.mono ?_; rintro e w' ⟨rfl, rfl⟩)
          | (go_at_call 55; refine HONE.out.mono ?_; rintro e w2 ⟨A2, c2, rfl, v2, w3, Hrun, HLOG3, HB3⟩))
        go_roundw
        case rel => exact ⟨_, s, rfl, hsn, HUP, HLOG3, HB3⟩
        case measure => simp [intOf]; omega
      · have hne : oneE (cutf (bs.drop k)) ≠ 0 := fun e => hb ((beg_one HF.out).2 e)
        obtain ⟨E, hE⟩ : ∃ E, E = oneE (cutf (bs.drop k)) := ⟨_, rfl⟩
        rw [← hE] at hne hone
        have f1 : ((E : Int) != 0) = true := by simp only [bne_iff_ne]; omega
        have hB0 : oneB (cutf (bs.drop k)) = [] := oneB_bad (by rw [← hE]; exact hne)
        have HONE : Hid (Calls Try.prog 55 #[.slice A1 m (c - k)] wr fun e w2 => ∃ A2 c2, e = .returned (.tuple #[.slice A2 0 c2, .int .i64 E]) ∧ Hid (LogL w.heap.size w2 u4 l) ∧ Hid (Below w.heap.size w w2)) := by
          refine hone.mono ?_
          rintro e w2 ⟨A2, c2, rfl, ho2, hb2⟩
          rw [hB0]
          exact ⟨A2, c2, rfl, HLOG.out.later hb2, HB.out.trans (hb2.mono HB.out.size)⟩
        have HNO := Lib.hid hb
        clear hone hE hne hB0 hb
        go_wp2_with (first
          | (go_at_call 54; refine HS1.out.mono ?_; rintro e w' ⟨rfl, rfl⟩)
          | (go_at_call 55; refine HONE.out.mono ?_; rintro e w2 ⟨A2, c2, rfl, HLOG2, HB2⟩))
        go_ret2
        exact ⟨l, k, _, ⟨HU.out, HNO.out⟩, rfl, HLOG2.out, HB2.out⟩
    · have HS1 : Hid (Calls Try.prog 54 #[.slice A1 n1 (c - k)] wr fun e w' => e = .returned (.tuple #[.int .i64 0, .bool false]) ∧ wr = w') := HS.out.mono (by
        rintro e w' ⟨rfl, ⟨rfl, hno⟩ | ⟨m', rfl, hyes, hmv⟩⟩
        · exact ⟨rfl, rfl⟩
        · exact absurd hyes hf)
      have HNO : Hid (¬ Beg (bs.drop k)) := not_beg_of_fits hf
      clear HS hf hA1 hn1
      go_wp2_with (go_at_call 54; refine HS1.out.mono ?_; rintro e w' ⟨rfl, rfl⟩)
      go_ret2
      exact ⟨l, k, _, ⟨HU.out, HNO.out⟩, rfl, HLOG.out, HB.out⟩
set_option maxRecDepth 100000 in
set_option maxHeartbeats 1000000 in
theorem refscan_any (bs : List UInt8) (n : Nat) (A : Option Addr) (c : Nat) (w : World) (hl : bs.length = n) (hn : n ≤ 100000) (hr : Rd w w.heap.size 1 A n c (u8s bs)) :
    Calls Try.prog 44 #[.slice A n c] w (ScanIs bs w) := by
  have HR := Lib.hid hr
  have HL := Lib.hid hl
  clear hr hl
  go_enter Try.func44, Try.ntmps44
  go_wp2
  go_loopw [4, 5] (fun v q wr => ∃ l k : _, q = .int .i64 (k : Nat) ∧ k ≤ n ∧ Hid (Upto bs l k) ∧ Hid (LogL w.heap.size wr v l) ∧ Hid (Below w.heap.size w wr)) (fun _ q _ => n - (intOf q).toNat)
  case atStart => exact ⟨[], 0, rfl, Nat.zero_le _, Upto.zero _, LogL.nil _ _, Below.refl _ _⟩
  case round =>
    obtain ⟨l, k, rfl, hk, HU, HLOG, HB⟩ := hrel
    by_cases hkn : k < n
    · have hcf := fun W => cut_from A n c k hk W
      obtain ⟨A1, hA1⟩ : ∃ A1, A1 = cutA A c k := ⟨_, rfl⟩
      obtain ⟨n1, hn1⟩ : ∃ n1, n1 = n - k := ⟨_, rfl⟩
      rw [← hA1, ← hn1] at hcf
      have HF0 : Hid (Calls Try.prog 51 #[.slice A1 n1 (c - k)] wr (FirstIs (bs.drop k) wr)) := by
        rw [hA1, hn1]
        exact first_any (bs.drop k) (n - k) _ _ wr (drop_len HL.out) (by omega) (drop8 ((HR.out.below HB.out).more HB.out.size) hk)
      by_cases hb : Beg (bs.drop k)
      · obtain ⟨x, hx⟩ : ∃ x, x = inn (cutf (bs.drop k)) := ⟨_, rfl⟩
        obtain ⟨q, hq⟩ : ∃ q, q = x.length := ⟨_, rfl⟩
        obtain ⟨hup, hle⟩ := HU.out.more hb
        have hqv : q = val4 (bs.drop k) := by rw [hq, hx]; exact (beg_split hb).2.1
        rw [← hx, ← hqv] at hup
        rw [← hqv, HL.out] at hle
        obtain ⟨s, hs⟩ : ∃ s, s = k + (q + 8) := ⟨_, rfl⟩
        rw [← hs] at hup hle
        have es : (k : Int) + 8 + q = (s : Int) := by omega
        have HF1 : Hid (Calls Try.prog 51 #[.slice A1 n1 (c - k)] wr fun e w2 => ∃ A2 c2, e = .returned (.tuple #[.slice A2 q c2, .bool true]) ∧ ∃ v2 w3, Hid ((Builtin.append_ #[54, 54] 54 #[u4, .slice (some ⟨w2.heap.size, 0, none⟩) 1 1]).run Try.prog (w2.alloc (.cells #[.slice A2 q c2] 23)) = .ok v2 w3) ∧
            Hid (LogL w.heap.size w3 v2 (l ++ [x])) ∧ Hid (Below w.heap.size w w3)) := by
          refine HF0.out.mono ?_
          rintro e w2 ⟨hb2, ⟨hno, _⟩ | ⟨_, A2, c2, rfl, ho2⟩⟩
          · exact absurd hb hno
          rw [← hx, ← hq] at ho2 ⊢
          have hc := HU.out.count
          obtain ⟨v2, w3, hrun, hlog, hb3⟩ := HLOG.out.push hb2 HB.out.size (by omega) hq.symm ho2
          exact ⟨A2, c2, rfl, v2, w3, hrun, hlog, (HB.out.trans (hb2.mono HB.out.size)).trans hb3⟩
        have HUP := Lib.hid hup
        have hks : k < s := by omega
        clear hx hqv hq hup hb HLOG HU hA1 hn1 HF0 hs
        have hki : (k : Int) < n := by omega
        go_wp2_with (first
          | (at_builtin; refine Lib.wpList_append_run _ rfl _ _ _ _ rfl _ _ rfl rfl _ _ Hrun.out ?_)
          | (go_at_call 51; refine HF1.out.mono ?_; rintro e w2 ⟨A2, c2, rfl, v2, w3, Hrun, HLOG3, HB3⟩))
        go_roundw
        case rel => exact ⟨_, s, rfl, hle, HUP, HLOG3, HB3⟩
        case measure => simp [intOf]; omega
      · have HF1 : Hid (Calls Try.prog 51 #[.slice A1 n1 (c - k)] wr fun e w2 => ∃ V, e = .returned (.tuple #[V, .bool false]) ∧ Hid (LogL w.heap.size w2 u4 l) ∧ Hid (Below w.heap.size w w2)) := by
          refine HF0.out.mono ?_
          rintro e w2 ⟨hb2, ⟨_, V, rfl⟩ | ⟨hyes, _⟩⟩
          · exact ⟨V, rfl, HLOG.out.later hb2, HB.out.trans (hb2.mono HB.out.size)⟩
          · exact absurd hyes hb
        have HNO := Lib.hid hb
        clear hb HF0 hA1 hn1
        have hki : (k : Int) < n := by omega
        go_wp2_with (go_at_call 51; refine HF1.out.mono ?_; rintro e w2 ⟨V, rfl, HLOG2, HB2⟩)
        go_ret2
        exact ⟨l, k, _, ⟨HU.out, HNO.out⟩, rfl, HLOG2.out, HB2.out⟩
    · have HE : Hid (Scans bs l k) := scans_end HU.out (by rw [HL.out]; omega)
      have hki : ¬ ((k : Int) < n) := by omega
      go_wp2
      go_ret2
      exact ⟨l, k, _, HE.out, rfl, HLOG.out, HB.out⟩
end Frm
end Go.Proofs.Ytcffbgehopjgpaa
