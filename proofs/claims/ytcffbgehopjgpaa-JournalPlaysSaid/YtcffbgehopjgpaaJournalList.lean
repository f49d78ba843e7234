/- Layer 18: lists of records: the document's framed, and whether two lists are alike. -/
import Derived.Test.YtcffbgehopjgpaaJournalBits
import Derived.Test.YtcffbgehopjgpaaByList
import Derived.Test.YtcffbgehopjgpaaFrameRef
import Derived.BigQuiet
namespace Go.Proofs.Ytcffbgehopjgpaa
open Go.ChangeShapes Go.WideShapes Go.ChangeAt Go.RowKit
namespace Jrn
open By Tpe Frm
set_option maxRecDepth 100000
set_option maxHeartbeats 2000000
theorem frms_take {l : List Rec} {k : Nat} (h : k < l.length) : frms (l.take (k + 1)) = frms (l.take k) ++ frm l[k] := by
  rw [List.take_succ_eq_append_getElem h, frms_snoc]
theorem frms_take_le (l : List Rec) (k : Nat) : (frms (l.take k)).length ≤ (frms l).length := by
  have h : frms l = frms (l.take k) ++ frms (l.drop k) := by
    unfold frms
    rw [← List.flatMap_append, List.take_append_drop]
  rw [h, List.length_append]
  omega
theorem framed_any (l : List Rec) (n : Nat) (A : Option Addr) (c : Nat) (w : World) (hl : RdL w w.heap.size A n c l) (h60 : ∀ a ∈ l, a.length ≤ 60000) (ht : (frms l).length ≤ 100000) (hn : n ≤ 1000000) :
    Calls Try.prog 45 #[.slice A n c] w fun e w' => ∃ A' c', e = .returned (.slice A' (frms l).length c') ∧ Own w' w.heap.size 5 1 A' (frms l).length c' (u8s (frms l)) ∧ Below w.heap.size w w' := by
  have HL := Lib.hid hl
  clear hl
  go_enter Try.func45, Try.ntmps45
  go_wp2_with fail
  go_loopw [3, 9] (fun v q wr => ∃ k : Nat, q = .int .i64 k ∧ k ≤ n ∧ Hid (wr.ownsRow w.heap.size 5 1 v (frms (l.take k)).length (u8s (frms (l.take k)))) ∧ Hid (Below w.heap.size w wr)) (fun _ q _ => n - (intOf q).toNat)
  case atStart => exact ⟨0, rfl, Nat.zero_le _, World.ownsRow_nil _ _ _ _, Below.refl _ _⟩
  case round =>
    obtain ⟨k, rfl, hk, HO, HB⟩ := hrel
    by_cases hlt : k < n
    · have hki : (k : Int) < (n : Int) := by omega
      have hkl : k < l.length := by rw [HL.out.len]; exact hlt
      obtain ⟨b, o, rfl, hb, hc⟩ := HL.out.at_ (by omega)
      obtain ⟨A1, c1, k0, hrd⟩ := hc k hkl
      have hmem := h60 l[k] (List.getElem_mem hkl)
      have htk := frms_take hkl
      have hle := frms_take_le l k
      obtain ⟨x, hx⟩ : ∃ x, x = l[k] := ⟨_, rfl⟩
      obtain ⟨m, hm⟩ : ∃ m, m = x.length := ⟨_, rfl⟩
      rw [← hx] at k0 hrd hmem htk
      rw [← hm] at k0 hrd hmem
      have k0 := (HB.out.cell (p := ⟨b, o + k, none⟩) hb).trans k0
      obtain ⟨acc, hacc⟩ : ∃ acc, acc = frms (l.take k) := ⟨_, rfl⟩
      rw [← hacc] at htk hle HO
      have HTK := Lib.hid htk
      have HFR := Lib.hid (refframe_any x m A1 c1 wr.heap.size wr hm.symm hmem ((hrd.below HB.out).more HB.out.size) (Nat.le_refl _))
      have hfl : (frm x).length = m + 8 := by rw [frm_len, hm]
      unfold RefTup at HFR
      rw [hfl] at HFR
      clear hc hrd hx htk
      have HM := Lib.hid hm
      have HFL := Lib.hid hfl
      clear hm hfl hacc
      go_wp2_with fail
      refine HFR.out.mono ?_
      rintro e w2 ⟨A2, c2, rfl, ho2, hb2⟩
      have hown := ownsRow_later HO.out hb2
      obtain ⟨A3, c3, w3, hrun, ho3, hb3⟩ := run_app8 w2 w.heap.size (Nat.le_trans HB.out.size hb2.size) u3 acc hown ho2.rd (by omega)
      obtain ⟨L3, hL3⟩ : ∃ L, (acc ++ frm x).length = L := ⟨_, rfl⟩
      rw [hL3] at hrun ho3
      have HRUN := Lib.hid hrun
      have HO3 : Hid (w3.ownsRow w.heap.size 5 1 (.slice A3 L3 c3) (frms (l.take (k + 1))).length (u8s (frms (l.take (k + 1))))) := by unfold Hid; rw [HTK.out, hL3]; exact ho3.row
      have HB3 : Hid (Below w.heap.size w w3) := (HB.out.trans (hb2.mono HB.out.size)).trans hb3
      clear hown hrun ho3 hb3 ho2 hb2 k0 hL3
      go_wp2_with (at_builtin; refine Lib.wpList_append_run _ rfl _ _ _ _ rfl _ _ rfl rfl _ _ HRUN.out ?_)
      go_roundw
      case rel => exact ⟨k + 1, by go_num, by omega, HO3, HB3⟩
      case measure => simp [intOf]; omega
    · have hki : ¬ ((k : Int) < (n : Int)) := by omega
      obtain rfl : k = n := by omega
      have hall : l.take k = l := by rw [← HL.out.len, List.take_length]
      have hown := HO.out
      rw [hall] at hown
      obtain ⟨A', c', rfl, ho⟩ := Own.of_row hown (u8s_one _)
      have HO2 := Lib.hid ho
      clear hown ho hall
      go_wp2_with fail
      go_ret
      exact ⟨A', c', rfl, HO2.out, HB.out⟩
/-- two lists of records that are the same -/
theorem alike_same (l : List Rec) (n : Nat) (A A2 : Option Addr) (c c2 : Nat) (w : World) (h1 : RdL w w.heap.size A n c l) (h2 : RdL w w.heap.size A2 n c2 l) (hn : n ≤ 1000000) :
    Calls Try.prog 27 #[.slice A n c, .slice A2 n c2] w fun e w' => e = .returned (.bool true) ∧ Below w.heap.size w w' := by
  have H1 := Lib.hid h1
  have H2 := Lib.hid h2
  clear h1 h2
  go_enter Try.func27, Try.ntmps27
  go_wp2_with fail
  go_loopw [13] (fun q wr => ∃ k : Nat, q = .int .i64 k ∧ k ≤ n ∧ Hid (Below w.heap.size w wr)) (fun q _ => n - (intOf q).toNat)
  case atStart => exact ⟨0, rfl, Nat.zero_le _, Below.refl _ _⟩
  case round =>
    obtain ⟨k, rfl, hk, HB⟩ := hrel
    by_cases hlt : k < n
    · have hki : (k : Int) < (n : Int) := by omega
      have hkl : k < l.length := by rw [H1.out.len]; exact hlt
      obtain ⟨b, o, rfl, hb, hc⟩ := H1.out.at_ (by omega)
      obtain ⟨b2, o2, rfl, hb2, hc2⟩ := H2.out.at_ (by omega)
      obtain ⟨A3, c3, k0, hrd⟩ := hc k hkl
      obtain ⟨A4, c4, k1, hrd2⟩ := hc2 k hkl
      have k0 := (HB.out.cell (p := ⟨b, o + k, none⟩) hb).trans k0
      have k1 := (HB.out.cell (p := ⟨b2, o2 + k, none⟩) hb2).trans k1
      have hs1 := fun j => str8 ((hrd.below HB.out).drewN j)
      have hs2 := fun j => str8 ((hrd2.below HB.out).drewN j)
      obtain ⟨tx, htx⟩ : ∃ t, t = strOf l[k] := ⟨_, rfl⟩
      obtain ⟨m, hm⟩ : ∃ m, m = l[k].length := ⟨_, rfl⟩
      rw [← htx, ← hm] at hs1 hs2
      rw [← hm] at k0 k1
      clear htx hm hc hc2 hrd hrd2
      go_wp2_with fail
      go_big_quiet (fail)
      have HBQ : Hid (Below w.heap.size w (wr.drewN nq)) := HB.out.trans ((bel_drewN (Below.refl _ _) _).mono HB.out.size)
      clear hs1 hs2 k0 k1
      go_wp2_with fail
      go_roundw
      case rel => exact ⟨k + 1, by go_num, by omega, HBQ⟩
      case measure => simp [intOf]; omega
    · have hki : ¬ ((k : Int) < (n : Int)) := by omega
      go_wp2_with fail
      go_ret
      exact ⟨rfl, HB.out⟩
/-- two lists of which one is longer -/
theorem alike_len (n n2 : Nat) (A A2 : Option Addr) (c c2 : Nat) (w : World) (h : n ≠ n2) :
    Calls Try.prog 27 #[.slice A n c, .slice A2 n2 c2] w fun e w' => e = .returned (.bool false) ∧ w = w' := by
  have h1 : ((n : Int) != (n2 : Int)) = true := by simp; omega
  go_enter Try.func27, Try.ntmps27
  go_wp2_with fail
  go_ret
  exact ⟨rfl, rfl⟩
end Jrn
end Go.Proofs.Ytcffbgehopjgpaa
