/- Layer 18: a tape is as the document says ('on'). -/
import Derived.Test.YtcffbgehopjgpaaTapeRef
import Derived.Test.YtcffbgehopjgpaaTape3
import Derived.BigQuiet
namespace Go.Proofs.Ytcffbgehopjgpaa
open Go.ChangeShapes Go.WideShapes Go.ChangeAt Go.RowKit
namespace Tpe
open By
set_option maxRecDepth 100000
set_option maxHeartbeats 2000000
/-- a tape is as the document says -/
theorem on_any {w : World} {lo g n c n2 c2 : Nat} {s : S} {A A2 : Option Addr} {fb : Bool} {ah : Int} (h : TpAt w lo g s A n c fb ah) (hs : Ok s 70000) (hl2 : s.bs.length = n2) (hr : Rd w w.heap.size 1 A2 n2 c2 (u8s s.bs)) :
    Calls Try.prog 21 #[.pointer (some ⟨g, 0, none⟩), docV s A2 n2 c2] w fun e w' => e = .returned (.bool true) ∧ Below w.heap.size w w' := by
  obtain ⟨V, hV⟩ : ∃ V, V = w.alloc (.cells #[.int .i64 s.cap, .slice A2 n2 c2, .int .i64 s.sf, .int .i64 s.fu, .bool s.lo] 33) := ⟨_, rfl⟩
  obtain ⟨q, hq⟩ : ∃ q, q = w.heap.size := ⟨_, rfl⟩
  have hbV : Below w.heap.size w V := by rw [hV]; exact (Below.refl _ _).alloc (Nat.le_refl _) _
  have z1 : V.cell? ⟨q, 1, none⟩ = some (.slice A2 n2 c2) := by rw [hV, hq]; go_simp
  have z2 : V.cell? ⟨q, 2, none⟩ = some (.int .i64 s.sf) := by rw [hV, hq]; go_simp
  have z4 : V.cell? ⟨q, 4, none⟩ = some (.bool s.lo) := by rw [hV, hq]; go_simp
  have hqV : q < V.heap.size := by rw [hV, hq]; simp
  obtain rfl : n2 = n := by rw [← hl2]; exact h.len
  have hn : n2 ≤ 70000 := by have := hs.len; omega
  have HT := Lib.hid (h.later hbV)
  have HR := Lib.hid (hr.later hbV)
  have HB := Lib.hid hbV
  have HV := Lib.hid hV
  have HQ := Lib.hid hq
  clear h hr hbV hV hq hs hl2
  unfold docV
  rcases (show s.lo = true ∨ s.lo = false by cases s.lo <;> simp) with hlo | hlo
  · rw [hlo] at z4
    have HLO := Lib.hid hlo
    have HS : Hid (∀ k, Calls Try.prog 28 #[.pointer (some ⟨g, 0, none⟩)] (V.drewN k) fun e w' => e = .returned (.int .i64 s.sf) ∧ w' = V.drewN k) := fun k => (safe_any (HT.out.drewN k)).mono fun _ _ h => ⟨h.1, h.2.symm⟩
    have HN : Hid (∀ k, Calls Try.prog 24 #[.pointer (some ⟨g, 0, none⟩)] (V.drewN k) fun e w' => e = .returned (.int .i64 n2) ∧ w' = V.drewN k) := fun k => (len_any (HT.out.drewN k)).mono fun _ _ h => ⟨h.1, h.2.symm⟩
    have HO : Hid (∀ k, Calls Try.prog 39 #[.pointer (some ⟨g, 0, none⟩)] (V.drewN k) fun e w' => e = .returned (.bool true) ∧ w' = V.drewN k) := fun k => by rw [← HLO.out]; exact (lost_any (HT.out.drewN k)).mono fun _ _ h => ⟨h.1, h.2.symm⟩
    rw [hlo] at HV ⊢
    clear hlo
    go_enter Try.func21, Try.ntmps21
    go_wp2_with fail
    rw [← HV.out]
    try rw [← HQ.out]
    refine (read_lost HT.out HLO.out).mono ?_
    rintro e v1 ⟨rfl, rfl⟩
    go_wp2_with fail
    go_big_quiet (first | (go_at_call 28; exact Calls.quiet_of_same (HS.out _)) | (go_at_call 24; exact Calls.quiet_of_same (HN.out _)) | (go_at_call 39; exact Calls.quiet_of_same (HO.out _)))
    go_wp2_with fail
    go_ret
    exact ⟨rfl, HB.out.trans (bel_drewN (Below.refl _ _) _)⟩
  · rw [hlo] at z4
    have HLO := Lib.hid hlo
    have HRD := Lib.hid (read_ok HT.out hlo hn)
    rw [hlo] at HV ⊢
    clear hlo
    go_enter Try.func21, Try.ntmps21
    go_wp2_with fail
    rw [← HV.out]
    try rw [← HQ.out]
    refine HRD.out.mono ?_
    rintro e v1 ⟨A1, c1, rfl, ho, hb1⟩
    have y1 := (hb1.cell (p := ⟨q, 1, none⟩) hqV).trans z1
    have y2 := (hb1.cell (p := ⟨q, 2, none⟩) hqV).trans z2
    have y4 := (hb1.cell (p := ⟨q, 4, none⟩) hqV).trans z4
    have HT1 := Lib.hid (HT.out.later hb1)
    have HR1 := Lib.hid (HR.out.later hb1)
    have HO1 := Lib.hid ho.rd
    have HB1 := Lib.hid (HB.out.trans (hb1.mono HB.out.size))
    have HS : Hid (∀ k, Calls Try.prog 28 #[.pointer (some ⟨g, 0, none⟩)] (v1.drewN k) fun e w' => e = .returned (.int .i64 s.sf) ∧ w' = v1.drewN k) := fun k => (safe_any (HT1.out.drewN k)).mono fun _ _ h => ⟨h.1, h.2.symm⟩
    have HN : Hid (∀ k, Calls Try.prog 24 #[.pointer (some ⟨g, 0, none⟩)] (v1.drewN k) fun e w' => e = .returned (.int .i64 n2) ∧ w' = v1.drewN k) := fun k => (len_any (HT1.out.drewN k)).mono fun _ _ h => ⟨h.1, h.2.symm⟩
    have HO : Hid (∀ k, Calls Try.prog 39 #[.pointer (some ⟨g, 0, none⟩)] (v1.drewN k) fun e w' => e = .returned (.bool false) ∧ w' = v1.drewN k) := fun k => by rw [← HLO.out]; exact (lost_any (HT1.out.drewN k)).mono fun _ _ h => ⟨h.1, h.2.symm⟩
    clear ho hb1 z1 z2 z4
    go_wp2_with fail
    have hs1 := fun j => str8 (HO1.out.drewN j)
    have hs2 := fun j => str8 (HR1.out.drewN j)
    obtain ⟨tx, htx⟩ : ∃ t, t = strOf s.bs := ⟨_, rfl⟩
    rw [← htx] at hs1 hs2
    clear htx
    go_big_quiet (first | (go_at_call 28; exact Calls.quiet_of_same (HS.out _)) | (go_at_call 24; exact Calls.quiet_of_same (HN.out _)) | (go_at_call 39; exact Calls.quiet_of_same (HO.out _)))
    go_wp2_with fail
    go_ret
    exact ⟨by first | rfl | simp, HB1.out.trans (bel_drewN (Below.refl _ _) _)⟩
end Tpe
end Go.Proofs.Ytcffbgehopjgpaa
