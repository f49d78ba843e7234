/- Proved: the law TapeKeeps answers true for every list of acts, every number, every byte that can be handed in, and leaves its arguments as they were. Conditions: none. -/
import Derived.Test.YtccihdgdhlcghaaLaw
import Derived.Test.YtccihdgdhlcghaaTapeStep
import Derived.Test.YtccihdgdhlcghaaTapeArgs
import Derived.BigQuiet
open Go.ChangeShapes Go.WideShapes Go.ChangeAt Go.RowKit
namespace Go.Proofs.Ytccihdgdhlcghaa
namespace lawTapeKeeps
open Tpe By
set_option maxRecDepth 100000 in
set_option maxHeartbeats 2000000 in
theorem walk_any (l : List Ac) (m : Nat) (Al : Option Addr) (cl : Nat) (ke sp : Int) (w : World) (hl : AcRd w w.heap.size Al m cl l) (hm : m ≤ maxLen) (hke : -9223372036854775808 ≤ ke ∧ ke ≤ 9223372036854775807) (hsp : 0 ≤ sp ∧ sp ≤ 255) :
    Calls Try.prog 4 #[.slice Al m cl, .int .i64 ke, .int .u8 sp] w fun e w' => e = .returned (.bool true) ∧ Below w.heap.size w w' := by
  have HL0 := Lib.hid hl
  have HAm := Lib.hid hm
  clear hl hm
  obtain ⟨spb, rfl⟩ := byte_of hsp
  go_enter Try.func4, Try.ntmps4
  go_wp2_with fail
  refine (awake_any w).mono ?_
  rintro e v1 ⟨rfl, hb⟩
  have HBv1 := Lib.hid hb
  clear hb
  have HA := Lib.hid (HL0.out.below HBv1.out)
  go_wp2_with fail
  refine (few_any l m Al cl w.heap.size v1 HA.out (by have h := HAm.out; simp only [maxLen] at h; omega)).mono ?_
  rintro e v2 ⟨b9, rfl, hfew, rfl⟩
  cases b9 with
  | false =>
    clear hfew
    go_wp2_with fail
    refine (awake_any v1).mono ?_
    rintro e v9 ⟨rfl, hb9⟩
    have HB9 := Lib.hid (HBv1.out.trans (hb9.mono HBv1.out.size))
    clear hb9
    go_wp2_with fail
    go_ret
    exact ⟨rfl, HB9.out⟩
  | true =>
    have HF := Lib.hid (hfew.out rfl)
    clear hfew
    go_wp2_with fail
    refine (new_any 9000 v1 (by omega)).mono ?_
    rintro e v2 ⟨g, rfl, hT, hb⟩
    have HT := Lib.hid hT
    have HB2 : Hid (Below w.heap.size w v2) := HBv1.out.trans (hb.mono HBv1.out.size)
    have hgw : w.heap.size ≤ g := Nat.le_trans HBv1.out.size hT.lo_.1
    clear hT hb
    have hok : Ok (newS 9000) 0 := ⟨by unfold newS; dsimp only; omega, by unfold newS; simp, by unfold newS; simp, by unfold newS; simp⟩
    have HOK := Lib.hid hok
    clear hok
    go_wp2_with fail
    go_loopw [9, 32] (fun v i wr => ∃ (k : Nat) (s : S) (ns : Nat) (As : Option Addr) (c9 : Nat) (ob : Option Nat), v = .slice As ns c9 ∧ i = .int .i64 k ∧ k ≤ m ∧ Hid (ns = s.sf) ∧ Hid (Ok s (300 * k)) ∧ Hid (Tp wr v1.heap.size g ob s) ∧ Hid (Rk wr (fun b => b ≠ g ∧ some b ≠ ob ∧ True) As ns c9 (s.bs.take s.sf)) ∧ Hid (Below w.heap.size w wr)) (fun _ i _ => m - (intOf i).toNat)
    case atStart => exact ⟨0, newS 9000, 0, none, 0, none, rfl, rfl, Nat.zero_le _, rfl, HOK, HT, Rk.nil, HB2⟩
    case round =>
      obtain ⟨k, s, ns, As, c9, ob, rfl, rfl, hk, HNS, HS, HTr, HKr, HBr⟩ := hrel
      by_cases hlt : k < m
      · have hki : (k : Int) < (m : Int) := by omega
        have hm61 := HF.out.1
        obtain ⟨b, o, x, rfl, hbB, hx, hmem, a0, a1, a2, a3⟩ := (HL0.out.below HBr.out).at_ hlt
        have hxe := (HL0.out.below HBr.out).each x hmem
        have hxn : x.n ≤ 300 := HF.out.2 x hmem
        have hs20 : Ok s 20000 := HS.out.mono (by omega)
        obtain ⟨s2, hs2⟩ : ∃ z, z = (act s x.kd x.b x.m x.y).1 := ⟨_, rfl⟩
        obtain ⟨f2, hf2⟩ : ∃ z, z = (act s x.kd x.b x.m x.y).2 := ⟨_, rfl⟩
        have HS2 : Hid (Ok s2 (300 * (k + 1))) := by unfold Hid; rw [hs2]; exact (HS.out.act (by rw [hxe.1.len8']; exact hxn) hxe.2.2.2).mono (by omega)
        have HACT : Hid (∀ (V : World) (A1 : Option Addr) (n1 c1 : Nat) (fb : Bool) (ah : Int), TpAt V v1.heap.size g s A1 n1 c1 fb ah → Below w.heap.size w V → Calls Try.prog 14 #[.pointer (some ⟨g, 0, none⟩), acV x] V fun e w' => e = .returned (.int .i64 f2) ∧ Did V v1.heap.size g (Value.slice A1 n1 c1).ownBlock s2 w') := fun V A1 n1 c1 fb ah ht hV => by
          have h := act_any x ht hs20 (Nat.le_of_lt (Nat.lt_of_le_of_lt ht.lo_.1 ht.lo_.2)) ⟨(((HL0.out.each x hmem).1.below hV).more hV.size), fun hn => by
            obtain ⟨b, o, e, hb, _⟩ := (HL0.out.each x hmem).1.at_ hn
            exact ⟨b, o, e, by omega⟩⟩ hxe.2 hxn
          rw [hs2, hf2]
          exact h
        have HFAIL : Hid (f2 ≠ 0 → s2.sf = s.sf ∧ s2.bs.take s.sf = s.bs.take s.sf) := by unfold Hid; rw [hs2, hf2]; exact act_fail hs20
        have HDONE : Hid (f2 = 0 → s2.lo = false) := by unfold Hid; rw [hs2, hf2]; exact act_code
        clear hs2 hf2 hxe
        obtain ⟨A1, n1, c1, fb1, ah1, hta1, hob1⟩ := HTr.out
        have HCA := Lib.hid (HACT.out wr A1 n1 c1 fb1 ah1 hta1 HBr.out)
        rw [hob1] at HCA
        clear hta1 hob1 HACT
        unfold acV at HCA
        go_wp2_with fail
        refine HCA.out.mono ?_
        rintro e u2 ⟨rfl, ob2, hT2, ht2, hfr2⟩
        have HT2 := Lib.hid hT2
        have HB2 : Hid (Below w.heap.size w u2) := HBr.out.trans (ht2.below hgw (fun j hj => Nat.le_trans HBv1.out.size (HTr.out.obl j hj).1) HBr.out.size)
        have HR2 := Lib.hid (HKr.out.did ht2 hfr2)
        clear hT2 ht2 hfr2 HCA a0 a1 a2 a3
        by_cases hf0 : f2 = 0
        · subst hf0
          have HLO := Lib.hid (HDONE.out rfl)
          obtain ⟨A4, n4, c4, fb4, ah4, hta4, hob4⟩ := HT2.out
          have hn4 : n4 ≤ 20000 := by have h1 := hta4.len; have h2 := HS2.out.len; omega
          have hsf4 : s2.sf ≤ n4 := by have h1 := hta4.len; have h2 := HS2.out.sf; omega
          have HRD := Lib.hid (read_ok hta4 HLO.out hn4)
          have HTA := Lib.hid hta4
          clear hta4 hob4 HDONE HFAIL
          go_wp2_with fail
          refine HRD.out.mono ?_
          rintro e u3 ⟨A5, c5, rfl, ho5, hb5⟩
          have HTA3 := Lib.hid (HTA.out.later hb5)
          have HT3 := Lib.hid (HT2.out.later hb5)
          have HB3 : Hid (Below w.heap.size w u3) := HB2.out.trans (hb5.mono HB2.out.size)
          have HR5 : Hid (Rk u3 (fun b => b ≠ g ∧ some b ≠ ob2 ∧ True) A5 n4 c5 s2.bs) := Rk.of_own ho5 fun b hb => ⟨(HT2.out.free hb).1, (HT2.out.free hb).2, trivial⟩
          obtain ⟨n5, hn5⟩ : ∃ z, z = s2.sf := ⟨_, rfl⟩
          have HSAFE := Lib.hid (safe_any HTA3.out)
          rw [← hn5] at HSAFE hsf4
          have hct := cut_to A5 n4 c5 n5 (by have := HR5.out.rd.cap; omega)
          have hd5 : decide ((n4 : Int) < (n5 : Int)) = false := decide_eq_false (by omega)
          have HN5 := Lib.hid hn5
          clear ho5 hb5 HRD HTA hn5
          go_wp2_with fail
          refine HSAFE.out.mono ?_
          rintro e u9 ⟨rfl, rfl⟩
          go_wp2_with fail
          refine HSAFE.out.mono ?_
          rintro e u9 ⟨rfl, rfl⟩
          go_wp2_with fail
          go_roundw
          case rel => exact ⟨k + 1, s2, n5, A5, c5, ob2, rfl, by go_num, by omega, HN5, HS2, HT3, by unfold Hid; rw [← HN5.out]; exact HR5.out.take hsf4, HB3⟩
          case measure => simp [intOf]; omega
        · have hd2 : (f2 != 0) = true := by simp; exact hf0
          have HSM := Lib.hid (HFAIL.out hf0)
          clear hf0 HFAIL HDONE
          go_wp2_with fail
          go_roundw
          case rel => exact ⟨k + 1, s2, ns, As, c9, ob2, rfl, by go_num, by omega, HNS.out.trans HSM.out.1.symm, HS2, HT2, by unfold Hid; rw [HSM.out.1, HSM.out.2]; exact HR2.out, HB2⟩
          case measure => simp [intOf]; omega
      · have hki : ¬ ((k : Int) < (m : Int)) := by omega
        obtain rfl : k = m := by omega
        have hm61 := HF.out.1
        obtain ⟨A4, n4, c4, fb4, ah4, hta4, hob4⟩ := HTr.out
        have hn4 : n4 ≤ 20000 := by have h1 := hta4.len; have h2 := HS.out.len; omega
        have hsf4 : s.sf ≤ n4 := by have h1 := hta4.len; have h2 := HS.out.sf; omega
        have HTA := Lib.hid hta4
        have HLEN := Lib.hid (len_any hta4)
        have HLOST := Lib.hid (lost_any hta4)
        have HSAFE := Lib.hid (safe_any hta4)
        have HRST := Lib.hid (restart_any ke hta4 hsf4 hn4 hke spb)
        rw [← HNS.out] at HSAFE hsf4
        rw [hob4] at HRST
        clear hta4 hob4
        go_wp2_with fail
        refine HLEN.out.mono ?_
        rintro e u9 ⟨rfl, rfl⟩
        go_wp2_with fail
        refine HLOST.out.mono ?_
        rintro e u9 ⟨rfl, rfl⟩
        have hz : ∃ z : Bool, z = s.lo := ⟨_, rfl⟩
        obtain ⟨z, hz⟩ := hz
        rw [← hz]
        have HZ := Lib.hid hz
        clear hz
        cases z
        · go_wp2_with fail
          refine HSAFE.out.mono ?_
          rintro e u9 ⟨rfl, rfl⟩
          go_wp2_with fail
          refine HRST.out.mono ?_
          rintro e u2 ⟨rfl, ob2, hT2, ht2, hfr2⟩
          have HR2 := Lib.hid (HKr.out.did ht2 hfr2)
          have HB2 : Hid (Below w.heap.size w u2) := HBr.out.trans (ht2.below hgw (fun j hj => Nat.le_trans HBv1.out.size (HTr.out.obl j hj).1) HBr.out.size)
          obtain ⟨A6, n6, c6, fb6, ah6, hta6, hob6⟩ := hT2
          have hst := stay_le s ke
          have hlen6 : (left s ke spb).length = n6 := hta6.len
          have hll := left_len (y := spb) HS.out.sf ke
          have hn6 : n6 = s.sf + stay s ke := by omega
          have hle6 : ns ≤ n6 := by have := HNS.out; omega
          have hle4 : n6 ≤ n4 := by have := HTA.out.len; have := HS.out.sf; omega
          have HRD := Lib.hid (read_ok hta6 rfl (by omega))
          have HTA6 := Lib.hid hta6
          have HN6 := Lib.hid hn6
          clear hta6 hob6 ht2 hfr2 hst hlen6 hll hn6
          go_wp2_with fail
          refine HRD.out.mono ?_
          rintro e u3 ⟨A7, c7, rfl, ho7, hb7⟩
          have HTA7 := Lib.hid (HTA6.out.later hb7)
          have HB3 : Hid (Below w.heap.size w u3) := HB2.out.trans (hb7.mono HB2.out.size)
          have HR3 := Lib.hid (HR2.out.later hb7)
          have HO7 := Lib.hid ho7.rd
          have hct := cut_to A7 n6 c7 ns (by have := HO7.out.cap; omega)
          have hsafe : (left s ke spb).take ns = s.bs.take s.sf := by rw [HNS.out]; exact left_safe HS.out.sf ke spb
          have HC1 : Hid (∀ n, (convert 29 9 (.slice A7 ns c7)).run Try.prog (u3.drewN n) = .ok (.string (strOf (s.bs.take s.sf))) (u3.drewN n)) := fun n => by rw [← hsafe]; exact str8 (take8 (HO7.out.drewN n) hle6)
          have HC2 : Hid (∀ n, (convert 29 9 (.slice As ns c9)).run Try.prog (u3.drewN n) = .ok (.string (strOf (s.bs.take s.sf))) (u3.drewN n)) := fun n => str8 (HR3.out.rd.drewN n)
          have hc1 := HC1.out
          have hc2 := HC2.out
          obtain ⟨tx, htx⟩ : ∃ tx, tx = strOf (s.bs.take s.sf) := ⟨_, rfl⟩
          rw [← htx] at hc1 hc2
          have HSF : Hid (∀ k, Calls Try.prog 16 #[.pointer (some ⟨g, 0, none⟩)] (u3.drewN k) fun e w' => e = .returned (.int .i64 n6) ∧ w' = u3.drewN k) := fun k => by rw [HN6.out]; exact (safe_any (HTA7.out.drewN k)).mono fun _ _ h => ⟨h.1, h.2.symm⟩
          have HLN : Hid (∀ k, Calls Try.prog 17 #[.pointer (some ⟨g, 0, none⟩)] (u3.drewN k) fun e w' => e = .returned (.int .i64 n6) ∧ w' = u3.drewN k) := fun k => (len_any (HTA7.out.drewN k)).mono fun _ _ h => ⟨h.1, h.2.symm⟩
          have HLS : Hid (∀ k, Calls Try.prog 18 #[.pointer (some ⟨g, 0, none⟩)] (u3.drewN k) fun e w' => e = .returned (.bool false) ∧ w' = u3.drewN k) := fun k => (lost_any (HTA7.out.drewN k)).mono fun _ _ h => ⟨h.1, h.2.symm⟩
          have d1 : decide ((ns : Int) ≤ (n6 : Int)) = true := decide_eq_true (by omega)
          have d2 : decide (ns ≤ n6) = true := decide_eq_true hle6
          have d3 : decide ((n6 : Int) ≤ (n4 : Int)) = true := decide_eq_true (by omega)
          have d4 : decide (n6 ≤ n4) = true := decide_eq_true hle4
          clear ho7 hb7 hsafe htx HRD HRST HLEN HLOST HSAFE
          go_wp2_with fail
          go_big_quiet (first | (go_at_call 16; exact Calls.quiet_of_same (HSF.out _)) | (go_at_call 17; exact Calls.quiet_of_same (HLN.out _)) | (go_at_call 18; exact Calls.quiet_of_same (HLS.out _)))
          go_wp2_with fail
          go_ret
          exact ⟨by first | rfl | simp, HB3.out.trans (bel_drewN (Below.refl _ _) _)⟩
        · go_wp2_with fail
          refine HRST.out.mono ?_
          rintro e u2 ⟨rfl, ob2, hT2, ht2, hfr2⟩
          have HR2 := Lib.hid (HKr.out.did ht2 hfr2)
          have HB2 : Hid (Below w.heap.size w u2) := HBr.out.trans (ht2.below hgw (fun j hj => Nat.le_trans HBv1.out.size (HTr.out.obl j hj).1) HBr.out.size)
          obtain ⟨A6, n6, c6, fb6, ah6, hta6, hob6⟩ := hT2
          have hst := stay_le s ke
          have hlen6 : (left s ke spb).length = n6 := hta6.len
          have hll := left_len (y := spb) HS.out.sf ke
          have hn6 : n6 = s.sf + stay s ke := by omega
          have hle6 : ns ≤ n6 := by have := HNS.out; omega
          have hle4 : n6 ≤ n4 := by have := HTA.out.len; have := HS.out.sf; omega
          have HRD := Lib.hid (read_ok hta6 rfl (by omega))
          have HTA6 := Lib.hid hta6
          have HN6 := Lib.hid hn6
          clear hta6 hob6 ht2 hfr2 hst hlen6 hll hn6
          go_wp2_with fail
          refine HRD.out.mono ?_
          rintro e u3 ⟨A7, c7, rfl, ho7, hb7⟩
          have HTA7 := Lib.hid (HTA6.out.later hb7)
          have HB3 : Hid (Below w.heap.size w u3) := HB2.out.trans (hb7.mono HB2.out.size)
          have HR3 := Lib.hid (HR2.out.later hb7)
          have HO7 := Lib.hid ho7.rd
          have hct := cut_to A7 n6 c7 ns (by have := HO7.out.cap; omega)
          have hsafe : (left s ke spb).take ns = s.bs.take s.sf := by rw [HNS.out]; exact left_safe HS.out.sf ke spb
          have HC1 : Hid (∀ n, (convert 29 9 (.slice A7 ns c7)).run Try.prog (u3.drewN n) = .ok (.string (strOf (s.bs.take s.sf))) (u3.drewN n)) := fun n => by rw [← hsafe]; exact str8 (take8 (HO7.out.drewN n) hle6)
          have HC2 : Hid (∀ n, (convert 29 9 (.slice As ns c9)).run Try.prog (u3.drewN n) = .ok (.string (strOf (s.bs.take s.sf))) (u3.drewN n)) := fun n => str8 (HR3.out.rd.drewN n)
          have hc1 := HC1.out
          have hc2 := HC2.out
          obtain ⟨tx, htx⟩ : ∃ tx, tx = strOf (s.bs.take s.sf) := ⟨_, rfl⟩
          rw [← htx] at hc1 hc2
          have HSF : Hid (∀ k, Calls Try.prog 16 #[.pointer (some ⟨g, 0, none⟩)] (u3.drewN k) fun e w' => e = .returned (.int .i64 n6) ∧ w' = u3.drewN k) := fun k => by rw [HN6.out]; exact (safe_any (HTA7.out.drewN k)).mono fun _ _ h => ⟨h.1, h.2.symm⟩
          have HLN : Hid (∀ k, Calls Try.prog 17 #[.pointer (some ⟨g, 0, none⟩)] (u3.drewN k) fun e w' => e = .returned (.int .i64 n6) ∧ w' = u3.drewN k) := fun k => (len_any (HTA7.out.drewN k)).mono fun _ _ h => ⟨h.1, h.2.symm⟩
          have HLS : Hid (∀ k, Calls Try.prog 18 #[.pointer (some ⟨g, 0, none⟩)] (u3.drewN k) fun e w' => e = .returned (.bool false) ∧ w' = u3.drewN k) := fun k => (lost_any (HTA7.out.drewN k)).mono fun _ _ h => ⟨h.1, h.2.symm⟩
          have d1 : decide ((ns : Int) ≤ (n6 : Int)) = true := decide_eq_true (by omega)
          have d2 : decide (ns ≤ n6) = true := decide_eq_true hle6
          have d3 : decide ((n6 : Int) ≤ (n4 : Int)) = true := decide_eq_true (by omega)
          have d4 : decide (n6 ≤ n4) = true := decide_eq_true hle4
          clear ho7 hb7 hsafe htx HRD HRST HLEN HLOST HSAFE
          go_wp2_with fail
          go_big_quiet (first | (go_at_call 16; exact Calls.quiet_of_same (HSF.out _)) | (go_at_call 17; exact Calls.quiet_of_same (HLN.out _)) | (go_at_call 18; exact Calls.quiet_of_same (HLS.out _)))
          go_wp2_with fail
          go_ret
          exact ⟨by first | rfl | simp, HB3.out.trans (bel_drewN (Below.refl _ _) _)⟩
set_option maxRecDepth 100000 in
theorem lifted (os : Os) (started : os.Started) (H : Type) (enc : TypeId × Value → H) :
    ReturnsInHanded {} Try.checked os 4 .any (Rows.tapeKeepsSpec.pre6 enc Try.prog Try.f4 Rows.tapeKeepsRow.domain false) (Rows.tapeKeepsSpec.post enc Try.prog Try.f4 false true false false) := by
  refine returnsInHanded_of_change (C := Try.checked) own started (by kernel_rfl) Try.func4
    (ChangeSpec.witness6 (enc := enc) (C := Try.checked) false ⟨#[], #[.slice none 0 0, .int .i64 0, .int .u8 0], []⟩ 8 (by kernel_rfl) (by kernel_rfl) (by kernel_rfl) (by kernel_rfl)) ?_
  intro W base args ds gs before hval0 hW _ _
  have hval : ∀ (j : Nat) t v, Try.f4.params[j]? = some t → args[j]? = some v → Value.okWide Try.prog W .any base t v := hval0
  have hW' := hW
  obtain ⟨p, q, hA0, hV, rfl, hfz, hnd⟩ := hW
  have hA : DataW.TrodAll enc Try.prog W 0 (fun _ => true) true Try.f4.params.toList args.toList ds p := hA0
  rw [Try.params4] at hA hval
  obtain ⟨v0, v1, v2, d0, d1, d2, p0, p1, p2, rfl, rfl, rfl, h0, h1, h2⟩ := trodAll_three hA
  obtain ⟨rfl, rfl⟩ := trodVars_none hV
  obtain ⟨a0, len0, cap0, rfl⟩ := okWide_slice Try.underlying22 (hval 0 22 v0 rfl rfl)
  obtain ⟨fuel0, hf0⟩ := h0
  obtain ⟨l0, hl0, hm0⟩ := Tpe.acts_of_trod hf0
  obtain ⟨x1, rfl, rfl, rfl, w1⟩ := open_int Try.underlying3 (hval 1 3 v1 rfl rfl) h1
  obtain ⟨x2, rfl, rfl, rfl, w2⟩ := open_int Try.underlying5 (hval 2 5 v2 rfl rfl) h2
  refine (walk_any l0 len0 a0 cap0 x1 x2 W hl0 hm0 (By.wf_i64 w1) (By.wf_u8 w2)).mono fun e W' ⟨he, hb⟩ => ?_
  subst he
  exact ⟨_, rfl, law_post hW' (by kernel_rfl) rfl rfl rfl hb⟩
theorem proved : Rows.TapeKeepsSaid :=
  OpenClaim.holds_of_wide 4 Try.f4 rfl rfl rfl rfl rfl rfl rfl ⟨rfl, rfl, rfl, rfl, rfl⟩ rfl rfl rfl rfl rfl (by kernel_rfl) Try.func4 (by kernel_rfl)
    (of_decide_eq_true (by kernel_rfl)) (by unfold Func.isWrapper; first | (rw [if_pos (by decide +kernel)]; kernel_rfl) | (rw [if_neg (by decide +kernel)]; exact ⟨rfl, rfl⟩))
    (fun os started H enc _ => lifted os started H enc)
#print axioms proved
end lawTapeKeeps
end Go.Proofs.Ytccihdgdhlcghaa
