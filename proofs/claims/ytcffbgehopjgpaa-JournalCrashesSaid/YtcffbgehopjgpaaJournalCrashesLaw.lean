/- Proved: the law JournalCrashes answers true for all bytes, all lists of bytes, every byte, every number that can be handed in, and leaves its arguments as they were. Conditions: none. -/
import Derived.Test.YtcffbgehopjgpaaJournalMid
open Go.ChangeShapes Go.WideShapes Go.ChangeAt Go.RowKit
namespace Go.Proofs.Ytcffbgehopjgpaa
namespace lawJournalCrashes
open Jrn Tpe Frm By
set_option maxRecDepth 100000 in
set_option maxHeartbeats 4000000 in
theorem walk_any (b0 : Rec) (Ab : Option Addr) (cb : Nat) (l : List Rec) (Al : Option Addr) (cl : Nat) (fz kp sp : Int) (w : World) (hb : Rd w w.heap.size 1 Ab b0.length cb (u8s b0)) (hl : RdL w w.heap.size Al l.length cl l) (hfz : 0 ≤ fz ∧ fz ≤ 255) (hkp : -9223372036854775808 ≤ kp ∧ kp ≤ 9223372036854775807) (hsp : 0 ≤ sp ∧ sp ≤ 255) :
    Calls Try.prog 5 #[.slice Ab b0.length cb, .slice Al l.length cl, .int .u8 fz, .int .i64 kp, .int .u8 sp] w fun e w' => e = .returned (.bool true) ∧ Below w.heap.size w w' := by
  obtain ⟨y, rfl⟩ : ∃ y : UInt8, sp = (y.toNat : Int) := ⟨UInt8.ofNat sp.toNat, by rw [UInt8.toNat_ofNat']; omega⟩
  obtain ⟨f, rfl⟩ := Int.eq_ofNat_of_zero_le hfz.1
  obtain ⟨nb, hnb⟩ : ∃ z, z = b0.length := ⟨_, rfl⟩
  obtain ⟨m, hm⟩ : ∃ z, z = l.length := ⟨_, rfl⟩
  rw [← hnb] at hb ⊢
  rw [← hm] at hl ⊢
  have HB := Lib.hid hb
  have HR := Lib.hid hl
  have HNB := Lib.hid hnb
  clear hb hl hnb hm
  go_enter Try.func5, Try.ntmps5
  go_wp2_with fail
  refine (awake_any w).mono ?_
  rintro e v1 ⟨rfl, hb⟩
  have HB1 := Lib.hid hb
  clear hb
  by_cases hm : 30 < m
  · have f1 : decide ((30 : Int) < (m : Int)) = true := decide_eq_true (by omega)
    have f2 : decide (30 < m) = true := decide_eq_true hm
    go_wp2_with fail
    refine (awake_any v1).mono ?_
    rintro e v9 ⟨rfl, hb9⟩
    have HB9 := Lib.hid (HB1.out.trans (hb9.mono HB1.out.size))
    clear hb9
    go_wp2_with fail
    go_ret
    exact ⟨rfl, HB9.out⟩
  · have fm : decide ((30 : Int) < (m : Int)) = false := decide_eq_false (by omega)
    have gm : decide (30 < m) = false := decide_eq_false hm
    by_cases hn : 300 < nb
    · have f1 : decide ((300 : Int) < (nb : Int)) = true := decide_eq_true (by omega)
      have f2 : decide (300 < nb) = true := decide_eq_true hn
      go_wp2_with fail
      refine (awake_any v1).mono ?_
      rintro e v9 ⟨rfl, hb9⟩
      have HB9 := Lib.hid (HB1.out.trans (hb9.mono HB1.out.size))
      clear hb9
      go_wp2_with fail
      go_ret
      exact ⟨rfl, HB9.out⟩
    · have fn : decide ((300 : Int) < (nb : Int)) = false := decide_eq_false (by omega)
      have gn : decide (300 < nb) = false := decide_eq_false hn
      have HRB1 := Lib.hid (HB.out.later HB1.out)
      go_wp2_with fail
      refine (open_any 1048576 b0 nb Ab cb v1 (by omega) HRB1.out (by omega) (by omega)).mono ?_
      rintro e v2 ⟨p, g, ob0, rfl, hN⟩
      have HN0 := Lib.hid hN
      clear hN fm gm fn gn
      obtain ⟨A4, n4, c4, fb4, ah4, hta4, hob4⟩ := HN0.out.tp
      have HFU := Lib.hid (fuse_any (f : Int) hta4 (by omega))
      rw [arm_fit (by omega), hob4] at HFU
      clear hta4 hob4
      go_wp2_with fail
      refine HFU.out.mono ?_
      rintro e v3 ⟨rfl, hd⟩
      obtain ⟨ob1, hN1⟩ := HN0.out.didT hd
      have HN1 := Lib.hid hN1
      clear hd hN1 HFU HN0
      go_wp2_with fail
      go_loopw [14, 51] (fun v i wr => ∃ (k : Nat) (ob : Option Nat), v = .int .i64 k ∧ i = .int .i64 k ∧ k ≤ m ∧ 2 * k ≤ f ∧ Hid (∀ a ∈ l.take k, a.length ≤ 300) ∧ Hid (NewJ v1 wr p g ob (fit 1048576 (b0 :: l.take k) ((f : Int) - 2 * (k : Int))) k)) (fun _ i _ => m - (intOf i).toNat)
      case atStart => exact ⟨0, ob1, rfl, rfl, Nat.zero_le _, Nat.zero_le _, (fun a ha => by simp at ha), by have h := HN1.out; unfold Hid; simpa using h⟩
      case round =>
        obtain ⟨k, ob, rfl, rfl, hk, hkf, HL, HNr⟩ := hrel
        have HBr : Hid (Below w.heap.size w wr) := HB1.out.trans (HNr.out.below.mono HB1.out.size)
        have hnb3 : b0.length ≤ 300 := by rw [← HNB.out]; omega
        have HFL := Lib.hid (fit_len hnb3 HL.out (by omega))
        by_cases hlt : k < m
        · have hki : (k : Int) < (m : Int) := by omega
          have hkl : k < l.length := by rw [HR.out.len]; exact hlt
          obtain ⟨b, o, rfl, hbB, hc⟩ := HR.out.at_ (by omega)
          obtain ⟨A3, c3, k0, hrd3⟩ := hc k hkl
          have k0 := (HBr.out.cell (p := ⟨b, o + k, none⟩) hbB).trans k0
          have hrd3 := (hrd3.below HBr.out).more HBr.out.size
          obtain ⟨x, hx⟩ : ∃ x, x = l[k] := ⟨_, rfl⟩
          rw [← hx] at k0 hrd3
          obtain ⟨r, hr⟩ : ∃ r, r = x.length := ⟨_, rfl⟩
          rw [← hr] at k0 hrd3
          have HX0 := Lib.hid hx
          have HRX := Lib.hid hr
          have HRD3 := Lib.hid hrd3
          have HTM : Hid (b0 :: l.take (k + 1) = (b0 :: l.take k) ++ [x]) := by unfold Hid; rw [hx]; exact take_more hkl
          clear hc hrd3 hx hr
          by_cases h300 : 300 < r
          · have f1 : decide ((300 : Int) < (r : Int)) = true := decide_eq_true (by omega)
            have f2 : decide (300 < r) = true := decide_eq_true h300
            go_wp2_with fail
            go_ret
            exact ⟨rfl, HBr.out⟩
          · have f1 : decide ((300 : Int) < (r : Int)) = false := decide_eq_false (by omega)
            have f2 : decide (300 < r) = false := decide_eq_false h300
            have hxl : x.length ≤ 300 := by rw [← HRX.out]; omega
            obtain ⟨v, hv⟩ : ∃ v, v = (f : Int) - 2 * (k : Int) := ⟨_, rfl⟩
            rw [← hv] at HNr
            have HWR := Lib.hid (write_any (N := k) HNr.out.tp HNr.out.below.size (by unfold fit; dsimp only; omega) (by unfold fit; dsimp only; omega) (by unfold fit; have := HFL.out; dsimp only; omega) HNr.out.jn HNr.out.ne HNr.out.neo HRD3.out (by omega) (by omega))
            by_cases h2 : 2 ≤ v
            · have hwr := wrt_ok (cap := 1048576) (r := b0 :: l.take k) (b := x) (v := v) (by have := HFL.out; omega) (by omega) (.inl h2)
              rw [less_two h2, ← HTM.out] at hwr
              rw [hwr] at HWR
              have HV : Hid (v - 2 = (f : Int) - 2 * ((k + 1 : Nat) : Int)) := by unfold Hid; omega
              have HL2 : Hid (∀ a ∈ l.take (k + 1), a.length ≤ 300) := fun a ha => by
                have h := congrArg (fun z => a ∈ z) HTM.out
                have h9 : a ∈ (b0 :: l.take k) ++ [x] := by rw [← HTM.out]; exact List.mem_cons_of_mem _ ha
                rcases List.mem_append.1 h9 with h9 | h9
                · rcases List.mem_cons.1 h9 with rfl | h9
                  · exact hnb3
                  · exact HL.out a h9
                · simp only [List.mem_cons, List.not_mem_nil, or_false] at h9
                  rw [h9]; exact hxl
              clear hwr hv
              go_wp2_with fail
              refine HWR.out.mono ?_
              rintro e u1 ⟨rfl, hd⟩
              obtain ⟨ob2, hN2⟩ := HNr.out.did hd
              have HN2 : Hid (NewJ v1 u1 p g ob2 (fit 1048576 (b0 :: l.take (k + 1)) ((f : Int) - 2 * ((k + 1 : Nat) : Int))) ((k + 1 : Nat) : Int)) := by
                unfold Hid
                rw [← HV.out]
                exact hN2
              clear hd hN2 HWR k0
              go_wp2_with fail
              go_roundw
              case rel => exact ⟨k + 1, ob2, by go_num, by go_num, by omega, by have := HV.out; omega, HL2, HN2⟩
              case measure => simp [intOf]; omega
            · have hv01 : v = 0 ∨ v = 1 := by omega
              have hwr := wrt_gone (cap := 1048576) (r := b0 :: l.take k) (b := x) (v := v) (by have := HFL.out; omega) (by omega) hv01
              rw [hwr] at HWR
              have HMIN : Hid (k = min m (f / 2)) := by unfold Hid; omega
              have hlr : ∀ a ∈ b0 :: l.take k, a.length ≤ 60000 := fun a ha => by
                rcases List.mem_cons.1 ha with rfl | ha
                · omega
                · have := HL.out a ha; omega
              obtain ⟨s9, hs9⟩ : ∃ s, s = gone 1048576 (b0 :: l.take k) x := ⟨_, rfl⟩
              have HX : Hid (∃ l' n', Scans (left s9 kp y) l' n' ∧ (l' = b0 :: l.take k ∨ (k < m ∧ l' = b0 :: l.take (k + 1)))) := by
                obtain ⟨l', n', h1, h2⟩ := scans_crash (s := s9) hlr (show x.length ≤ 60000 by omega) (by rw [hs9]; rfl) (by rw [hs9]; rfl) kp y
                refine ⟨l', n', h1, ?_⟩
                rcases h2 with h2 | h2
                · exact .inl h2
                · exact .inr ⟨hlt, by rw [h2, HTM.out]⟩
              have HSF : Hid (s9.sf ≤ s9.bs.length) := by unfold Hid; rw [hs9]; unfold gone; simp
              have HLN : Hid (s9.bs.length ≤ 20000) := by unfold Hid; rw [hs9]; unfold gone; have := HFL.out; simp only [List.length_append, frm_len]; omega
              have HCP : Hid (s9.cap = 1048576) := by unfold Hid; rw [hs9]; rfl
              rw [← hs9] at HWR
              clear hwr hv hs9 hlr
              go_wp2_with fail
              refine HWR.out.mono ?_
              rintro e u1 ⟨rfl, hd⟩
              obtain ⟨ob2, hN2⟩ := HNr.out.did hd
              have HN := Lib.hid hN2
              clear hd hN2 HWR k0 f1 f2
              have hmin : min (m : Int) ((f / 2 : Nat) : Int) = (k : Int) := by have := HMIN.out; omega
              have hmin2 : min (m : Int) ((f : Int) / 2) = (k : Int) := by have := HMIN.out; omega
              have hmin3 : min (m : Int) ((f : Int).tdiv 2) = (k : Int) := by rw [Int.tdiv_eq_ediv_of_nonneg (by omega)]; exact hmin2
              obtain ⟨A4, n4, c4, fb4, ah4, hta4, hob4⟩ := HN.out.tp
              have HRST := Lib.hid (restart_any kp hta4 (by have h1 := hta4.len; have h2 := HSF.out; omega) (by have h1 := hta4.len; have h2 := HLN.out; omega) hkp y)
              rw [hob4] at HRST
              clear hta4 hob4
              go_wp2_with fail
              refine HRST.out.mono ?_
              rintro e u2 ⟨rfl, hd2⟩
              have HBu : Hid (Below w.heap.size w u2) := by
                obtain ⟨_, _, ht, _⟩ := hd2
                exact HB1.out.trans ((HN.out.below.trans (ht.below HN.out.tp.lo_.1 (fun b hb => (HN.out.tp.obl b hb).1) HN.out.below.size)).mono HB1.out.size)
              obtain ⟨ob2, hT2, _, _⟩ := hd2
              have HT2 := Lib.hid hT2
              have HLO : Hid (v1.heap.size ≤ u2.heap.size) := Nat.le_of_lt (Nat.lt_of_le_of_lt hT2.lo_.1 hT2.lo_.2)
              clear hT2 HRST
              clear hmin hmin2 hmin3
              have kc := fun (w : World) (C : Array Value) (n c : Nat) => Lib.run_convert_bytes_const (P := Try.prog) w 23 5 C n c Try.underlying23 Try.underlying5
              obtain ⟨V, hV⟩ : ∃ V, V = u2.alloc (.cells #[.int .u8 111, .int .u8 116, .int .u8 104, .int .u8 101, .int .u8 114] 5 (5, 6)) := ⟨_, rfl⟩
              obtain ⟨q, hq⟩ : ∃ q, q = u2.heap.size := ⟨_, rfl⟩
              have hbV : Below u2.heap.size u2 V := by rw [hV]; exact (Below.refl _ _).alloc (Nat.le_refl _) _
              have hrd : Rd V V.heap.size 1 (some ⟨q, 0, none⟩) 5 5 (u8s [111, 116, 104, 101, 114]) := by
                rw [hV, hq]
                exact rd_mark u2 #[.int .u8 111, .int .u8 116, .int .u8 104, .int .u8 101, .int .u8 114] _ _ 5 rfl (by simp [Value.oneCell'])
              obtain ⟨l9, n9, hsc, hl9⟩ := HX.out
              have hne : l9 ≠ [] := by rcases hl9 with rfl | ⟨_, rfl⟩ <;> simp
              have hk9 : kept l9 [111, 116, 104, 101, 114] = l9 := by unfold kept; rw [if_neg hne]
              obtain ⟨s8, hs8⟩ := opn_rst (s := s9) (base := [111, 116, 104, 101, 114]) (l := l9) (n := n9) (k := kp) (y := y) (by simp) hne (by
                have h1 := hsc.eq
                have h2 := congrArg List.length h1
                rw [List.length_take, left_len HSF.out] at h2
                have h3 := stay_le s9 kp
                have h4 := HCP.out
                have h5 := HSF.out
                have h6 := HLN.out
                omega)
              have HP := Lib.hid (popen_any (HT2.out.later hbV) (Nat.le_trans HLO.out hbV.size) (by unfold rst; dsimp only; rw [HCP.out]; omega) (by unfold rst; dsimp only; omega) rfl (by
                unfold rst; dsimp only; rw [left_len HSF.out]
                have h3 := stay_le s9 kp
                have h5 := HSF.out
                have h6 := HLN.out
                omega) hrd (by omega) hsc s8 0 hs8)
              rw [hk9] at HP
              have HBV : Hid (Below w.heap.size w V) := HBu.out.trans (hbV.mono HBu.out.size)
              have HV := Lib.hid hV
              have HQ := Lib.hid hq
              have hgl := (HT2.out.later hbV).lo_.1
              have hol := (HT2.out.later hbV).obl
              clear hbV hrd hV hq hk9 hs8 hsc hne
              go_wp2_with fail
              rw [← HV.out]
              try rw [← HQ.out]
              refine HP.out.mono ?_
              rintro e v3 ⟨-, h0⟩
              obtain ⟨p3, x, r, A1, A2, n1, n2, c1, c2, ob3, hl, rfl, h⟩ := h0 rfl
              clear h0
              have HB3 : Hid (Below w.heap.size w v3) := HBV.out.trans ((h.two.below (B := v1.heap.size) hgl (fun b hb => (hol b hb).1) (Nat.le_trans HLO.out (by rw [HV.out]; simp))).mono HB1.out.size |>.mono (Nat.le_refl _) |> fun z => z)
              have hs1 := str8 h.rd
              have hs2 := str8 (HB.out.below HB3.out)
              have HR3 := Lib.hid ((HR.out.below HB3.out).more HB3.out.size)
              have HRL := Lib.hid h.rdL
              have hn2 := h.rdL.len
              have hct := fun W => cut_toL (some ⟨b, o, none⟩) m cl k (by have := HR.out.cap; omega) W
              clear h HP hgl hol
              have hx : x = b0 := by rcases hl9 with rfl | ⟨_, rfl⟩ <;> (injection hl with h1 h2; exact h1.symm)
              subst hx
              have hrr : r = l.take k ∨ (k < m ∧ r = l.take (k + 1)) := by
                rcases hl9 with rfl | ⟨hkm, rfl⟩ <;> injection hl with h1 h2
                · exact .inl h2.symm
                · exact .inr ⟨hkm, h2.symm⟩
              clear hl hl9
              have hlm := HR.out.len
              rcases hrr with rfl | ⟨hkm, rfl⟩
              · obtain rfl : n2 = k := by rw [← hn2, List.length_take]; omega
                have HAL := Lib.hid (alike_same (l.take n2) n2 A2 (some ⟨b, o, none⟩) c2 cl v3 HRL.out (HR3.out.take (by omega)) (by omega))
                clear hn2
                go_wp2_with fail
                refine HAL.out.mono ?_
                rintro e v4 ⟨rfl, hb4⟩
                have HB4 : Hid (Below w.heap.size w v4) := HB3.out.trans (hb4.mono HB3.out.size)
                clear hb4 hs1 hs2
                go_wp2_with fail
                go_ret
                exact ⟨by first | rfl | simp, HB4.out⟩
              · obtain rfl : n2 = k + 1 := by rw [← hn2, List.length_take]; omega
                have HAL := Lib.hid (alike_len (k + 1) k A2 (some ⟨b, o, none⟩) c2 cl v3 (by omega))
                have HAM := Lib.hid (alike_same (l.take (k + 1)) (k + 1) A2 (some ⟨b, o, none⟩) c2 cl v3 HRL.out (HR3.out.take (by omega)) (by omega))
                have hct2 := fun W => cut_toL (some ⟨b, o, none⟩) m cl (k + 1) (by have := HR.out.cap; omega) W
                have hd1 : decide ((k : Int) < (m : Int)) = true := decide_eq_true (by omega)
                have hd2 : decide (k < m) = true := decide_eq_true hkm
                obtain ⟨k1, hk1⟩ : ∃ z, z = k + 1 := ⟨_, rfl⟩
                have hk1i : (k : Int) + 1 = (k1 : Int) := by omega
                rw [← hk1] at HAL HAM hct2 hn2 ⊢
                clear hn2 hk1
                go_wp2_with fail
                refine HAL.out.mono ?_
                rintro e v4 ⟨rfl, rfl⟩
                go_wp2_with fail
                refine HAM.out.mono ?_
                rintro e v5 ⟨rfl, hb5⟩
                have HB5 : Hid (Below w.heap.size w v5) := HB3.out.trans (hb5.mono HB3.out.size)
                clear hb5 hs1 hs2
                go_wp2_with fail
                go_ret
                exact ⟨by first | rfl | simp, HB5.out⟩
        · have hki : ¬ ((k : Int) < (m : Int)) := by omega
          obtain rfl : k = m := by omega
          have HMIN : Hid (k = min k (f / 2)) := by unfold Hid; omega
          have hlr : ∀ a ∈ b0 :: l.take k, a.length ≤ 60000 := fun a ha => by
            rcases List.mem_cons.1 ha with rfl | ha
            · omega
            · have := HL.out a ha; omega
          obtain ⟨s9, hs9⟩ : ∃ s, s = fit 1048576 (b0 :: l.take k) ((f : Int) - 2 * (k : Int)) := ⟨_, rfl⟩
          have HX : Hid (∃ l' n', Scans (left s9 kp y) l' n' ∧ (l' = b0 :: l.take k ∨ (k < k ∧ l' = b0 :: l.take (k + 1)))) := ⟨b0 :: l.take k, _, by rw [hs9, left_fit]; exact scans_frms hlr, .inl rfl⟩
          have HSF : Hid (s9.sf ≤ s9.bs.length) := by unfold Hid; rw [hs9]; unfold fit; simp
          have HLN : Hid (s9.bs.length ≤ 20000) := by unfold Hid; rw [hs9]; unfold fit; have := HFL.out; dsimp only; omega
          have HCP : Hid (s9.cap = 1048576) := by unfold Hid; rw [hs9]; rfl
          rw [← hs9] at HNr
          have HN := HNr
          clear hs9 hlr
          have hmin : min (k : Int) ((f / 2 : Nat) : Int) = (k : Int) := by have := HMIN.out; omega
          have hmin2 : min (k : Int) ((f : Int) / 2) = (k : Int) := by have := HMIN.out; omega
          have hmin3 : min (k : Int) ((f : Int).tdiv 2) = (k : Int) := by rw [Int.tdiv_eq_ediv_of_nonneg (by omega)]; exact hmin2
          obtain ⟨A4, n4, c4, fb4, ah4, hta4, hob4⟩ := HN.out.tp
          have HRST := Lib.hid (restart_any kp hta4 (by have h1 := hta4.len; have h2 := HSF.out; omega) (by have h1 := hta4.len; have h2 := HLN.out; omega) hkp y)
          rw [hob4] at HRST
          clear hta4 hob4
          go_wp2_with fail
          refine HRST.out.mono ?_
          rintro e u2 ⟨rfl, hd2⟩
          have HBu : Hid (Below w.heap.size w u2) := by
            obtain ⟨_, _, ht, _⟩ := hd2
            exact HB1.out.trans ((HN.out.below.trans (ht.below HN.out.tp.lo_.1 (fun b hb => (HN.out.tp.obl b hb).1) HN.out.below.size)).mono HB1.out.size)
          obtain ⟨ob2, hT2, _, _⟩ := hd2
          have HT2 := Lib.hid hT2
          have HLO : Hid (v1.heap.size ≤ u2.heap.size) := Nat.le_of_lt (Nat.lt_of_le_of_lt hT2.lo_.1 hT2.lo_.2)
          clear hT2 HRST
          clear hmin hmin2 hmin3
          have kc := fun (w : World) (C : Array Value) (n c : Nat) => Lib.run_convert_bytes_const (P := Try.prog) w 23 5 C n c Try.underlying23 Try.underlying5
          obtain ⟨V, hV⟩ : ∃ V, V = u2.alloc (.cells #[.int .u8 111, .int .u8 116, .int .u8 104, .int .u8 101, .int .u8 114] 5 (5, 6)) := ⟨_, rfl⟩
          obtain ⟨q, hq⟩ : ∃ q, q = u2.heap.size := ⟨_, rfl⟩
          have hbV : Below u2.heap.size u2 V := by rw [hV]; exact (Below.refl _ _).alloc (Nat.le_refl _) _
          have hrd : Rd V V.heap.size 1 (some ⟨q, 0, none⟩) 5 5 (u8s [111, 116, 104, 101, 114]) := by
            rw [hV, hq]
            exact rd_mark u2 #[.int .u8 111, .int .u8 116, .int .u8 104, .int .u8 101, .int .u8 114] _ _ 5 rfl (by simp [Value.oneCell'])
          obtain ⟨l9, n9, hsc, hl9⟩ := HX.out
          have hne : l9 ≠ [] := by rcases hl9 with rfl | ⟨_, rfl⟩ <;> simp
          have hk9 : kept l9 [111, 116, 104, 101, 114] = l9 := by unfold kept; rw [if_neg hne]
          obtain ⟨s8, hs8⟩ := opn_rst (s := s9) (base := [111, 116, 104, 101, 114]) (l := l9) (n := n9) (k := kp) (y := y) (by simp) hne (by
            have h1 := hsc.eq
            have h2 := congrArg List.length h1
            rw [List.length_take, left_len HSF.out] at h2
            have h3 := stay_le s9 kp
            have h4 := HCP.out
            have h5 := HSF.out
            have h6 := HLN.out
            omega)
          have HP := Lib.hid (popen_any (HT2.out.later hbV) (Nat.le_trans HLO.out hbV.size) (by unfold rst; dsimp only; rw [HCP.out]; omega) (by unfold rst; dsimp only; omega) rfl (by
            unfold rst; dsimp only; rw [left_len HSF.out]
            have h3 := stay_le s9 kp
            have h5 := HSF.out
            have h6 := HLN.out
            omega) hrd (by omega) hsc s8 0 hs8)
          rw [hk9] at HP
          have HBV : Hid (Below w.heap.size w V) := HBu.out.trans (hbV.mono HBu.out.size)
          have HV := Lib.hid hV
          have HQ := Lib.hid hq
          have hgl := (HT2.out.later hbV).lo_.1
          have hol := (HT2.out.later hbV).obl
          clear hbV hrd hV hq hk9 hs8 hsc hne
          go_wp2_with fail
          rw [← HV.out]
          try rw [← HQ.out]
          refine HP.out.mono ?_
          rintro e v3 ⟨-, h0⟩
          obtain ⟨p3, x, r, A1, A2, n1, n2, c1, c2, ob3, hl, rfl, h⟩ := h0 rfl
          clear h0
          have HB3 : Hid (Below w.heap.size w v3) := HBV.out.trans ((h.two.below (B := v1.heap.size) hgl (fun b hb => (hol b hb).1) (Nat.le_trans HLO.out (by rw [HV.out]; simp))).mono HB1.out.size |>.mono (Nat.le_refl _) |> fun z => z)
          have hs1 := str8 h.rd
          have hs2 := str8 (HB.out.below HB3.out)
          have HR3 := Lib.hid ((HR.out.below HB3.out).more HB3.out.size)
          have HRL := Lib.hid h.rdL
          have hn2 := h.rdL.len
          have hct := fun W => cut_toL Al k cl k (by have := HR.out.cap; omega) W
          clear h HP hgl hol
          have hx : x = b0 := by rcases hl9 with rfl | ⟨_, rfl⟩ <;> (injection hl with h1 h2; exact h1.symm)
          subst hx
          have hrr : r = l.take k ∨ (k < k ∧ r = l.take (k + 1)) := by
            rcases hl9 with rfl | ⟨hkm, rfl⟩ <;> injection hl with h1 h2
            · exact .inl h2.symm
            · exact .inr ⟨hkm, h2.symm⟩
          clear hl hl9
          have hlm := HR.out.len
          rcases hrr with rfl | ⟨hkm, rfl⟩
          · obtain rfl : n2 = k := by rw [← hn2, List.length_take]; omega
            have HAL := Lib.hid (alike_same (l.take n2) n2 A2 Al c2 cl v3 HRL.out (HR3.out.take (by omega)) (by omega))
            clear hn2
            go_wp2_with fail
            refine HAL.out.mono ?_
            rintro e v4 ⟨rfl, hb4⟩
            have HB4 : Hid (Below w.heap.size w v4) := HB3.out.trans (hb4.mono HB3.out.size)
            clear hb4 hs1 hs2
            go_wp2_with fail
            go_ret
            exact ⟨by first | rfl | simp, HB4.out⟩
          · exact absurd hkm (Nat.lt_irrefl _)
set_option maxRecDepth 100000 in
theorem lifted (os : Os) (started : os.Started) (H : Type) (enc : TypeId × Value → H) :
    ReturnsInHanded {} Try.checked os 5 .any (Rows.journalCrashesSpec.pre6 enc Try.prog Try.f5 Rows.journalCrashesRow.domain false) (Rows.journalCrashesSpec.post enc Try.prog Try.f5 false true false false) := by
  refine returnsInHanded_of_change (C := Try.checked) own started (by kernel_rfl) Try.func5
    (ChangeSpec.witness6 (enc := enc) (C := Try.checked) false ⟨#[], #[.slice none 0 0, .slice none 0 0, .int .u8 0, .int .i64 0, .int .u8 0], []⟩ 8 (by kernel_rfl) (by kernel_rfl) (by kernel_rfl) (by kernel_rfl)) ?_
  intro W base args ds gs before hval0 hW _ _
  have hval : ∀ (j : Nat) t v, Try.f5.params[j]? = some t → args[j]? = some v → Value.okWide Try.prog W .any base t v := hval0
  have hW' := hW
  obtain ⟨p, q, hA0, hV, rfl, hfz, hnd⟩ := hW
  have hA : DataW.TrodAll enc Try.prog W 0 (fun _ => true) true Try.f5.params.toList args.toList ds p := hA0
  rw [Try.params5] at hA hval
  obtain ⟨v0, v1, v2, v3, v4, d0, d1, d2, d3, d4, p0, p1, p2, p3, p4, rfl, rfl, rfl, h0, h1, h2, h3, h4⟩ := Jrn.trodAll_five hA
  obtain ⟨rfl, rfl⟩ := trodVars_none hV
  obtain ⟨a0, len0, cap0, rfl⟩ := okWide_slice Try.underlying23 (hval 0 23 v0 rfl rfl)
  obtain ⟨fuel0, hf0⟩ := h0
  obtain ⟨bs0, rfl, hr0, _⟩ := By.bytes_of_trod hf0
  obtain ⟨a1, len1, cap1, rfl⟩ := okWide_slice Try.underlying54 (hval 1 54 v1 rfl rfl)
  obtain ⟨fuel1, hf1⟩ := h1
  obtain ⟨bs1, rfl, hr1, _⟩ := By.list_of_trod hf1
  obtain ⟨x2, rfl, rfl, rfl, w2⟩ := open_int Try.underlying5 (hval 2 5 v2 rfl rfl) h2
  obtain ⟨x3, rfl, rfl, rfl, w3⟩ := open_int Try.underlying3 (hval 3 3 v3 rfl rfl) h3
  obtain ⟨x4, rfl, rfl, rfl, w4⟩ := open_int Try.underlying5 (hval 4 5 v4 rfl rfl) h4
  refine (walk_any bs0 a0 cap0 bs1 a1 cap1 x2 x3 x4 W hr0 hr1 (By.wf_u8 w2) (By.wf_i64 w3) (By.wf_u8 w4)).mono fun e W' ⟨he, hb⟩ => ?_
  subst he
  exact ⟨_, rfl, law_post hW' (by kernel_rfl) rfl rfl rfl hb⟩
theorem proved : Rows.JournalCrashesSaid :=
  OpenClaim.holds_of_wide 5 Try.f5 rfl rfl rfl rfl rfl rfl rfl ⟨rfl, rfl, rfl, rfl, rfl⟩ rfl rfl rfl rfl rfl (by kernel_rfl) Try.func5 (by kernel_rfl)
    (of_decide_eq_true (by kernel_rfl)) (by unfold Func.isWrapper; first | (rw [if_pos (by decide +kernel)]; kernel_rfl) | (rw [if_neg (by decide +kernel)]; exact ⟨rfl, rfl⟩))
    (fun os started H enc _ => lifted os started H enc)
#print axioms proved
end lawJournalCrashes
end Go.Proofs.Ytcffbgehopjgpaa
