/- Proved: the law JournalRenews answers true for all bytes, all lists of bytes, every byte, every number that can be handed in, and leaves its arguments as they were. Conditions: none. -/
import Derived.Test.YtcffbgehopjgpaaJournalMid
open Go.ChangeShapes Go.WideShapes Go.ChangeAt Go.RowKit
namespace Go.Proofs.Ytcffbgehopjgpaa
namespace lawJournalRenews
open Jrn Tpe Frm By
set_option maxRecDepth 100000 in
set_option maxHeartbeats 4000000 in
theorem walk_any (b0 : Rec) (Ab : Option Addr) (cb : Nat) (b9 : Rec) (A9 : Option Addr) (c9 : Nat) (l : List Rec) (Al : Option Addr) (cl : Nat) (fz kp sp : Int) (w : World) (hb : Rd w w.heap.size 1 Ab b0.length cb (u8s b0)) (hb9 : Rd w w.heap.size 1 A9 b9.length c9 (u8s b9)) (hl : RdL w w.heap.size Al l.length cl l) (hfz : 0 ≤ fz ∧ fz ≤ 255) (hkp : -9223372036854775808 ≤ kp ∧ kp ≤ 9223372036854775807) (hsp : 0 ≤ sp ∧ sp ≤ 255) :
    Calls Try.prog 6 #[.slice Ab b0.length cb, .slice A9 b9.length c9, .slice Al l.length cl, .int .u8 fz, .int .i64 kp, .int .u8 sp] w fun e w' => e = .returned (.bool true) ∧ Below w.heap.size w w' := by
  obtain ⟨y, rfl⟩ : ∃ y : UInt8, sp = (y.toNat : Int) := ⟨UInt8.ofNat sp.toNat, by rw [UInt8.toNat_ofNat']; omega⟩
  obtain ⟨f2, hf2⟩ : ∃ z, fz % 2 = z := ⟨_, rfl⟩
  have hf20 : f2 = 0 ∨ f2 = 1 := by omega
  have htm : fz.tmod 2 = f2 := by rw [Int.tmod_eq_emod_of_nonneg hfz.1]; exact hf2
  have hw3 : IntKind.u8.wrap f2 = f2 := IntWalk.u8_in _ (by omega)
  clear hf2
  obtain ⟨nb, hnb⟩ : ∃ z, z = b0.length := ⟨_, rfl⟩
  obtain ⟨n9, hn9⟩ : ∃ z, z = b9.length := ⟨_, rfl⟩
  obtain ⟨m, hm⟩ : ∃ z, z = l.length := ⟨_, rfl⟩
  rw [← hnb] at hb ⊢
  rw [← hn9] at hb9 ⊢
  rw [← hm] at hl ⊢
  have HB := Lib.hid hb
  have HB9 := Lib.hid hb9
  have HR := Lib.hid hl
  have HNB := Lib.hid hnb
  have HN9 := Lib.hid hn9
  clear hb hb9 hl hnb hn9 hm
  go_enter Try.func6, Try.ntmps6
  go_wp2_with fail
  refine (awake_any w).mono ?_
  rintro e v1 ⟨rfl, hb⟩
  have HB1 := Lib.hid hb
  clear hb
  by_cases hm : 30 < m
  · have f1 : decide ((30 : Int) < (m : Int)) = true := decide_eq_true (by omega)
    have f2 : decide (30 < m) = true := decide_eq_true hm
    go_wp2_with fail
    refine (awake_any v1).mono ?_
    rintro e v9 ⟨rfl, hb9⟩
    have HB9 := Lib.hid (HB1.out.trans (hb9.mono HB1.out.size))
    clear hb9
    go_wp2_with fail
    go_ret
    exact ⟨rfl, HB9.out⟩
  · have fm : decide ((30 : Int) < (m : Int)) = false := decide_eq_false (by omega)
    have gm : decide (30 < m) = false := decide_eq_false hm
    by_cases hn : 300 < nb
    · have f1 : decide ((300 : Int) < (nb : Int)) = true := decide_eq_true (by omega)
      have f2 : decide (300 < nb) = true := decide_eq_true hn
      go_wp2_with fail
      refine (awake_any v1).mono ?_
      rintro e v9 ⟨rfl, hb9⟩
      have HB9 := Lib.hid (HB1.out.trans (hb9.mono HB1.out.size))
      clear hb9
      go_wp2_with fail
      go_ret
      exact ⟨rfl, HB9.out⟩
    · have fn : decide ((300 : Int) < (nb : Int)) = false := decide_eq_false (by omega)
      have gn : decide (300 < nb) = false := decide_eq_false hn
      by_cases hq : 300 < n9
      · have f1 : decide ((300 : Int) < (n9 : Int)) = true := decide_eq_true (by omega)
        have f2 : decide (300 < n9) = true := decide_eq_true hq
        go_wp2_with fail
        refine (awake_any v1).mono ?_
        rintro e v9 ⟨rfl, hb9⟩
        have HB9 := Lib.hid (HB1.out.trans (hb9.mono HB1.out.size))
        clear hb9
        go_wp2_with fail
        go_ret
        exact ⟨rfl, HB9.out⟩
      · have fq : decide ((300 : Int) < (n9 : Int)) = false := decide_eq_false (by omega)
        have gq : decide (300 < n9) = false := decide_eq_false hq
        have HRB1 := Lib.hid (HB.out.later HB1.out)
        go_wp2_with fail
        refine (open_any 1048576 b0 nb Ab cb v1 (by omega) HRB1.out (by omega) (by omega)).mono ?_
        rintro e v2 ⟨p, g, ob0, rfl, hN⟩
        have HN0 := Lib.hid hN
        clear hN fm gm fn gn fq gq
        go_wp2_with fail
        go_loopw [50] (fun i wr => ∃ (k : Nat) (ob : Option Nat), i = .int .i64 k ∧ k ≤ m ∧ Hid (∀ a ∈ l.take k, a.length ≤ 300) ∧ Hid (NewJ v1 wr p g ob (fit 1048576 (b0 :: l.take k) (-1)) k)) (fun i _ => m - (intOf i).toNat)
        case atStart => exact ⟨0, ob0, rfl, Nat.zero_le _, (fun a ha => by simp at ha), by have h := HN0.out; unfold Hid; simpa using h⟩
        case round =>
          obtain ⟨k, ob, rfl, hk, HL, HNr⟩ := hrel
          have HBr : Hid (Below w.heap.size w wr) := HB1.out.trans (HNr.out.below.mono HB1.out.size)
          have hnb3 : b0.length ≤ 300 := by rw [← HNB.out]; omega
          have HFL := Lib.hid (fit_len hnb3 HL.out (by omega))
          by_cases hlt : k < m
          · have hki : (k : Int) < (m : Int) := by omega
            have hkl : k < l.length := by rw [HR.out.len]; exact hlt
            obtain ⟨b, o, rfl, hbB, hc⟩ := HR.out.at_ (by omega)
            obtain ⟨A3, c3, k0, hrd3⟩ := hc k hkl
            have k0 := (HBr.out.cell (p := ⟨b, o + k, none⟩) hbB).trans k0
            have hrd3 := (hrd3.below HBr.out).more HBr.out.size
            obtain ⟨x, hx⟩ : ∃ x, x = l[k] := ⟨_, rfl⟩
            rw [← hx] at k0 hrd3
            obtain ⟨r, hr⟩ : ∃ r, r = x.length := ⟨_, rfl⟩
            rw [← hr] at k0 hrd3
            have HX0 := Lib.hid hx
            have HRX := Lib.hid hr
            have HRD3 := Lib.hid hrd3
            have HTM : Hid (b0 :: l.take (k + 1) = (b0 :: l.take k) ++ [x]) := by unfold Hid; rw [hx]; exact take_more hkl
            clear hc hrd3 hx hr
            by_cases h300 : 300 < r
            · have f1 : decide ((300 : Int) < (r : Int)) = true := decide_eq_true (by omega)
              have f2 : decide (300 < r) = true := decide_eq_true h300
              go_wp2_with fail
              go_ret
              exact ⟨rfl, HBr.out⟩
            · have f1 : decide ((300 : Int) < (r : Int)) = false := decide_eq_false (by omega)
              have f2 : decide (300 < r) = false := decide_eq_false h300
              have hxl : x.length ≤ 300 := by rw [← HRX.out]; omega
              have HWR := Lib.hid (write_any (N := k) HNr.out.tp HNr.out.below.size (by unfold fit; dsimp only; omega) (by unfold fit; dsimp only; omega) (by unfold fit; have := HFL.out; dsimp only; omega) HNr.out.jn HNr.out.ne HNr.out.neo HRD3.out (by omega) (by omega))
              have hwr := wrt_ok (cap := 1048576) (r := b0 :: l.take k) (b := x) (v := -1) (by have := HFL.out; omega) (by omega) (.inr rfl)
              rw [less_none, ← HTM.out] at hwr
              rw [hwr] at HWR
              have HL2 : Hid (∀ a ∈ l.take (k + 1), a.length ≤ 300) := fun a ha => by
                have h9 : a ∈ (b0 :: l.take k) ++ [x] := by rw [← HTM.out]; exact List.mem_cons_of_mem _ ha
                rcases List.mem_append.1 h9 with h9 | h9
                · rcases List.mem_cons.1 h9 with rfl | h9
                  · exact hnb3
                  · exact HL.out a h9
                · simp only [List.mem_cons, List.not_mem_nil, or_false] at h9
                  rw [h9]; exact hxl
              clear hwr
              go_wp2_with fail
              refine HWR.out.mono ?_
              rintro e u1 ⟨rfl, hd⟩
              obtain ⟨ob2, hN2⟩ := HNr.out.did hd
              have HN2 : Hid (NewJ v1 u1 p g ob2 (fit 1048576 (b0 :: l.take (k + 1)) (-1)) ((k + 1 : Nat) : Int)) := hN2
              clear hd hN2 HWR k0
              go_wp2_with fail
              go_roundw
              case rel => exact ⟨k + 1, ob2, by go_num, by omega, HL2, HN2⟩
              case measure => simp [intOf]; omega
          · have hki : ¬ ((k : Int) < (m : Int)) := by omega
            obtain rfl : k = m := by omega
            have htl : l.take k = l := by rw [← HR.out.len, List.take_length]
            rw [htl] at HNr HFL HL
            have HHL := HL
            obtain ⟨A5, n5, c5, fb5, ah5, hta5, hob5⟩ := HNr.out.tp
            have HFU := Lib.hid (fuse_any f2 hta5 (by omega))
            rw [arm_fit (by omega), hob5] at HFU
            clear hta5 hob5 htl
            go_wp2_with fail
            refine HFU.out.mono ?_
            rintro e u0 ⟨rfl, hd⟩
            obtain ⟨ob1, hN1⟩ := HNr.out.didT hd
            have HN1 := Lib.hid hN1
            have HBu0 : Hid (Below w.heap.size w u0) := HB1.out.trans (hN1.below.mono HB1.out.size)
            have HRN := Lib.hid (renew_any HN1.out.tp HN1.out.below.size (by unfold fit; dsimp only; omega) (by unfold fit; dsimp only; omega) HN1.out.jn HN1.out.ne HN1.out.neo (HB9.out.later HBu0.out) (by omega))
            clear hd hN1 HFU HNr
            rcases hf20 with rfl | rfl
            · rw [rnw_gone (by rw [← HN9.out]; omega) (by rw [← HN9.out]; omega)] at HRN
              obtain ⟨s9, hs9⟩ : ∃ s, s = (⟨1048576, frms (b0 :: l), (frms (b0 :: l)).length, 0, true⟩ : S) := ⟨_, rfl⟩
              have hlr : ∀ a ∈ b0 :: l, a.length ≤ 60000 := fun a ha => by
                rcases List.mem_cons.1 ha with rfl | ha
                · omega
                · have := HHL.out a ha; omega
              have HX : Hid (∃ n', Scans (left s9 kp y) (b0 :: l) n') := ⟨_, by rw [hs9, left_lost]; exact scans_frms hlr⟩
              have HSF : Hid (s9.sf ≤ s9.bs.length) := by unfold Hid; rw [hs9]; exact Nat.le_refl _
              have HLN : Hid (s9.bs.length ≤ 20000) := by unfold Hid; rw [hs9]; have := HFL.out; dsimp only; omega
              have HCP : Hid (s9.cap = 1048576) := by unfold Hid; rw [hs9]
              rw [← hs9] at HRN
              clear hs9 hlr
              go_wp2_with fail
              refine HRN.out.mono ?_
              rintro e u1 ⟨rfl, hd⟩
              obtain ⟨ob6, hN6⟩ := HN1.out.did hd
              have HN := Lib.hid hN6
              clear hd hN6 HRN
              obtain ⟨A4, n4, c4, fb4, ah4, hta4, hob4⟩ := HN.out.tp
              have HRST := Lib.hid (restart_any kp hta4 (by have h1 := hta4.len; have h2 := HSF.out; omega) (by have h1 := hta4.len; have h2 := HLN.out; omega) hkp y)
              rw [hob4] at HRST
              clear hta4 hob4
              go_wp2_with fail
              refine HRST.out.mono ?_
              rintro e u2 ⟨rfl, hd2⟩
              have HBu : Hid (Below w.heap.size w u2) := by
                obtain ⟨_, _, ht, _⟩ := hd2
                exact HB1.out.trans ((HN.out.below.trans (ht.below HN.out.tp.lo_.1 (fun b hb => (HN.out.tp.obl b hb).1) HN.out.below.size)).mono HB1.out.size)
              obtain ⟨ob2, hT2, _, _⟩ := hd2
              have HT2 := Lib.hid hT2
              have HLO : Hid (v1.heap.size ≤ u2.heap.size) := Nat.le_of_lt (Nat.lt_of_le_of_lt hT2.lo_.1 hT2.lo_.2)
              clear hT2 HRST
              obtain ⟨n9, hsc⟩ := HX.out
              have hne : b0 :: l ≠ [] := by simp
              have hk9 : kept (b0 :: l) [] = b0 :: l := by unfold kept; rw [if_neg hne]
              obtain ⟨s8, hs8⟩ := opn_rst (s := s9) (base := []) (l := b0 :: l) (n := n9) (k := kp) (y := y) (by simp) hne (by
                have h1 := hsc.eq
                have h2 := congrArg List.length h1
                rw [List.length_take, left_len HSF.out] at h2
                have h3 := stay_le s9 kp
                have h4 := HCP.out
                have h5 := HSF.out
                have h6 := HLN.out
                omega)
              have HP := Lib.hid (popen_any HT2.out HLO.out (by unfold rst; dsimp only; rw [HCP.out]; omega) (by unfold rst; dsimp only; omega) rfl (by
                unfold rst; dsimp only; rw [left_len HSF.out]
                have h3 := stay_le s9 kp
                have h5 := HSF.out
                have h6 := HLN.out
                omega) (show Rd u2 u2.heap.size 1 none 0 0 (u8s []) from Rd.nil _) (by omega) hsc s8 0 hs8)
              rw [hk9] at HP
              have hgl := HT2.out.lo_.1
              have hol := HT2.out.obl
              clear hk9 hs8 hsc hne
              go_wp2_with fail
              refine HP.out.mono ?_
              rintro e v3 ⟨-, h0⟩
              obtain ⟨p3, x, r, A1, A2, n1, n2, c1, c2, ob3, hl, rfl, h⟩ := h0 rfl
              clear h0
              have HB3 : Hid (Below w.heap.size w v3) := HBu.out.trans ((h.two.below (B := v1.heap.size) hgl (fun b hb => (hol b hb).1) HLO.out).mono HB1.out.size)
              have hs1 := str8 h.rd
              have hs2 := str8 (HB.out.below HB3.out)
              have HRL := Lib.hid h.rdL
              have hn2 := h.rdL.len
              clear h HP hgl hol
              injection hl with e1 e2
              subst e1; subst e2
              obtain rfl : k = n2 := by rw [← hn2]; exact HR.out.len.symm
              have HR3 := Lib.hid ((HR.out.below HB3.out).more HB3.out.size)
              have HAL := Lib.hid (alike_same l k A2 Al c2 cl v3 HRL.out HR3.out (by omega))
              clear hn2
              go_wp2_with fail
              refine HAL.out.mono ?_
              rintro e v4 ⟨rfl, hb4⟩
              have HB4 : Hid (Below w.heap.size w v4) := HB3.out.trans (hb4.mono HB3.out.size)
              clear hb4 hs1 hs2
              go_wp2_with fail
              go_ret
              exact ⟨by first | rfl | simp, HB4.out⟩
            · rw [rnw_ok (by rw [← HN9.out]; omega) (by rw [← HN9.out]; omega)] at HRN
              obtain ⟨s9, hs9⟩ : ∃ s, s = fit 1048576 [b9] 0 := ⟨_, rfl⟩
              have hlr : ∀ a ∈ [b9], a.length ≤ 60000 := fun a ha => by
                simp only [List.mem_cons, List.not_mem_nil, or_false] at ha
                rw [ha, ← HN9.out]; omega
              have HX : Hid (∃ n', Scans (left s9 kp y) [b9] n') := ⟨_, by rw [hs9, left_fit]; exact scans_frms hlr⟩
              have HSF : Hid (s9.sf ≤ s9.bs.length) := by unfold Hid; rw [hs9]; exact Nat.le_refl _
              have HLN : Hid (s9.bs.length ≤ 20000) := by unfold Hid; rw [hs9]; unfold fit; simp only [frms_cons, frms_nil, List.append_nil, frm_len]; rw [← HN9.out]; omega
              have HCP : Hid (s9.cap = 1048576) := by unfold Hid; rw [hs9]; rfl
              rw [← hs9] at HRN
              clear hs9 hlr
              go_wp2_with fail
              refine HRN.out.mono ?_
              rintro e u1 ⟨rfl, hd⟩
              obtain ⟨ob6, hN6⟩ := HN1.out.did hd
              have HN := Lib.hid hN6
              have HJL := Lib.hid (jlen_any HN.out.jn)
              clear hd hN6 HRN
              go_wp2_with fail
              refine HJL.out.mono ?_
              rintro e u8 ⟨rfl, rfl⟩
              obtain ⟨A4, n4, c4, fb4, ah4, hta4, hob4⟩ := HN.out.tp
              have HRST := Lib.hid (restart_any kp hta4 (by have h1 := hta4.len; have h2 := HSF.out; omega) (by have h1 := hta4.len; have h2 := HLN.out; omega) hkp y)
              rw [hob4] at HRST
              clear hta4 hob4
              go_wp2_with fail
              refine HRST.out.mono ?_
              rintro e u2 ⟨rfl, hd2⟩
              have HBu : Hid (Below w.heap.size w u2) := by
                obtain ⟨_, _, ht, _⟩ := hd2
                exact HB1.out.trans ((HN.out.below.trans (ht.below HN.out.tp.lo_.1 (fun b hb => (HN.out.tp.obl b hb).1) HN.out.below.size)).mono HB1.out.size)
              obtain ⟨ob2, hT2, _, _⟩ := hd2
              have HT2 := Lib.hid hT2
              have HLO : Hid (v1.heap.size ≤ u2.heap.size) := Nat.le_of_lt (Nat.lt_of_le_of_lt hT2.lo_.1 hT2.lo_.2)
              clear hT2 HRST
              obtain ⟨n9, hsc⟩ := HX.out
              have hne : [b9] ≠ [] := by simp
              have hk9 : kept ([b9]) [] = [b9] := by unfold kept; rw [if_neg hne]
              obtain ⟨s8, hs8⟩ := opn_rst (s := s9) (base := []) (l := [b9]) (n := n9) (k := kp) (y := y) (by simp) hne (by
                have h1 := hsc.eq
                have h2 := congrArg List.length h1
                rw [List.length_take, left_len HSF.out] at h2
                have h3 := stay_le s9 kp
                have h4 := HCP.out
                have h5 := HSF.out
                have h6 := HLN.out
                omega)
              have HP := Lib.hid (popen_any HT2.out HLO.out (by unfold rst; dsimp only; rw [HCP.out]; omega) (by unfold rst; dsimp only; omega) rfl (by
                unfold rst; dsimp only; rw [left_len HSF.out]
                have h3 := stay_le s9 kp
                have h5 := HSF.out
                have h6 := HLN.out
                omega) (show Rd u2 u2.heap.size 1 none 0 0 (u8s []) from Rd.nil _) (by omega) hsc s8 0 hs8)
              rw [hk9] at HP
              have hgl := HT2.out.lo_.1
              have hol := HT2.out.obl
              clear hk9 hs8 hsc hne
              go_wp2_with fail
              refine HP.out.mono ?_
              rintro e v3 ⟨-, h0⟩
              obtain ⟨p3, x, r, A1, A2, n1, n2, c1, c2, ob3, hl, rfl, h⟩ := h0 rfl
              clear h0
              have HB3 : Hid (Below w.heap.size w v3) := HBu.out.trans ((h.two.below (B := v1.heap.size) hgl (fun b hb => (hol b hb).1) HLO.out).mono HB1.out.size)
              have hs1 := str8 h.rd
              have hs2 := str8 (HB9.out.below HB3.out)
              have HRL := Lib.hid h.rdL
              have hn2 := h.rdL.len
              clear h HP hgl hol
              injection hl with e1 e2
              subst e1; subst e2
              obtain rfl : n2 = 0 := hn2.symm
              go_wp2_with fail
              go_ret
              exact ⟨by first | rfl | simp, HB3.out⟩
set_option maxRecDepth 100000 in
theorem lifted (os : Os) (started : os.Started) (H : Type) (enc : TypeId × Value → H) :
    ReturnsInHanded {} Try.checked os 6 .any (Rows.journalRenewsSpec.pre6 enc Try.prog Try.f6 Rows.journalRenewsRow.domain false) (Rows.journalRenewsSpec.post enc Try.prog Try.f6 false true false false) := by
  refine returnsInHanded_of_change (C := Try.checked) own started (by kernel_rfl) Try.func6
    (ChangeSpec.witness6 (enc := enc) (C := Try.checked) false ⟨#[], #[.slice none 0 0, .slice none 0 0, .slice none 0 0, .int .u8 0, .int .i64 0, .int .u8 0], []⟩ 8 (by kernel_rfl) (by kernel_rfl) (by kernel_rfl) (by kernel_rfl)) ?_
  intro W base args ds gs before hval0 hW _ _
  have hval : ∀ (j : Nat) t v, Try.f6.params[j]? = some t → args[j]? = some v → Value.okWide Try.prog W .any base t v := hval0
  have hW' := hW
  obtain ⟨p, q, hA0, hV, rfl, hfz, hnd⟩ := hW
  have hA : DataW.TrodAll enc Try.prog W 0 (fun _ => true) true Try.f6.params.toList args.toList ds p := hA0
  rw [Try.params6] at hA hval
  obtain ⟨v0, v1, v2, v3, v4, v5, d0, d1, d2, d3, d4, d5, p0, p1, p2, p3, p4, p5, rfl, rfl, rfl, h0, h1, h2, h3, h4, h5⟩ := Jrn.trodAll_six hA
  obtain ⟨rfl, rfl⟩ := trodVars_none hV
  obtain ⟨a0, len0, cap0, rfl⟩ := okWide_slice Try.underlying23 (hval 0 23 v0 rfl rfl)
  obtain ⟨fuel0, hf0⟩ := h0
  obtain ⟨bs0, rfl, hr0, _⟩ := By.bytes_of_trod hf0
  obtain ⟨a1, len1, cap1, rfl⟩ := okWide_slice Try.underlying23 (hval 1 23 v1 rfl rfl)
  obtain ⟨fuel1, hf1⟩ := h1
  obtain ⟨bs1, rfl, hr1, _⟩ := By.bytes_of_trod hf1
  obtain ⟨a2, len2, cap2, rfl⟩ := okWide_slice Try.underlying54 (hval 2 54 v2 rfl rfl)
  obtain ⟨fuel2, hf2⟩ := h2
  obtain ⟨bs2, rfl, hr2, _⟩ := By.list_of_trod hf2
  obtain ⟨x3, rfl, rfl, rfl, w3⟩ := open_int Try.underlying5 (hval 3 5 v3 rfl rfl) h3
  obtain ⟨x4, rfl, rfl, rfl, w4⟩ := open_int Try.underlying3 (hval 4 3 v4 rfl rfl) h4
  obtain ⟨x5, rfl, rfl, rfl, w5⟩ := open_int Try.underlying5 (hval 5 5 v5 rfl rfl) h5
  refine (walk_any bs0 a0 cap0 bs1 a1 cap1 bs2 a2 cap2 x3 x4 x5 W hr0 hr1 hr2 (By.wf_u8 w3) (By.wf_i64 w4) (By.wf_u8 w5)).mono fun e W' ⟨he, hb⟩ => ?_
  subst he
  exact ⟨_, rfl, law_post hW' (by kernel_rfl) rfl rfl rfl hb⟩
theorem proved : Rows.JournalRenewsSaid :=
  OpenClaim.holds_of_wide 6 Try.f6 rfl rfl rfl rfl rfl rfl rfl ⟨rfl, rfl, rfl, rfl, rfl⟩ rfl rfl rfl rfl rfl (by kernel_rfl) Try.func6 (by kernel_rfl)
    (of_decide_eq_true (by kernel_rfl)) (by unfold Func.isWrapper; first | (rw [if_pos (by decide +kernel)]; kernel_rfl) | (rw [if_neg (by decide +kernel)]; exact ⟨rfl, rfl⟩))
    (fun os started H enc _ => lifted os started H enc)
#print axioms proved
end lawJournalRenews
end Go.Proofs.Ytcffbgehopjgpaa
