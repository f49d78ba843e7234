/- Proved: the law TapeFuses answers true for every list of acts, every byte that can be handed in, and leaves its arguments as they were. Conditions: none. -/
import Derived.Test.YtccihdgdhlcghaaLaw
import Derived.Test.YtccihdgdhlcghaaTapeStep
import Derived.Test.YtccihdgdhlcghaaTapeArgs
open Go.ChangeShapes Go.WideShapes Go.ChangeAt Go.RowKit
namespace Go.Proofs.Ytccihdgdhlcghaa
namespace lawTapeFuses
open Tpe By
set_option maxRecDepth 100000 in
set_option maxHeartbeats 2000000 in
theorem walk_any (l : List Ac) (m : Nat) (Al : Option Addr) (cl : Nat) (nn : Int) (w : World) (hl : AcRd w w.heap.size Al m cl l) (hm : m ≤ maxLen) (hnn : 0 ≤ nn ∧ nn ≤ 255) :
    Calls Try.prog 5 #[.slice Al m cl, .int .u8 nn] w fun e w' => e = .returned (.bool true) ∧ Below w.heap.size w w' := by
  have HL0 := Lib.hid hl
  have HAm := Lib.hid hm
  clear hl hm
  obtain ⟨n, rfl⟩ := Int.eq_ofNat_of_zero_le hnn.1
  go_enter Try.func5, Try.ntmps5
  go_wp2_with fail
  refine (awake_any w).mono ?_
  rintro e v1 ⟨rfl, hb⟩
  have HBv1 := Lib.hid hb
  clear hb
  have HA := Lib.hid (HL0.out.below HBv1.out)
  go_wp2_with fail
  refine (few_any l m Al cl w.heap.size v1 HA.out (by have h := HAm.out; simp only [maxLen] at h; omega)).mono ?_
  rintro e v2 ⟨b9, rfl, hfew, rfl⟩
  cases b9 with
  | false =>
    clear hfew
    go_wp2_with fail
    refine (awake_any v1).mono ?_
    rintro e v9 ⟨rfl, hb9⟩
    have HB9 := Lib.hid (HBv1.out.trans (hb9.mono HBv1.out.size))
    clear hb9
    go_wp2_with fail
    go_ret
    exact ⟨rfl, HB9.out⟩
  | true =>
    have HF := Lib.hid (hfew.out rfl)
    clear hfew
    go_wp2_with fail
    refine (new_any 1048576 v1 (by omega)).mono ?_
    rintro e v2 ⟨g, rfl, hT, hb⟩
    have HT := Lib.hid hT
    have HB2 : Hid (Below w.heap.size w v2) := HBv1.out.trans (hb.mono HBv1.out.size)
    have hgw : w.heap.size ≤ g := Nat.le_trans HBv1.out.size hT.lo_.1
    clear hT hb
    have hok : Ok (newS 1048576) 0 := ⟨by unfold newS; dsimp only; omega, by unfold newS; simp, by unfold newS; simp, by unfold newS; simp⟩
    have HOK := Lib.hid hok
    clear hok
    go_wp2_with fail
    obtain ⟨A0, n0, c0, fb0, ah0, hta0, hob0⟩ := HT.out
    have e1 : Tpe.arm (newS 1048576) (n : Int) = (⟨1048576, [], 0, (n : Int), false⟩, 0) := by
      have h0 : ¬ ((n : Int) < 0) := by omega
      unfold Tpe.arm newS
      simp [h0]
    have HFU := Lib.hid (fuse_any (n : Int) hta0 (by omega))
    rw [e1, hob0] at HFU
    clear e1 hta0 hob0
    refine HFU.out.mono ?_
    rintro e v3 ⟨rfl, ob1, hT1, ht1, hfr1⟩
    have HT1 := Lib.hid hT1
    have HB3 : Hid (Below w.heap.size w v3) := HB2.out.trans (ht1.below hgw (fun j hj => by cases hj) HB2.out.size)
    have HFS : Hid (Fused ⟨1048576, [], 0, (n : Int), false⟩ n 0) := .inl ⟨rfl, Nat.zero_le _, by simp⟩
    have HOK1 : Hid (Ok ⟨1048576, [], 0, (n : Int), false⟩ 0) := ⟨by dsimp only; omega, by simp, by simp, by dsimp only; omega⟩
    clear hT1 ht1 hfr1 HFU
    go_wp2_with fail
    go_loopw [7, 34] (fun v i wr => ∃ (k d : Nat) (s : S) (ob : Option Nat), v = .int .i64 d ∧ i = .int .i64 k ∧ k ≤ m ∧ d ≤ k ∧ Hid (s.cap = 1048576) ∧ Hid (Fused s n d) ∧ Hid (Ok s (300 * k)) ∧ Hid (Tp wr v1.heap.size g ob s) ∧ Hid (Below w.heap.size w wr)) (fun _ i _ => m - (intOf i).toNat)
    case atStart => exact ⟨0, 0, ⟨1048576, [], 0, (n : Int), false⟩, ob1, rfl, rfl, Nat.zero_le _, Nat.zero_le _, Lib.hid rfl, HFS, HOK1, HT1, HB3⟩
    case round =>
      obtain ⟨k, d, s, ob, rfl, rfl, hk, hdk, HCP, HFS, HS, HTr, HBr⟩ := hrel
      by_cases hlt : k < m
      · have hki : (k : Int) < (m : Int) := by omega
        have hm61 := HF.out.1
        obtain ⟨b, o, x, rfl, hbB, hx, hmem, a0, a1, a2, a3⟩ := (HL0.out.below HBr.out).at_ hlt
        have hxe := (HL0.out.below HBr.out).each x hmem
        have hxn : x.n ≤ 300 := HF.out.2 x hmem
        have hs20 : Ok s 20000 := HS.out.mono (by omega)
        obtain ⟨r3, hr3⟩ : ∃ r, x.kd % 3 = r := ⟨_, rfl⟩
        have hkd0 := hxe.2.1
        have hr30 : 0 ≤ r3 ∧ r3 ≤ 2 := by omega
        have hr31 : r3 = 0 ∨ r3 = 1 ∨ r3 = 2 := by omega
        have htm : x.kd.tmod 3 = r3 := by rw [Int.tmod_eq_emod_of_nonneg hkd0.1]; exact hr3
        have hw3 : IntKind.u8.wrap r3 = r3 := IntWalk.u8_in _ (by omega)
        obtain ⟨s2, hs2⟩ : ∃ z, z = (act s r3 x.b x.m x.y).1 := ⟨_, rfl⟩
        obtain ⟨f2, hf2⟩ : ∃ z, z = (act s r3 x.b x.m x.y).2 := ⟨_, rfl⟩
        have hxb : x.b.length ≤ 300 := by rw [hxe.1.len8']; exact hxn
        have HS2 : Hid (Ok s2 (300 * (k + 1))) := by unfold Hid; rw [hs2]; exact (HS.out.act hxb hxe.2.2.2).mono (by omega)
        have HCP2 : Hid (s2.cap = 1048576) := by unfold Hid; rw [hs2, act_cap]; exact HCP.out
        have hfz : (f2 = 0 ∧ d < n ∧ Fused s2 n (d + 1)) ∨ (f2 = 9 ∧ ¬ d < n ∧ s2.lo = true ∧ Fused s2 n d) := by rw [hs2, hf2]; exact act_fused hs20 HFS.out hr31 hxb (by omega) HCP.out
        obtain ⟨V, hV⟩ : ∃ V, V = wr.alloc (.cells #[.int .u8 r3, .slice x.A x.n x.c, .int .i64 x.m, .int .u8 x.y.toNat] 37) := ⟨_, rfl⟩
        have hbV : Below wr.heap.size wr V := by rw [hV]; exact (Below.refl _ _).alloc (Nat.le_refl _) _
        have HBV : Hid (Below w.heap.size w V) := HBr.out.trans (hbV.mono HBr.out.size)
        have HTV := Lib.hid (HTr.out.later hbV)
        obtain ⟨A1, n1, c1, fb1, ah1, hta1, hob1⟩ := HTV.out
        have HCA : Hid (Calls Try.prog 14 #[.pointer (some ⟨g, 0, none⟩), .agg #[.int .u8 r3, .slice x.A x.n x.c, .int .i64 x.m, .int .u8 x.y.toNat]] V fun e w' => e = .returned (.int .i64 f2) ∧ Did V v1.heap.size g ob s2 w') := by
          have h := act_any ⟨r3, x.b, x.m, x.y, x.A, x.n, x.c⟩ hta1 hs20 (Nat.le_of_lt (Nat.lt_of_le_of_lt hta1.lo_.1 hta1.lo_.2)) ⟨(((HL0.out.each x hmem).1.below HBV.out).more HBV.out.size), fun hn => by
            obtain ⟨b, o, e, hb, _⟩ := (HL0.out.each x hmem).1.at_ hn
            exact ⟨b, o, e, by omega⟩⟩ ⟨⟨hr30.1, by dsimp only; omega⟩, hxe.2.2⟩ hxn
          rw [hob1] at h
          rw [hs2, hf2]
          exact h
        have HV := Lib.hid hV
        have hbwr : b < wr.heap.size := Nat.lt_of_lt_of_le hbB HBr.out.size
        clear hs2 hf2 hxe hta1 hob1 hV hbV hr3 hx
        go_wp2_with fail
        rw [← HV.out]
        refine HCA.out.mono ?_
        rintro e u2 ⟨rfl, ob2, hT2, ht2, hfr2⟩
        have HT2 := Lib.hid hT2
        have HB2 : Hid (Below w.heap.size w u2) := HBV.out.trans (ht2.below hgw (fun j hj => Nat.le_trans HBv1.out.size (HTV.out.obl j hj).1) HBV.out.size)
        clear hT2 ht2 hfr2 HCA a0 a1 a2 a3 htm hw3 hbwr
        rcases hfz with ⟨rfl, hdn, hfz⟩ | ⟨rfl, hdn, hlo, hfz⟩
        · have d1 : decide ((d : Int) < (n : Int)) = true := decide_eq_true (by omega)
          have d2 : decide (d < n) = true := decide_eq_true hdn
          have HFZ := Lib.hid hfz
          clear hfz hdn
          go_wp2_with fail
          go_roundw
          case rel => exact ⟨k + 1, d + 1, s2, ob2, by go_num, by go_num, by omega, by omega, HCP2, HFZ, HS2, HT2, HB2⟩
          case measure => simp [intOf]; omega
        · have d1 : decide ((d : Int) < (n : Int)) = false := decide_eq_false (by omega)
          have d2 : decide (d < n) = false := decide_eq_false hdn
          have HFZ := Lib.hid hfz
          obtain ⟨A4, n4, c4, fb4, ah4, hta4, hob4⟩ := HT2.out
          have HLS := Lib.hid (lost_any hta4)
          rw [hlo] at HLS
          clear hfz hdn hlo hta4 hob4
          go_wp2_with fail
          refine HLS.out.mono ?_
          rintro e u9 ⟨rfl, rfl⟩
          go_wp2_with fail
          go_roundw
          case rel => exact ⟨k + 1, d, s2, ob2, rfl, by go_num, by omega, by omega, HCP2, HFZ, HS2, HT2, HB2⟩
          case measure => simp [intOf]; omega
      · have hki : ¬ ((k : Int) < (m : Int)) := by omega
        obtain rfl : k = m := by omega
        have hm61 := HF.out.1
        obtain ⟨A4, n4, c4, fb4, ah4, hta4, hob4⟩ := HTr.out
        have HRST := Lib.hid (restart_any 0 hta4 (by have h1 := hta4.len; have h2 := HS.out.sf; omega) (by have h1 := hta4.len; have h2 := HS.out.len; omega) (by omega) 0)
        rw [hob4, show (((0 : UInt8).toNat : Nat) : Int) = 0 from rfl] at HRST
        clear hta4 hob4
        go_wp2_with fail
        refine HRST.out.mono ?_
        rintro e u2 ⟨rfl, ob2, hT2, ht2, hfr2⟩
        have HB2 : Hid (Below w.heap.size w u2) := HBr.out.trans (ht2.below hgw (fun j hj => Nat.le_trans HBv1.out.size (HTr.out.obl j hj).1) HBr.out.size)
        have hT9 := hT2
        obtain ⟨A6, n6, c6, fb6, ah6, hta6, hob6⟩ := hT2
        have hs6 : (syn (rst s 0 0)).2 = 0 := by unfold syn rst; simp
        have HLS := Lib.hid (lost_any hta6)
        have HSY := Lib.hid (sync_any hta6 (by unfold rst; dsimp only; omega))
        rw [hs6, hob6] at HSY
        have HT9 := Lib.hid hT9
        clear hta6 hob6 ht2 hfr2 hs6 HRST hT9
        go_wp2_with fail
        refine HLS.out.mono ?_
        rintro e u9 ⟨rfl, rfl⟩
        go_wp2_with fail
        refine HSY.out.mono ?_
        rintro e u5 ⟨rfl, ob5, hT5, ht5, hfr5⟩
        have HB5 : Hid (Below w.heap.size w u5) := HB2.out.trans (ht5.below hgw (fun j hj => Nat.le_trans HBv1.out.size (HT9.out.obl j hj).1) HB2.out.size)
        clear hT5 ht5 hfr5
        go_wp2_with fail
        go_ret
        exact ⟨by first | rfl | simp, HB5.out⟩
set_option maxRecDepth 100000 in
theorem lifted (os : Os) (started : os.Started) (H : Type) (enc : TypeId × Value → H) :
    ReturnsInHanded {} Try.checked os 5 .any (Rows.tapeFusesSpec.pre6 enc Try.prog Try.f5 Rows.tapeFusesRow.domain false) (Rows.tapeFusesSpec.post enc Try.prog Try.f5 false true false false) := by
  refine returnsInHanded_of_change (C := Try.checked) own started (by kernel_rfl) Try.func5
    (ChangeSpec.witness6 (enc := enc) (C := Try.checked) false ⟨#[], #[.slice none 0 0, .int .u8 0], []⟩ 8 (by kernel_rfl) (by kernel_rfl) (by kernel_rfl) (by kernel_rfl)) ?_
  intro W base args ds gs before hval0 hW _ _
  have hval : ∀ (j : Nat) t v, Try.f5.params[j]? = some t → args[j]? = some v → Value.okWide Try.prog W .any base t v := hval0
  have hW' := hW
  obtain ⟨p, q, hA0, hV, rfl, hfz, hnd⟩ := hW
  have hA : DataW.TrodAll enc Try.prog W 0 (fun _ => true) true Try.f5.params.toList args.toList ds p := hA0
  rw [Try.params5] at hA hval
  obtain ⟨v0, v1, d0, d1, p0, p1, rfl, rfl, rfl, h0, h1⟩ := trodAll_two hA
  obtain ⟨rfl, rfl⟩ := trodVars_none hV
  obtain ⟨a0, len0, cap0, rfl⟩ := okWide_slice Try.underlying22 (hval 0 22 v0 rfl rfl)
  obtain ⟨fuel0, hf0⟩ := h0
  obtain ⟨l0, hl0, hm0⟩ := Tpe.acts_of_trod hf0
  obtain ⟨x1, rfl, rfl, rfl, w1⟩ := open_int Try.underlying5 (hval 1 5 v1 rfl rfl) h1
  refine (walk_any l0 len0 a0 cap0 x1 W hl0 hm0 (By.wf_u8 w1)).mono fun e W' ⟨he, hb⟩ => ?_
  subst he
  exact ⟨_, rfl, law_post hW' (by kernel_rfl) rfl rfl rfl hb⟩
theorem proved : Rows.TapeFusesSaid :=
  OpenClaim.holds_of_wide 5 Try.f5 rfl rfl rfl rfl rfl rfl rfl ⟨rfl, rfl, rfl, rfl, rfl⟩ rfl rfl rfl rfl rfl (by kernel_rfl) Try.func5 (by kernel_rfl)
    (of_decide_eq_true (by kernel_rfl)) (by unfold Func.isWrapper; first | (rw [if_pos (by decide +kernel)]; kernel_rfl) | (rw [if_neg (by decide +kernel)]; exact ⟨rfl, rfl⟩))
    (fun os started H enc _ => lifted os started H enc)
#print axioms proved
end lawTapeFuses
end Go.Proofs.Ytccihdgdhlcghaa
