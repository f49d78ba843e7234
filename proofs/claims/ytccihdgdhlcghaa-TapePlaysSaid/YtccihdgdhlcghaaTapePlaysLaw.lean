/- Proved: the law TapePlays answers true for every number, every list of acts that can be handed in, and leaves its arguments as they were. Conditions: none. -/
import Derived.Test.YtccihdgdhlcghaaLaw
import Derived.Test.YtccihdgdhlcghaaTapeStep
import Derived.Test.YtccihdgdhlcghaaTapeArgs
import Derived.Deep.DeepCutAuto
import Derived.RegionTactic
open Go.ChangeShapes Go.WideShapes Go.ChangeAt Go.RowKit
namespace Go.Proofs.Ytccihdgdhlcghaa
namespace lawTapePlays
open Tpe By
set_option maxRecDepth 100000 in
set_option maxHeartbeats 2000000 in
theorem walk_any (cap : Int) (l : List Ac) (m : Nat) (Al : Option Addr) (cl : Nat) (w : World) (hcap : -9223372036854775808 ≤ cap ∧ cap ≤ 9223372036854775807) (hl : AcRd w w.heap.size Al m cl l) (hm : m ≤ maxLen) :
    Calls Try.prog 3 #[.int .i64 cap, .slice Al m cl] w fun e w' => e = .returned (.bool true) ∧ Below w.heap.size w w' := by
  have HL0 := Lib.hid hl
  have HAm := Lib.hid hm
  clear hl hm
  go_enter Try.func3, Try.ntmps3
  go_wp2_with fail
  refine (awake_any w).mono ?_
  rintro e v1 ⟨rfl, hb⟩
  have HBv1 := Lib.hid hb
  clear hb
  have HA := Lib.hid (HL0.out.below HBv1.out)
  go_wp2_with fail
  refine (few_any l m Al cl w.heap.size v1 HA.out (by have h := HAm.out; simp only [maxLen] at h; omega)).mono ?_
  rintro e v2 ⟨b9, rfl, hfew, rfl⟩
  cases b9 with
  | false =>
    clear hfew
    go_wp2_with fail
    refine (awake_any v1).mono ?_
    rintro e v9 ⟨rfl, hb9⟩
    have HB9 := Lib.hid (HBv1.out.trans (hb9.mono HBv1.out.size))
    clear hb9
    go_wp2_with fail
    go_ret
    exact ⟨rfl, HB9.out⟩
  | true =>
    have HF := Lib.hid (hfew.out rfl)
    clear hfew
    by_cases hc : 0 ≤ cap ∧ cap ≤ 1048576
    · have f1 : decide (cap < 0) = false := decide_eq_false (by omega)
      have f2 : decide ((1048576 : Int) < cap) = false := decide_eq_false (by omega)
      go_wp2_with fail
      refine (new_any cap v1 hc).mono ?_
      rintro e v2 ⟨g, rfl, hT, hb⟩
      have HT := Lib.hid hT
      have HB2 := Lib.hid hb
      clear hT hb
      go_wp2_with fail
      refine (refnew_any cap v2 (fun _ => True)).mono ?_
      rintro e v3 ⟨v, rfl, A, n, c, rfl, hlen, hrk, hb⟩
      have hn0 : n = 0 := hlen.symm
      subst hn0
      obtain ⟨V, hV⟩ : ∃ V, V = v3.alloc (.cells #[.int .i64 cap, .slice A 0 c, .int .i64 0, .int .i64 (-1), .bool false] 31) := ⟨_, rfl⟩
      obtain ⟨p, hp⟩ : ∃ p, p = v3.heap.size := ⟨_, rfl⟩
      have hbV : Below v3.heap.size v3 V := by rw [hV]; exact (Below.refl _ _).alloc (Nat.le_refl _) _
      have hbx : BoxD V p (newS cap) A 0 c := by rw [hp]; exact BoxD.new hV
      have hT3 := (HT.out.later hb).later hbV
      have hpg := (HT.out.later hb).free (Nat.le_of_eq hp.symm)
      have HPG := Lib.hid hpg
      have HT3 := Lib.hid hT3
      have HBX := Lib.hid hbx
      have HR3 : Hid (Rd V V.heap.size 1 A 0 c (u8s (newS cap).bs)) := hrk.rd.later hbV
      have HB3 : Hid (Below w.heap.size w V) := ((HBv1.out.trans (HB2.out.mono HBv1.out.size)).trans (hb.mono (HBv1.out.trans (HB2.out.mono HBv1.out.size)).size)).trans (hbV.mono ((HBv1.out.trans (HB2.out.mono HBv1.out.size)).trans (hb.mono (HBv1.out.trans (HB2.out.mono HBv1.out.size)).size)).size)
      have HV := Lib.hid hV
      have HP := Lib.hid hp
      have hgw : w.heap.size ≤ g := Nat.le_trans HBv1.out.size HT.out.lo_.1
      have hpw : w.heap.size ≤ p := by rw [hp]; exact Nat.le_trans hgw (Nat.le_of_lt (HT.out.later hb).lo_.2)
      clear hb hbV hbx hT3 hpg hV hp hrk hlen
      have hok : Ok (newS cap) 0 := ⟨hc, by unfold newS; simp, by unfold newS; simp, by unfold newS; simp⟩
      have HOK := Lib.hid hok
      unfold docV
      go_wp2_with fail
      rw [← HV.out]
      try rw [← HP.out]
      obtain ⟨A1, n1, c1, fb, ah, hta, hoba⟩ := HT3.out
      refine (is_any hta (hok.mono (by omega)) rfl HR3.out).mono ?_
      rintro e v4 ⟨rfl, hb4⟩
      have HT4 := Lib.hid (HT3.out.later hb4)
      have HX4 := Lib.hid (HBX.out.later hb4)
      have HB4 := Lib.hid (HB3.out.trans (hb4.mono HB3.out.size))
      have HK4 : Hid (Rk v4 (fun b => b ≠ g ∧ some b ≠ (none : Option Nat) ∧ b ≠ p) A 0 c (newS cap).bs) := ⟨HR3.out.later hb4, fun h => absurd h (by omega)⟩
      clear hb4 hta hoba HT3 HBX HR3 HB3 hok HT HB2
      go_wp2_with fail
      go_loopw [48] (fun i wr => ∃ (k : Nat) (s : S) (A2 : Option Addr) (n2 c2 : Nat) (ob : Option Nat), i = .int .i64 k ∧ k ≤ m ∧ Hid (Ok s (300 * k)) ∧ Hid (Tp wr v1.heap.size g ob s) ∧ Hid (BoxD wr p s A2 n2 c2) ∧ Hid (Rk wr (fun b => b ≠ g ∧ some b ≠ ob ∧ b ≠ p) A2 n2 c2 s.bs) ∧ Hid (Below w.heap.size w wr) ∧ Hid (some p ≠ ob)) (fun i _ => m - (intOf i).toNat)
      case atStart => exact ⟨0, newS cap, A, 0, c, none, rfl, Nat.zero_le _, HOK, HT4, HX4, HK4, HB4, HPG.out.2⟩
      case round =>
        obtain ⟨k, s, A2, n2, c2, ob, rfl, hk, HS, HTr, HXr, HKr, HBr, HPO⟩ := hrel
        by_cases hlt : k < m
        · have hki : (k : Int) < (m : Int) := by omega
          have hm61 := HF.out.1
          obtain ⟨b, o, x, rfl, hbB, hx, hmem, a0, a1, a2, a3⟩ := (HL0.out.below HBr.out).at_ hlt
          have hxe := (HL0.out.below HBr.out).each x hmem
          have hxn : x.n ≤ 300 := HF.out.2 x hmem
          have hs20 : Ok s 20000 := HS.out.mono (by omega)
          obtain ⟨s2, hs2⟩ : ∃ z, z = (act s x.kd x.b x.m x.y).1 := ⟨_, rfl⟩
          obtain ⟨f2, hf2⟩ : ∃ z, z = (act s x.kd x.b x.m x.y).2 := ⟨_, rfl⟩
          have HS2 : Hid (Ok s2 (300 * (k + 1))) := by unfold Hid; rw [hs2]; exact (HS.out.act (by rw [hxe.1.len8']; exact hxn) hxe.2.2.2).mono (by omega)
          have HMOD : Hid (∀ (V : World) (ok : Nat → Prop), Below wr.heap.size wr V → (∀ b, V.heap.size ≤ b → ok b) → Rk V ok A2 n2 c2 s.bs → Calls Try.prog 13 #[docV s A2 n2 c2, acV x] V fun e w' => ∃ v, e = .returned (.tuple #[v, .int .i64 f2]) ∧ DocIs ok s2 V w' v) := fun V ok hV hok hrk => by
            have h := model_any x hok hrk hs20 ((hxe.1.more (by have := HBr.out.size; omega)).later hV) hxe.2 hxn
            rw [hs2, hf2]
            exact h
          have HACT : Hid (∀ (V : World) (A1 : Option Addr) (n1 c1 : Nat) (fb : Bool) (ah : Int), TpAt V v1.heap.size g s A1 n1 c1 fb ah → Below w.heap.size w V → Calls Try.prog 14 #[.pointer (some ⟨g, 0, none⟩), acV x] V fun e w' => e = .returned (.int .i64 f2) ∧ Did V v1.heap.size g (Value.slice A1 n1 c1).ownBlock s2 w') := fun V A1 n1 c1 fb ah ht hV => by
            have h := act_any x ht hs20 (Nat.le_of_lt (Nat.lt_of_le_of_lt ht.lo_.1 ht.lo_.2)) ⟨(((HL0.out.each x hmem).1.below hV).more hV.size), fun hn => by
              obtain ⟨b, o, e, hb, _⟩ := (HL0.out.each x hmem).1.at_ hn
              exact ⟨b, o, e, by omega⟩⟩ hxe.2 hxn
            rw [hs2, hf2]
            exact h
          have HOKA : Hid (∀ b, wr.heap.size ≤ b → b ≠ g ∧ some b ≠ ob ∧ b ≠ p) := fun b hb => ⟨(HTr.out.free hb).1, (HTr.out.free hb).2, by have := HXr.out.free.1; omega⟩
          have HZ : Hid (Below wr.heap.size wr (wr.alloc (.cells #[.int .i64 0, .slice none 0 0, .int .i64 0, .int .i64 0, .bool false] 31)).drew ∧ (∀ b, (wr.alloc (.cells #[.int .i64 0, .slice none 0 0, .int .i64 0, .int .i64 0, .bool false] 31)).drew.heap.size ≤ b → b ≠ g ∧ some b ≠ ob ∧ b ≠ p ∧ b ≠ wr.heap.size) ∧ Rk (wr.alloc (.cells #[.int .i64 0, .slice none 0 0, .int .i64 0, .int .i64 0, .bool false] 31)).drew (fun b => b ≠ g ∧ some b ≠ ob ∧ b ≠ p ∧ b ≠ wr.heap.size) A2 n2 c2 s.bs ∧ BoxD (wr.alloc (.cells #[.int .i64 0, .slice none 0 0, .int .i64 0, .int .i64 0, .bool false] 31)).drew wr.heap.size ⟨0, [], 0, 0, false⟩ none 0 0) := zero_box HOKA.out HKr.out
          clear hs2 hf2 hxe
          unfold docV acV at HMOD
          unfold acV at HACT
          have k0 := HXr.out.c0
          have k1 := HXr.out.c1
          have k2 := HXr.out.c2
          have k3 := HXr.out.c3
          have k4 := HXr.out.c4
          have hbwr : b < wr.heap.size := Nat.lt_of_lt_of_le hbB HBr.out.size
          have hpwr : p < wr.heap.size := HXr.out.free.1
          go_wp2_with fail
          go_cut [9, 10] (fun s9 s10 wx => ∃ (q : Nat) (A3 : Option Addr) (n3 c3 : Nat), s9 = .pointer (some ⟨q, 0, none⟩) ∧ s10 = .int .i64 f2 ∧ Hid (Below wr.heap.size wr wx ∧ wr.heap.size ≤ q ∧ BoxD wx q s2 A3 n3 c3 ∧ s2.bs.length = n3 ∧ Rk wx (fun b => b ≠ g ∧ some b ≠ ob ∧ b ≠ p) A3 n3 c3 s2.bs))
          case first =>
            go_region_with (first
              | (refine (HMOD.out wr.drew (fun b => b ≠ g ∧ some b ≠ ob ∧ b ≠ p) (bel_drewN (Below.refl _ _) 1) HOKA.out (HKr.out.later (bel_drewN (Below.refl _ _) 1))).mono ?_
                 rintro e w5 ⟨v, rfl, A3, n3, c3, rfl, hl3, hr3, hb3⟩
                 unfold docV)
              | (refine (HMOD.out (wr.alloc (.cells #[.int .i64 0, .slice none 0 0, .int .i64 0, .int .i64 0, .bool false] 31)).drew (fun b => b ≠ g ∧ some b ≠ ob ∧ b ≠ p ∧ b ≠ wr.heap.size) HZ.out.1 HZ.out.2.1 HZ.out.2.2.1).mono ?_
                 rintro e w5 ⟨v, rfl, A3, n3, c3, rfl, hl3, hr3, hb3⟩
                 unfold docV
                 have HZ5 := Lib.hid (HZ.out.2.2.2.later hb3)
                 have y0 := HZ5.out.c0
                 have y1 := HZ5.out.c1
                 have y2 := HZ5.out.c2
                 have y3 := HZ5.out.c3
                 have y4 := HZ5.out.c4
                 have r0 := HZ5.out.free.2 0
                 have r1 := HZ5.out.free.2 1
                 have r2 := HZ5.out.free.2 2
                 have r3 := HZ5.out.free.2 3
                 have r4 := HZ5.out.free.2 4))
            all_goals (
              go_wp2_with fail
              go_meet
              first
                | exact ⟨w5.heap.size, A3, n3, c3, rfl, rfl, ((bel_drewN (Below.refl _ _) 1).trans hb3).trans (((Below.refl _ _).alloc (Nat.le_refl _) _).mono hb3.size), hb3.size, BoxD.new rfl, hl3, hr3.later ((Below.refl _ _).alloc (Nat.le_refl _) _)⟩
                | (obtain ⟨w6, hw6⟩ : ∃ W, W = ((((w5.setCell ⟨wr.heap.size, 0, none⟩ (.int .i64 s2.cap)).setCell ⟨wr.heap.size, 1, none⟩ (.slice A3 n3 c3)).setCell ⟨wr.heap.size, 2, none⟩ (.int .i64 s2.sf)).setCell ⟨wr.heap.size, 3, none⟩ (.int .i64 s2.fu)).setCell ⟨wr.heap.size, 4, none⟩ (.bool s2.lo) := ⟨_, rfl⟩
                   rw [← hw6]
                   obtain ⟨hbd, ht6⟩ := HZ5.out.set hw6
                   have hr6 := (hr3.two ht6 fun b hb _ => ⟨hb.2.2.2, by simp⟩).mono (ok' := fun b => b ≠ g ∧ some b ≠ ob ∧ b ≠ p) fun b hb _ => ⟨hb.1, hb.2.1, hb.2.2.1⟩
                   have hb6 : Below wr.heap.size wr w6 := (HZ.out.1.trans (hb3.mono HZ.out.1.size)).trans (ht6.below (Nat.le_refl _) (fun k hk => by cases hk) (Nat.le_trans HZ.out.1.size hb3.size))
                   exact ⟨wr.heap.size, A3, n3, c3, rfl, rfl, hb6, Nat.le_refl _, hbd, hl3, hr6⟩))
          case rest =>
            obtain ⟨u, hu⟩ : ∃ W, W = wc := ⟨_, rfl⟩
            subst hu
            obtain ⟨q, A3, n3, c3, rfl, rfl, hcc⟩ := hcut
            obtain ⟨hbu, hwq, hqb, hl3, hr3⟩ := hcc.out
            have HTu := Lib.hid (HTr.out.later hbu)
            have HXu := Lib.hid (HXr.out.later hbu)
            have HBu := Lib.hid (HBr.out.trans (hbu.mono HBr.out.size))
            have HQu := Lib.hid hqb
            have HRu := Lib.hid hr3
            have HL3 := Lib.hid hl3
            have a0 := (hbu.cell (p := ⟨b, o + k * 4, none⟩) hbwr).trans a0
            have a1 := (hbu.cell (p := ⟨b, o + k * 4 + 1, none⟩) hbwr).trans a1
            have a2 := (hbu.cell (p := ⟨b, o + k * 4 + 2, none⟩) hbwr).trans a2
            have a3 := (hbu.cell (p := ⟨b, o + k * 4 + 3, none⟩) hbwr).trans a3
            have hqg := HTr.out.free hwq
            have HQG := Lib.hid hqg
            have hqp : p ≠ q := by have := HXr.out.free.1; omega
            clear hbu hwq hqb hl3 hr3 hcc hqg HMOD HZ HOKA k0 k1 k2 k3 k4 hbwr hpwr
            obtain ⟨A1, n1, c1, fb1, ah1, hta1, hob1⟩ := HTu.out
            have HCA := Lib.hid (HACT.out u A1 n1 c1 fb1 ah1 hta1 HBu.out)
            rw [hob1] at HCA
            clear hta1 hob1 HACT
            go_wp2_with fail
            refine HCA.out.mono ?_
            rintro e u2 ⟨rfl, ob2, hT2, ht2, hfr2⟩
            have HT2 := Lib.hid hT2
            have HX2 := Lib.hid (HXu.out.two ht2 HPG.out.1 HPO.out)
            have HQ2 := Lib.hid (HQu.out.two ht2 HQG.out.1 HQG.out.2)
            have HR2 := Lib.hid (HRu.out.did ht2 hfr2)
            have HB2 : Hid (Below w.heap.size w u2) := HBu.out.trans (ht2.below hgw (fun j hj => Nat.le_trans HBv1.out.size (HTu.out.obl j hj).1) HBu.out.size)
            have HPO2 : Hid (some p ≠ ob2) := Fresh.ne hfr2 HPO.out HXu.out.free.1
            have y0 := HQ2.out.c0
            have y1 := HQ2.out.c1
            have y2 := HQ2.out.c2
            have y3 := HQ2.out.c3
            have y4 := HQ2.out.c4
            clear hT2 ht2 hfr2 HCA a0 a1 a2 a3
            obtain ⟨A4, n4, c4, fb4, ah4, hta4, hob4⟩ := HT2.out
            have HIS := Lib.hid (is_any hta4 (HS2.out.mono (by omega)) HL3.out HR2.out.rd)
            unfold docV at HIS
            clear hta4 hob4
            go_wp2_with fail
            refine HIS.out.mono ?_
            rintro e u3 ⟨rfl, hb3⟩
            have HT3 := Lib.hid (HT2.out.later hb3)
            have HX3 := Lib.hid (HX2.out.later hb3)
            have HQ3 := Lib.hid (HQ2.out.later hb3)
            have HR3 := Lib.hid (HR2.out.later hb3)
            have HB3 := Lib.hid (HB2.out.trans (hb3.mono HB2.out.size))
            clear hb3 HIS y0 y1 y2 y3 y4
            have y0 := HQ3.out.c0
            have y1 := HQ3.out.c1
            have y2 := HQ3.out.c2
            have y3 := HQ3.out.c3
            have y4 := HQ3.out.c4
            have x0 := HX3.out.c0
            have x1 := HX3.out.c1
            have x2 := HX3.out.c2
            have x3 := HX3.out.c3
            have x4 := HX3.out.c4
            have m0 := HX3.out.free.2 0
            have m1 := HX3.out.free.2 1
            have m2 := HX3.out.free.2 2
            have m3 := HX3.out.free.2 3
            have m4 := HX3.out.free.2 4
            go_wp2_with fail
            obtain ⟨u4, hu4⟩ : ∃ W, W = ((((u3.setCell ⟨p, 0, none⟩ (.int .i64 s2.cap)).setCell ⟨p, 1, none⟩ (.slice A3 n3 c3)).setCell ⟨p, 2, none⟩ (.int .i64 s2.sf)).setCell ⟨p, 3, none⟩ (.int .i64 s2.fu)).setCell ⟨p, 4, none⟩ (.bool s2.lo) := ⟨_, rfl⟩
            rw [← hu4]
            obtain ⟨hx4, ht4⟩ := HX3.out.set hu4
            have HX4n := Lib.hid hx4
            have HT4n : Hid (Tp u4 v1.heap.size g ob2 s2) := HT3.out.two ht4 HPG.out.1.symm (by simp) fun j hj => ⟨fun e => HPO2.out (by rw [hj, e]), by simp⟩
            have HR4n : Hid (Rk u4 (fun b => b ≠ g ∧ some b ≠ ob2 ∧ b ≠ p) A3 n3 c3 s2.bs) := HR3.out.two ht4 fun b hb _ => ⟨hb.2.2, by simp⟩
            have HB4n : Hid (Below w.heap.size w u4) := HB3.out.trans (ht4.below hpw (fun j hj => by cases hj) HB3.out.size)
            clear hx4 ht4 hu4 x0 x1 x2 x3 x4 y0 y1 y2 y3 y4 m0 m1 m2 m3 m4
            go_roundw
            case rel => exact ⟨k + 1, s2, A3, n3, c3, ob2, by go_num, by omega, HS2.out, HT4n, HX4n, HR4n, HB4n, HPO2⟩
            case measure => simp [intOf]; omega
        · have hki : ¬ ((k : Int) < (m : Int)) := by omega
          obtain rfl : k = m := by omega
          go_wp2_with fail
          go_ret
          exact ⟨rfl, HBr.out⟩
    · by_cases hc2 : cap < 0
      · have f1 : decide (cap < 0) = true := decide_eq_true hc2
        go_wp2_with fail
        refine (new_bad cap v1 hc).mono ?_
        rintro e v2 ⟨rfl, rfl⟩
        go_wp2_with fail
        go_ret
        exact ⟨by first | rfl | simp, HBv1.out⟩
      · have f1 : decide (cap < 0) = false := decide_eq_false hc2
        have f2 : decide ((1048576 : Int) < cap) = true := decide_eq_true (by omega)
        go_wp2_with fail
        refine (new_bad cap v1 hc).mono ?_
        rintro e v2 ⟨rfl, rfl⟩
        go_wp2_with fail
        go_ret
        exact ⟨by first | rfl | simp, HBv1.out⟩
set_option maxRecDepth 100000 in
theorem lifted (os : Os) (started : os.Started) (H : Type) (enc : TypeId × Value → H) :
    ReturnsInHanded {} Try.checked os 3 .any (Rows.tapePlaysSpec.pre6 enc Try.prog Try.f3 Rows.tapePlaysRow.domain false) (Rows.tapePlaysSpec.post enc Try.prog Try.f3 false true false false) := by
  refine returnsInHanded_of_change (C := Try.checked) own started (by kernel_rfl) Try.func3
    (ChangeSpec.witness6 (enc := enc) (C := Try.checked) false ⟨#[], #[.int .i64 0, .slice none 0 0], []⟩ 8 (by kernel_rfl) (by kernel_rfl) (by kernel_rfl) (by kernel_rfl)) ?_
  intro W base args ds gs before hval0 hW _ _
  have hval : ∀ (j : Nat) t v, Try.f3.params[j]? = some t → args[j]? = some v → Value.okWide Try.prog W .any base t v := hval0
  have hW' := hW
  obtain ⟨p, q, hA0, hV, rfl, hfz, hnd⟩ := hW
  have hA : DataW.TrodAll enc Try.prog W 0 (fun _ => true) true Try.f3.params.toList args.toList ds p := hA0
  rw [Try.params3] at hA hval
  obtain ⟨v0, v1, d0, d1, p0, p1, rfl, rfl, rfl, h0, h1⟩ := trodAll_two hA
  obtain ⟨rfl, rfl⟩ := trodVars_none hV
  obtain ⟨x0, rfl, rfl, rfl, w0⟩ := open_int Try.underlying3 (hval 0 3 v0 rfl rfl) h0
  obtain ⟨a1, len1, cap1, rfl⟩ := okWide_slice Try.underlying22 (hval 1 22 v1 rfl rfl)
  obtain ⟨fuel1, hf1⟩ := h1
  obtain ⟨l1, hl1, hm1⟩ := Tpe.acts_of_trod hf1
  refine (walk_any x0 l1 len1 a1 cap1 W (By.wf_i64 w0) hl1 hm1).mono fun e W' ⟨he, hb⟩ => ?_
  subst he
  exact ⟨_, rfl, law_post hW' (by kernel_rfl) rfl rfl rfl hb⟩
theorem proved : Rows.TapePlaysSaid :=
  OpenClaim.holds_of_wide 3 Try.f3 rfl rfl rfl rfl rfl rfl rfl ⟨rfl, rfl, rfl, rfl, rfl⟩ rfl rfl rfl rfl rfl (by kernel_rfl) Try.func3 (by kernel_rfl)
    (of_decide_eq_true (by kernel_rfl)) (by unfold Func.isWrapper; first | (rw [if_pos (by decide +kernel)]; kernel_rfl) | (rw [if_neg (by decide +kernel)]; exact ⟨rfl, rfl⟩))
    (fun os started H enc _ => lifted os started H enc)
#print axioms proved
end lawTapePlays
end Go.Proofs.Ytccihdgdhlcghaa
