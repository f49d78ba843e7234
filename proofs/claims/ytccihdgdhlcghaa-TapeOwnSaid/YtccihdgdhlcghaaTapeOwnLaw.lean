/- Proved: the law TapeOwn answers true for every list of acts, every list of acts that can be handed in, and leaves its arguments as they were. Conditions: none. -/
import Derived.Test.YtccihdgdhlcghaaLaw
import Derived.Test.YtccihdgdhlcghaaTapeStep
import Derived.Test.YtccihdgdhlcghaaTapeArgs
import Derived.Deep.DeepCutAuto
import Derived.RegionTactic
open Go.ChangeShapes Go.WideShapes Go.ChangeAt Go.RowKit
namespace Go.Proofs.Ytccihdgdhlcghaa
namespace lawTapeOwn
open Tpe By
set_option maxRecDepth 100000 in
set_option maxHeartbeats 8000000 in
theorem walk_any (l : List Ac) (m : Nat) (Al : Option Addr) (cl : Nat) (l9 : List Ac) (m9 : Nat) (Al9 : Option Addr) (cl9 : Nat) (w : World) (hl : AcRd w w.heap.size Al m cl l) (hm : m ≤ maxLen) (hl9 : AcRd w w.heap.size Al9 m9 cl9 l9) (hm9 : m9 ≤ maxLen) :
    Calls Try.prog 6 #[.slice Al m cl, .slice Al9 m9 cl9] w fun e w' => e = .returned (.bool true) ∧ Below w.heap.size w w' := by
  have HL0 := Lib.hid hl
  have HAm := Lib.hid hm
  have HL9 := Lib.hid hl9
  have HA9m := Lib.hid hm9
  clear hl hm hl9 hm9
  go_enter Try.func6, Try.ntmps6
  go_wp2_with fail
  refine (awake_any w).mono ?_
  rintro e v1 ⟨rfl, hb⟩
  have HBv1 := Lib.hid hb
  clear hb
  have HA := Lib.hid (HL0.out.below HBv1.out)
  have HA9 := Lib.hid (HL9.out.below HBv1.out)
  go_wp2_with fail
  refine (few_any l m Al cl w.heap.size v1 HA.out (by have h := HAm.out; simp only [maxLen] at h; omega)).mono ?_
  rintro e v2 ⟨b9, rfl, hfew, rfl⟩
  cases b9 with
  | false =>
    clear hfew
    go_wp2_with fail
    refine (awake_any v1).mono ?_
    rintro e v9 ⟨rfl, hb9⟩
    have HB9 := Lib.hid (HBv1.out.trans (hb9.mono HBv1.out.size))
    clear hb9
    go_wp2_with fail
    go_ret
    exact ⟨rfl, HB9.out⟩
  | true =>
    have HF := Lib.hid (hfew.out rfl)
    clear hfew
    go_wp2_with fail
    refine (few_any l9 m9 Al9 cl9 w.heap.size v1 HA9.out (by have h := HA9m.out; simp only [maxLen] at h; omega)).mono ?_
    rintro e v2 ⟨b9, rfl, hfew, rfl⟩
    cases b9 with
    | false =>
      clear hfew
      go_wp2_with fail
      refine (awake_any v1).mono ?_
      rintro e v9 ⟨rfl, hb9⟩
      have HB9 := Lib.hid (HBv1.out.trans (hb9.mono HBv1.out.size))
      clear hb9
      go_wp2_with fail
      go_ret
      exact ⟨rfl, HB9.out⟩
    | true =>
      have HF9 := Lib.hid (hfew.out rfl)
      clear hfew
      go_wp2_with fail
      refine (new_any 9000 v1 (by omega)).mono ?_
      rintro e v2 ⟨g, rfl, hT, hb⟩
      have HT := Lib.hid hT
      have HB2 : Hid (Below w.heap.size w v2) := HBv1.out.trans (hb.mono HBv1.out.size)
      have hgw : w.heap.size ≤ g := Nat.le_trans HBv1.out.size hT.lo_.1
      clear hT hb
      have hok : Ok (newS 9000) 0 := ⟨by unfold newS; dsimp only; omega, by unfold newS; simp, by unfold newS; simp, by unfold newS; simp⟩
      have HOK := Lib.hid hok
      clear hok
      go_wp2_with fail
      refine (refnew_any 9000 v2 (fun _ => True)).mono ?_
      rintro e v3 ⟨v, rfl, A, n, c, rfl, hlen, hrk, hb⟩
      have hn0 : n = 0 := hlen.symm
      subst hn0
      obtain ⟨V, hV⟩ : ∃ V, V = v3.alloc (.cells #[.int .i64 9000, .slice A 0 c, .int .i64 0, .int .i64 (-1), .bool false] 31) := ⟨_, rfl⟩
      obtain ⟨p, hp⟩ : ∃ p, p = v3.heap.size := ⟨_, rfl⟩
      have hbV : Below v3.heap.size v3 V := by rw [hV]; exact (Below.refl _ _).alloc (Nat.le_refl _) _
      have hbx : BoxD V p (newS 9000) A 0 c := by rw [hp]; exact BoxD.new hV
      have hpg := (HT.out.later hb).free (Nat.le_of_eq hp.symm)
      have HPG := Lib.hid hpg
      have HT3 := Lib.hid ((HT.out.later hb).later hbV)
      have HBX := Lib.hid hbx
      have HK4 : Hid (Rk V (fun b => b ≠ g ∧ some b ≠ (none : Option Nat) ∧ b ≠ p) A 0 c (newS 9000).bs) := ⟨hrk.rd.later hbV, fun h => absurd h (by omega)⟩
      have HB3 : Hid (Below w.heap.size w V) := (HB2.out.trans (hb.mono HB2.out.size)).trans (hbV.mono (HB2.out.trans (hb.mono HB2.out.size)).size)
      have HV := Lib.hid hV
      have HP := Lib.hid hp
      have hpw : w.heap.size ≤ p := by rw [hp]; exact Nat.le_trans hgw (Nat.le_of_lt (HT.out.later hb).lo_.2)
      clear hb hbV hbx hpg hV hp hrk hlen HT HB2
      unfold docV
      go_wp2_with fail
      rw [← HV.out]
      try rw [← HP.out]
      go_loopw [39] (fun i wr => ∃ (k : Nat) (s : S) (A2 : Option Addr) (n2 c2 : Nat) (ob : Option Nat), i = .int .i64 k ∧ k ≤ m ∧ Hid (Ok s (300 * k)) ∧ Hid (Tp wr v1.heap.size g ob s) ∧ Hid (BoxD wr p s A2 n2 c2) ∧ Hid (Rk wr (fun b => b ≠ g ∧ some b ≠ ob ∧ b ≠ p) A2 n2 c2 s.bs) ∧ Hid (Below w.heap.size w wr) ∧ Hid (some p ≠ ob) ∧ Hid (s.bs.length = n2) ∧ Hid (s.cap = 9000)) (fun i _ => m - (intOf i).toNat)
      case atStart => exact ⟨0, newS 9000, A, 0, c, none, rfl, Nat.zero_le _, HOK, HT3, HBX, HK4, HB3, HPG.out.2, Lib.hid rfl, Lib.hid rfl⟩
      case round =>
        obtain ⟨k, s, A2, n2, c2, ob, rfl, hk, HS, HTr, HXr, HKr, HBr, HPO, HLE, HCAP⟩ := hrel
        obtain ⟨wk, hwk⟩ : ∃ W, W = wr := ⟨_, rfl⟩
        subst hwk
        by_cases hlt : k < m
        · have hki : (k : Int) < (m : Int) := by omega
          have hm61 := HF.out.1
          obtain ⟨b, o, x, rfl, hbB, hx, hmem, a0, a1, a2, a3⟩ := (HL0.out.below HBr.out).at_ hlt
          have hxe := (HL0.out.below HBr.out).each x hmem
          have hxn : x.n ≤ 300 := HF.out.2 x hmem
          have hs20 : Ok s 20000 := HS.out.mono (by omega)
          obtain ⟨s2, hs2⟩ : ∃ z, z = (act s x.kd x.b x.m x.y).1 := ⟨_, rfl⟩
          obtain ⟨f2, hf2⟩ : ∃ z, z = (act s x.kd x.b x.m x.y).2 := ⟨_, rfl⟩
          have HS2 : Hid (Ok s2 (300 * (k + 1))) := by unfold Hid; rw [hs2]; exact (HS.out.act (by rw [hxe.1.len8']; exact hxn) hxe.2.2.2).mono (by omega)
          have HCP2 : Hid (s2.cap = 9000) := by unfold Hid; rw [hs2, act_cap]; exact HCAP.out
          have HMOD : Hid (∀ (V : World) (ok : Nat → Prop), Below w.heap.size w V → (∀ b, V.heap.size ≤ b → ok b) → Rk V ok A2 n2 c2 s.bs → Calls Try.prog 13 #[docV s A2 n2 c2, acV x] V fun e w' => ∃ v, e = .returned (.tuple #[v, .int .i64 f2]) ∧ DocIs ok s2 V w' v) := fun V ok hV hok hrk => by
            have h := model_any x hok hrk hs20 (((HL0.out.each x hmem).1.below hV).more hV.size) hxe.2 hxn
            rw [hs2, hf2]
            exact h
          obtain ⟨V1, hV1⟩ : ∃ V, V = wk.alloc (.cells #[.int .u8 x.kd, .slice x.A x.n x.c, .int .i64 x.m, .int .u8 x.y.toNat] 37) := ⟨_, rfl⟩
          have hbV1 : Below wk.heap.size wk V1 := by rw [hV1]; exact (Below.refl _ _).alloc (Nat.le_refl _) _
          have hsV1 : V1.heap.size = wk.heap.size + 1 := by rw [hV1]; simp
          have HBV1 : Hid (Below w.heap.size w V1) := HBr.out.trans (hbV1.mono HBr.out.size)
          obtain ⟨A5, c5, u1, hrun1, ho1, hb1⟩ := run_new8 V1 ((HL0.out.each x hmem).1.below HBV1.out |>.more HBV1.out.size) (Nat.le_refl _) (by omega)
          have z0 : V1.cell? ⟨wk.heap.size, 0, none⟩ = some (.int .u8 x.kd) := by rw [hV1]; go_simp
          have z1 : V1.cell? ⟨wk.heap.size, 1, none⟩ = some (.slice x.A x.n x.c) := by rw [hV1]; go_simp
          have z2 : V1.cell? ⟨wk.heap.size, 2, none⟩ = some (.int .i64 x.m) := by rw [hV1]; go_simp
          have z3 : V1.cell? ⟨wk.heap.size, 3, none⟩ = some (.int .u8 x.y.toNat) := by rw [hV1]; go_simp
          have zf : ∀ j, V1.frozen? ⟨wk.heap.size, j, none⟩ = false := fun j => by rw [hV1]; go_simp
          have hqV : wk.heap.size < V1.heap.size := by omega
          have y0 := (hb1.cell (p := ⟨wk.heap.size, 0, none⟩) hqV).trans z0
          have y1 := (hb1.cell (p := ⟨wk.heap.size, 1, none⟩) hqV).trans z1
          have y2 := (hb1.cell (p := ⟨wk.heap.size, 2, none⟩) hqV).trans z2
          have y3 := (hb1.cell (p := ⟨wk.heap.size, 3, none⟩) hqV).trans z3
          have m1 : u1.frozen? ⟨wk.heap.size, 1, none⟩ = false := (hb1.frozen (p := ⟨wk.heap.size, 1, none⟩) hqV).trans (zf 1)
          obtain ⟨u2, hu2⟩ : ∃ W, W = u1.setCell ⟨wk.heap.size, 1, none⟩ (.slice A5 x.n c5) := ⟨_, rfl⟩
          have hb12 : Below wk.heap.size wk u1 := hbV1.trans (hb1.mono hbV1.size)
          have hb2 : Below wk.heap.size wk u2 := by rw [hu2]; exact hb12.setCell (p := ⟨wk.heap.size, 1, none⟩) (Nat.le_refl _) _
          have HT2 := Lib.hid (HTr.out.later hb2)
          have HX2 := Lib.hid (HXr.out.later hb2)
          have HB2 : Hid (Below w.heap.size w u2) := HBr.out.trans (hb2.mono HBr.out.size)
          have HO2 : Hid (u2.ownsRow V1.heap.size 5 1 (.slice A5 x.n c5) x.n (u8s x.b)) := by unfold Hid; rw [hu2]; exact (own_set ho1 hqV _).row
          have HR2 : Hid (Rk u2 (fun b => b ≠ g ∧ some b ≠ ob ∧ (b ≠ p ∧ b < wk.heap.size)) A2 n2 c2 s.bs) := (HKr.out.mono fun b hb hl => ⟨hb.1, hb.2.1, hb.2.2, hl⟩).later hb2
          have q0 : u2.cell? ⟨wk.heap.size, 0, none⟩ = some (.int .u8 x.kd) := by rw [hu2]; go_simp
          have q1 : u2.cell? ⟨wk.heap.size, 1, none⟩ = some (.slice A5 x.n c5) := by rw [hu2]; go_simp
          have q2 : u2.cell? ⟨wk.heap.size, 2, none⟩ = some (.int .i64 x.m) := by rw [hu2]; go_simp
          have q3 : u2.cell? ⟨wk.heap.size, 3, none⟩ = some (.int .u8 x.y.toNat) := by rw [hu2]; go_simp
          have HQ2 := Lib.hid (And.intro q0 (And.intro q1 (And.intro q2 q3)))
          have hqs2 : wk.heap.size < u2.heap.size := World.block_lt_of_cell? u2 _ q0
          have hqg := HTr.out.free (Nat.le_refl wk.heap.size)
          have HQG := Lib.hid hqg
          have hqp : wk.heap.size ≠ p := by have := HXr.out.free.1; omega
          have HA2 : Hid (∀ j, (Value.slice A5 x.n c5).ownBlock = some j → wk.heap.size < j ∧ j < u2.heap.size) := fun j hj => by have h := ownBlock_lt HO2.out hj; exact ⟨by omega, h.2⟩
          obtain ⟨A1, n1, c1, fb1, ah1, hta1, hob1⟩ := HT2.out
          have HCA : Hid (Calls Try.prog 14 #[.pointer (some ⟨g, 0, none⟩), .agg #[.int .u8 x.kd, .slice A5 x.n c5, .int .i64 x.m, .int .u8 x.y.toNat]] u2 fun e w' => e = .returned (.int .i64 f2) ∧ Did u2 v1.heap.size g ob s2 w') := by
            have h := act_any ⟨x.kd, x.b, x.m, x.y, A5, x.n, c5⟩ hta1 hs20 (Nat.le_of_lt (Nat.lt_of_le_of_lt hta1.lo_.1 hta1.lo_.2)) (Rk.of_own (Own.mk HO2.out (u8s_one _)) fun j hj e => by
              have h1 := HTr.out.lo_.2
              omega) hxe.2 hxn
            rw [hob1] at h
            rw [hs2, hf2]
            exact h
          have hbwr : b < wk.heap.size := Nat.lt_of_lt_of_le hbB HBr.out.size
          have a0b := (hb2.cell (p := ⟨b, o + k * 4, none⟩) hbwr).trans a0
          have a1b := (hb2.cell (p := ⟨b, o + k * 4 + 1, none⟩) hbwr).trans a1
          have a2b := (hb2.cell (p := ⟨b, o + k * 4 + 2, none⟩) hbwr).trans a2
          have a3b := (hb2.cell (p := ⟨b, o + k * 4 + 3, none⟩) hbwr).trans a3
          have HAB := Lib.hid (And.intro a0b (And.intro a1b (And.intro a2b a3b)))
          have hbg : b ≠ g := by omega
          have hbo : some b ≠ ob := fun e => by have h1 := (HTr.out.obl b e.symm).1; have h2 := HBv1.out.size; omega
          have HBG := Lib.hid (And.intro hbg hbo)
          have Hrun1 := Lib.hid hrun1
          rw [hsV1, hV1] at Hrun1
          have HU2 := Lib.hid hu2
          unfold docV acV at HMOD
          clear hbg hbo a0b a1b a2b a3b hta1 hob1 hrun1 ho1 hb1 hb2 hb12 hbV1 hV1 hu2 hxe hs2 hf2 z0 z1 z2 z3 zf q0 q1 q2 q3 hqg hx
          go_wp2_with (at_builtin; refine Lib.wpList_append_run _ rfl _ _ _ _ rfl _ _ rfl rfl _ _ Hrun1.out ?_)
          rw [← HU2.out]
          clear y0 y1 y2 y3 m1 a0 a1 a2 a3
          refine HCA.out.mono ?_
          rintro e u3 ⟨rfl, ob3, hT3, ht3, hfr3⟩
          have HT3 := Lib.hid hT3
          have HX3 := Lib.hid (HX2.out.two ht3 HPG.out.1 HPO.out)
          have HXU := HX3
          have HB3 : Hid (Below w.heap.size w u3) := HB2.out.trans (ht3.below hgw (fun j hj => Nat.le_trans HBv1.out.size (HT2.out.obl j hj).1) HB2.out.size)
          have HR3 := Lib.hid (HR2.out.did ht3 hfr3)
          have HPO3 : Hid (some p ≠ ob3) := Fresh.ne hfr3 HPO.out HX2.out.free.1
          have HO3 : Hid (u3.ownsRow V1.heap.size 5 1 (.slice A5 x.n c5) x.n (u8s x.b)) := ownsRow_two HO2.out ht3 fun j hj => ⟨fun e => by have h1 := (HA2.out j hj).1; have h2 := HTr.out.lo_.2; omega, fun e => by have h1 := (HA2.out j hj).1; have h2 := (HTr.out.obl j e.symm).2.1; omega⟩
          have HOA3 : Hid (∀ j, (Value.slice A5 x.n c5).ownBlock = some j → some j ≠ ob3) := fun j hj => Fresh.ne hfr3 (fun e => by have h1 := (HA2.out j hj).1; have h2 := (HTr.out.obl j e.symm).2.1; omega) (HA2.out j hj).2
          have q1 : u3.cell? ⟨wk.heap.size, 1, none⟩ = some (.slice A5 x.n c5) := (ht3.cell (p := ⟨wk.heap.size, 1, none⟩) hqs2 HQG.out.1 HQG.out.2).trans HQ2.out.2.1
          have hqs3 : wk.heap.size < u3.heap.size := Nat.lt_of_lt_of_le hqs2 ht3.size
          have hbs3 : b < u3.heap.size := by omega
          have a0 := (ht3.cell (p := ⟨b, o + k * 4, none⟩) (show b < u2.heap.size by omega) HBG.out.1 HBG.out.2).trans HAB.out.1
          have a1 := (ht3.cell (p := ⟨b, o + k * 4 + 1, none⟩) (show b < u2.heap.size by omega) HBG.out.1 HBG.out.2).trans HAB.out.2.1
          have a2 := (ht3.cell (p := ⟨b, o + k * 4 + 2, none⟩) (show b < u2.heap.size by omega) HBG.out.1 HBG.out.2).trans HAB.out.2.2.1
          have a3 := (ht3.cell (p := ⟨b, o + k * 4 + 3, none⟩) (show b < u2.heap.size by omega) HBG.out.1 HBG.out.2).trans HAB.out.2.2.2
          obtain ⟨oA, hoA⟩ : ∃ oA, oA = (Value.slice A5 x.n c5).ownBlock := ⟨_, rfl⟩
          have HOK9 : Hid (∀ b, u3.heap.size ≤ b → b ≠ g ∧ some b ≠ ob3 ∧ b ≠ p ∧ some b ≠ oA) := fun b hb => ⟨(HT3.out.free hb).1, (HT3.out.free hb).2, by have := HX3.out.free.1; omega, fun e => by rw [hoA] at e; have h1 := (HA2.out b e.symm).2; have h2 := ht3.size; omega⟩
          have HOKM := HOK9
          have HKM : Hid (Rk u3 (fun b => b ≠ g ∧ some b ≠ ob3 ∧ b ≠ p ∧ some b ≠ oA) A2 n2 c2 s.bs) := HR3.out.mono fun b hb _ => ⟨hb.1, hb.2.1, hb.2.2.1, fun e => by rw [hoA] at e; have h1 := (HA2.out b e.symm).1; have h2 := hb.2.2.2; omega⟩
          have k0 := HX3.out.c0
          have k1 := HX3.out.c1
          have k2 := HX3.out.c2
          have k3 := HX3.out.c3
          have k4 := HX3.out.c4
          have hMD := HMOD
          have HMOD : Hid (∀ (V : World) (ok : Nat → Prop), Below u3.heap.size u3 V → (∀ b, V.heap.size ≤ b → ok b) → Rk V ok A2 n2 c2 s.bs → Calls Try.prog 13 #[.agg #[.int .i64 s.cap, .slice A2 n2 c2, .int .i64 s.sf, .int .i64 s.fu, .bool s.lo], .agg #[.int .u8 x.kd, .slice x.A x.n x.c, .int .i64 x.m, .int .u8 x.y.toNat]] V fun e w' => ∃ v, e = .returned (.tuple #[v, .int .i64 f2]) ∧ DocIs ok s2 V w' v) := fun V ok hV => hMD.out V ok (HB3.out.trans (hV.mono HB3.out.size))
          have HOAE := Lib.hid hoA
          clear hT3 ht3 hfr3 HCA hMD hoA HAB HBG HR2 HR3 HX2 HT2 HO2 HQ2
          go_wp2_with fail
          go_cut [] (fun wx => ∃ (A6 : Option Addr) (n6 c6 : Nat), Hid (CutM u3 wx p s2 A6 n6 c6 (fun b => b ≠ g ∧ some b ≠ ob3 ∧ b ≠ p ∧ some b ≠ oA)))
          case first =>
            go_region_with (
              refine (HMOD.out u3.drew (fun b => b ≠ g ∧ some b ≠ ob3 ∧ b ≠ p ∧ some b ≠ oA) (bel_drewN (Below.refl _ _) 1) HOKM.out (HKM.out.later (bel_drewN (Below.refl _ _) 1))).mono ?_
              rintro e w5 ⟨v, rfl, A6, n6, c6, rfl, hl6, hr6, hb6⟩
              unfold docV
              have HX5 := Lib.hid (HXU.out.later ((bel_drewN (Below.refl _ _) 1).trans hb6))
              have x0 := HX5.out.c0
              have m0 := HX5.out.free.2 0
              have x1 := HX5.out.c1
              have m1 := HX5.out.free.2 1
              have x2 := HX5.out.c2
              have m2 := HX5.out.free.2 2
              have x3 := HX5.out.c3
              have m3 := HX5.out.free.2 3
              have x4 := HX5.out.c4
              have m4 := HX5.out.free.2 4)
            all_goals (
              go_wp2_with fail
              go_meet
              obtain ⟨w6, hw6⟩ : ∃ W, W = ((((w5.setCell ⟨p, 0, none⟩ (.int .i64 s2.cap)).setCell ⟨p, 1, none⟩ (.slice A6 n6 c6)).setCell ⟨p, 2, none⟩ (.int .i64 s2.sf)).setCell ⟨p, 3, none⟩ (.int .i64 s2.fu)).setCell ⟨p, 4, none⟩ (.bool s2.lo) := ⟨_, rfl⟩
              rw [← hw6]
              obtain ⟨hbd, ht6⟩ := HX5.out.set hw6
              exact ⟨A6, n6, c6, (Two.of_below ((bel_drewN (Below.refl _ _) 1).trans hb6)).trans (Fresh.refl _ _) ht6, hbd, hl6, hr6.two ht6 fun b hb _ => ⟨hb.2.2.1, by simp⟩⟩)
          case rest =>
            obtain ⟨u4, hu4⟩ : ∃ W, W = wc := ⟨_, rfl⟩
            subst hu4
            obtain ⟨A6, n6, c6, hcm⟩ := hcut
            have ht4 := hcm.out.two
            have HX4 := Lib.hid hcm.out.box
            have HL6 := Lib.hid hcm.out.len
            have HR4 := Lib.hid hcm.out.rk
            have HT4 : Hid (Tp u4 v1.heap.size g ob3 s2) := HT3.out.two ht4 HPG.out.1.symm (by simp) fun j hj => ⟨fun e => HPO3.out (by rw [hj, e]), by simp⟩
            have HB4 : Hid (Below w.heap.size w u4) := HB3.out.trans (ht4.below hpw (fun j hj => by cases hj) HB3.out.size)
            have HO4 : Hid (u4.ownsRow V1.heap.size 5 1 (.slice A5 x.n c5) x.n (u8s x.b)) := ownsRow_two HO3.out ht4 fun j hj => ⟨fun e => by have h1 := (HA2.out j hj).1; have h2 := HXr.out.free.1; omega, by simp⟩
            have q1 : u4.cell? ⟨wk.heap.size, 1, none⟩ = some (.slice A5 x.n c5) := (ht4.cell (p := ⟨wk.heap.size, 1, none⟩) hqs3 hqp (by simp)).trans q1
            have hs34 := ht4.size
            clear ht4 hcm HMOD HOKM HOK9 HKM HX3 HXU HT3 HO3 k0 k1 k2 k3 k4 a0 a1 a2 a3
            have HQ1 := Lib.hid q1
            go_wp2_with fail
            go_loopw [66] (fun i wx => ∃ (j : Nat) (ys : List UInt8), i = .int .i64 j ∧ j ≤ x.n ∧ Hid (wx.ownsRow V1.heap.size 5 1 (.slice A5 x.n c5) x.n (u8s ys)) ∧ Hid (Two u4.heap.size oA u4 wx)) (fun i _ => x.n - (intOf i).toNat)
            case atStart => exact ⟨0, x.b, rfl, Nat.zero_le _, HO4, Two.refl _ _ _⟩
            case round =>
              obtain ⟨j, ys, rfl, hj, HOW, HTW⟩ := hrel
              obtain ⟨wx, hwx⟩ : ∃ W, W = wr := ⟨_, rfl⟩
              subst hwx
              have hq4 : wk.heap.size < u4.heap.size := by omega
              have hqoA : some wk.heap.size ≠ oA := fun e => by rw [HOAE.out] at e; have h1 := (HA2.out _ e.symm).1; omega
              by_cases hjl : j < x.n
              · have hji : (j : Int) < (x.n : Int) := by omega
                obtain ⟨bk, hA5, hbl, hbs, hbf, hbc⟩ := row_place (Own.mk HOW.out (u8s_one _)) (by omega)
                have hyl : ys.length = x.n := by have := HOW.out.1; rw [u8s_length] at this; omega
                have hcx := hbc j _ (u8s_get ys j (by omega))
                have hfx := hbf j
                obtain ⟨x8, hx8⟩ : ∃ x8, x8 = ys[j].toNat := ⟨_, rfl⟩
                rw [← hx8] at hcx
                have hoB : oA = some bk := by rw [HOAE.out, hA5]; rfl
                have q1 := (HTW.out.cell (p := ⟨wk.heap.size, 1, none⟩) hq4 (by dsimp only; omega) hqoA).trans HQ1.out
                rw [hA5] at q1
                have hset : ∀ y : UInt8, (u8s ys).set j (.int .u8 y.toNat) = u8s (ys.set j y) := fun y => by unfold u8s; rw [List.map_set]
                have HON : Hid ((wx.setCell ⟨bk, j, none⟩ (.int .u8 99)).ownsRow V1.heap.size 5 1 (.slice A5 x.n c5) x.n (u8s (ys.set j 99))) := by
                  unfold Hid
                  rw [← hset, hA5]
                  have h := HOW.out
                  rw [hA5] at h
                  exact row_set h j _
                have HTN : Hid (Two u4.heap.size oA u4 (wx.setCell ⟨bk, j, none⟩ (.int .u8 99))) := by
                  unfold Hid
                  rw [hoB]
                  have h := HTW.out
                  rw [hoB] at h
                  exact h.trans (Fresh.refl _ _) (Two.of_grown (gb_set (gb_refl wx (some bk)) j _))
                clear hset hx8 hbc hbf hA5 hoB hyl
                go_wp2_with fail
                go_roundw
                case rel => exact ⟨j + 1, ys.set j 99, by go_num, by omega, HON, HTN⟩
                case measure => simp [intOf]; omega
              · have hji : ¬ ((j : Int) < (x.n : Int)) := by omega
                obtain rfl : j = x.n := by omega
                have hbel : Below w.heap.size w wx := HB4.out.trans (HTW.out.below (by have := HB4.out.size; omega) (fun j hj => by rw [HOAE.out] at hj; have h1 := (HA2.out j hj).1; have h2 := HBr.out.size; omega) HB4.out.size)
                have HBx := Lib.hid hbel
                have HTx : Hid (Tp wx v1.heap.size g ob3 s2) := HT4.out.two HTW.out (by have := HT4.out.lo_.2; omega) (fun e => by rw [HOAE.out] at e; have h1 := (HA2.out g e.symm).1; have h2 := HTr.out.lo_.2; omega) fun j hj => ⟨by have := (HT4.out.obl j hj).2.1; omega, fun e => by rw [HOAE.out] at e; exact HOA3.out j e.symm hj.symm⟩
                have HXx : Hid (BoxD wx p s2 A6 n6 c6) := HX4.out.two HTW.out (by have := HX4.out.free.1; omega) (fun e => by rw [HOAE.out] at e; have h1 := (HA2.out p e.symm).1; have h2 := HXr.out.free.1; omega)
                have HRx : Hid (Rk wx (fun b => b ≠ g ∧ some b ≠ ob3 ∧ b ≠ p) A6 n6 c6 s2.bs) := (HR4.out.two HTW.out fun b hb hl => ⟨by omega, hb.2.2.2⟩).mono fun b hb _ => ⟨hb.1, hb.2.1, hb.2.2.1⟩
                clear hbel q1 HTW HOW HT4 HX4 HR4 HB4 HO4 HQ1
                obtain ⟨A7, n7, c7, fb7, ah7, hta7, hob7⟩ := HTx.out
                have hn7 : n7 ≤ 20000 := by have h1 := hta7.len; have h2 := HS2.out.len; omega
                rcases (show s2.lo = true ∨ s2.lo = false by cases s2.lo <;> simp) with hlo | hlo
                · have HRD := Lib.hid (read_lost hta7 hlo)
                  clear hta7 hob7
                  go_wp2_with fail
                  refine HRD.out.mono ?_
                  rintro e u9 ⟨rfl, rfl⟩
                  go_wp2_with fail
                  go_loopw [81] (fun i wy => i = .int .i64 0 ∧ Hid (Below wx.heap.size wx wy)) (fun _ _ => 0)
                  case atStart => exact ⟨rfl, Below.refl _ _⟩
                  case round =>
                    obtain ⟨rfl, HBY⟩ := hrel
                    obtain ⟨wy, hwy⟩ : ∃ W, W = wr := ⟨_, rfl⟩
                    subst hwy
                    have HTy := Lib.hid (HTx.out.later HBY.out)
                    have HXy := Lib.hid (HXx.out.later HBY.out)
                    have HRy := Lib.hid (HRx.out.later HBY.out)
                    have HBy : Hid (Below w.heap.size w wy) := HBx.out.trans (HBY.out.mono HBx.out.size)
                    go_wp2_with fail
                    go_roundw
                    case rel => exact ⟨k + 1, s2, A6, n6, c6, ob3, by go_num, by omega, HS2, HTy, HXy, HRy, HBy, HPO3, HL6, HCP2⟩
                    case measure => simp [intOf]; omega
                · have HRD := Lib.hid (read_ok hta7 hlo hn7)
                  clear hta7 hob7
                  go_wp2_with fail
                  refine HRD.out.mono ?_
                  rintro e u5 ⟨A8, c8, rfl, ho8, hb8⟩
                  have HO8 := Lib.hid ho8.row
                  have HB8 := Lib.hid hb8
                  clear ho8 hb8
                  go_wp2_with fail
                  go_loopw [81] (fun i wy => ∃ (j : Nat) (ys : List UInt8), i = .int .i64 j ∧ j ≤ n7 ∧ Hid (wy.ownsRow wx.heap.size 5 1 (.slice A8 n7 c8) n7 (u8s ys)) ∧ Hid (Below wx.heap.size wx wy)) (fun i _ => n7 - (intOf i).toNat)
                  case atStart => exact ⟨0, s2.bs, rfl, Nat.zero_le _, HO8, HB8⟩
                  case round =>
                    obtain ⟨j, ys, rfl, hj, HOW, HBY⟩ := hrel
                    obtain ⟨wy, hwy⟩ : ∃ W, W = wr := ⟨_, rfl⟩
                    subst hwy
                    by_cases hjl : j < n7
                    · have hji : (j : Int) < (n7 : Int) := by omega
                      obtain ⟨bk, hA8, hbl, hbs, hbf, hbc⟩ := row_place (Own.mk HOW.out (u8s_one _)) (by omega)
                      have hyl : ys.length = n7 := by have := HOW.out.1; rw [u8s_length] at this; omega
                      have hcx := hbc j _ (u8s_get ys j (by omega))
                      have hfx := hbf j
                      obtain ⟨x8, hx8⟩ : ∃ x8, x8 = ys[j].toNat := ⟨_, rfl⟩
                      rw [← hx8] at hcx
                      have hset : ∀ y : UInt8, (u8s ys).set j (.int .u8 y.toNat) = u8s (ys.set j y) := fun y => by unfold u8s; rw [List.map_set]
                      have HON : Hid ((wy.setCell ⟨bk, j, none⟩ (.int .u8 98)).ownsRow wx.heap.size 5 1 (.slice A8 n7 c8) n7 (u8s (ys.set j 98))) := by
                        unfold Hid
                        rw [← hset, hA8]
                        have h := HOW.out
                        rw [hA8] at h
                        exact row_set h j _
                      have HBN : Hid (Below wx.heap.size wx (wy.setCell ⟨bk, j, none⟩ (.int .u8 98))) := HBY.out.setCell (p := ⟨bk, j, none⟩) hbl _
                      clear hset hx8 hbc hbf hyl
                      subst hA8
                      go_wp2_with fail
                      go_roundw
                      case rel => exact ⟨j + 1, ys.set j 98, by go_num, by omega, HON, HBN⟩
                      case measure => simp [intOf]; omega
                    · have hji : ¬ ((j : Int) < (n7 : Int)) := by omega
                      obtain rfl : j = n7 := by omega
                      have HTy := Lib.hid (HTx.out.later HBY.out)
                      have HXy := Lib.hid (HXx.out.later HBY.out)
                      have HRy := Lib.hid (HRx.out.later HBY.out)
                      have HBy : Hid (Below w.heap.size w wy) := HBx.out.trans (HBY.out.mono HBx.out.size)
                      go_wp2_with fail
                      go_roundw
                      case rel => exact ⟨k + 1, s2, A6, n6, c6, ob3, by go_num, by omega, HS2, HTy, HXy, HRy, HBy, HPO3, HL6, HCP2⟩
                      case measure => simp [intOf]; omega
        · have hki : ¬ ((k : Int) < (m : Int)) := by omega
          obtain rfl : k = m := by omega
          have hm61 := HF.out.1
          obtain ⟨A1, n1, c1, fb1, ah1, hta1, hob1⟩ := HTr.out
          have hn1 : n1 ≤ 20000 := by have h1 := hta1.len; have h2 := HS.out.len; omega
          have HCL := Lib.hid (clone_tape hta1 hn1)
          clear hta1 hob1
          go_wp2_with fail
          refine HCL.out.mono ?_
          rintro e v4 ⟨g2, o2, rfl, hT4, hb4⟩
          have HT4 := Lib.hid (HTr.out.later hb4)
          have HX4 := Lib.hid (HXr.out.later hb4)
          have HR4 := Lib.hid (HKr.out.later hb4)
          have HB4 : Hid (Below w.heap.size w v4) := HBr.out.trans (hb4.mono HBr.out.size)
          have HC4 := Lib.hid hT4
          have hg2 : wk.heap.size ≤ g2 := hT4.lo_.1
          have hwwk : w.heap.size ≤ wk.heap.size := HBr.out.size
          obtain ⟨V2, hV2⟩ : ∃ V, V = v4.alloc (.cells #[.int .i64 s.cap, .slice A2 n2 c2, .int .i64 s.sf, .int .i64 s.fu, .bool s.lo] 31) := ⟨_, rfl⟩
          obtain ⟨r, hr⟩ : ∃ r, r = v4.heap.size := ⟨_, rfl⟩
          have hbV2 : Below v4.heap.size v4 V2 := by rw [hV2]; exact (Below.refl _ _).alloc (Nat.le_refl _) _
          have hbr : BoxD V2 r s A2 n2 c2 := by rw [hr]; exact BoxD.new hV2
          have hrg := HC4.out.free (Nat.le_of_eq hr.symm)
          have HRG := Lib.hid hrg
          have HC5 := Lib.hid (HC4.out.later hbV2)
          have HT5 := Lib.hid (HT4.out.later hbV2)
          have HX5 := Lib.hid (HX4.out.later hbV2)
          have HR5 := Lib.hid (HR4.out.later hbV2)
          have HB5 : Hid (Below w.heap.size w V2) := HB4.out.trans (hbV2.mono HB4.out.size)
          have HY5 := Lib.hid hbr
          have hrw : wk.heap.size ≤ r := by rw [hr]; exact hb4.size
          have HK5 : Hid (Rk V2 (fun b => b ≠ g2 ∧ some b ≠ o2 ∧ b ≠ r) A2 n2 c2 s.bs) := ((HKr.out.mono (ok' := fun b => b ≠ g2 ∧ some b ≠ o2 ∧ b ≠ r) fun b hb hl => ⟨by omega, fun e => by have h1 := (HC4.out.obl b e.symm).1; omega, by omega⟩).later hb4).later hbV2
          have HWK : Hid (Below wk.heap.size wk V2) := hb4.trans (hbV2.mono hb4.size)
          have HV2 := Lib.hid hV2
          have HRE := Lib.hid hr
          have hrV : V2.heap.size = r + 1 := by rw [hV2, hr]; simp
          have k0 := HX4.out.c0
          have k1 := HX4.out.c1
          have k2 := HX4.out.c2
          have k3 := HX4.out.c3
          have k4 := HX4.out.c4
          have y0 := HY5.out.c0
          have y1 := HY5.out.c1
          have y2 := HY5.out.c2
          have y3 := HY5.out.c3
          have y4 := HY5.out.c4
          obtain ⟨A3, n3, c3, fb3, ah3, hta3, hob3⟩ := HC5.out
          have HIS := Lib.hid (is_any hta3 (HS.out.mono (by omega)) HLE.out HK5.out.rd)
          unfold docV at HIS
          clear hb4 hT4 hV2 hr hbV2 hbr hrg hta3 hob3 HCL
          go_wp2_with fail
          rw [← HV2.out]
          try rw [← HRE.out]
          refine HIS.out.mono ?_
          rintro e v5 ⟨rfl, hb5⟩
          have HC6 := Lib.hid (HC5.out.later hb5)
          have HT6 := Lib.hid (HT5.out.later hb5)
          have HX6 := Lib.hid (HX5.out.later hb5)
          have HR6 := Lib.hid (HR5.out.later hb5)
          have HB6 : Hid (Below w.heap.size w v5) := HB5.out.trans (hb5.mono HB5.out.size)
          have HY6 := Lib.hid (HY5.out.later hb5)
          have HK6 := Lib.hid (HK5.out.later hb5)
          have HW6 : Hid (Below wk.heap.size wk v5) := HWK.out.trans (hb5.mono HWK.out.size)
          clear hb5 HIS k0 k1 k2 k3 k4 y0 y1 y2 y3 y4
          go_wp2_with fail
          go_loopw [98] (fun i wr => ∃ (j : Nat) (z : S) (A4 : Option Addr) (n4 c4 : Nat) (ob4 : Option Nat), i = .int .i64 j ∧ j ≤ m9 ∧ Hid (Ok z 18300) ∧ Hid (z.cap = 9000) ∧ Hid (Tp wr wk.heap.size g2 ob4 z) ∧ Hid (BoxD wr r z A4 n4 c4) ∧ Hid (Rk wr (fun b => b ≠ g2 ∧ some b ≠ ob4 ∧ b ≠ r) A4 n4 c4 z.bs) ∧ Hid (Below wk.heap.size v5 wr) ∧ Hid (some r ≠ ob4) ∧ Hid (z.bs.length = n4) ∧ Hid (v5.heap.size ≤ wr.heap.size)) (fun i _ => m9 - (intOf i).toNat)
          case atStart => exact ⟨0, s, A2, n2, c2, o2, rfl, Nat.zero_le _, HS.out.mono (by omega), HCAP, HC6, HY6, HK6, Below.refl _ _, HRG.out.2, HLE, Nat.le_refl _⟩
          case round =>
            obtain ⟨j, z, A4, n4, c4, ob4, rfl, hj, HZ, HZC, HTn, HYn, HKn, HBn, HRO, HZL, HSN⟩ := hrel
            obtain ⟨wn, hwn⟩ : ∃ W, W = wr := ⟨_, rfl⟩
            subst hwn
            have HBW : Hid (Below w.heap.size w wn) := HB6.out.trans (HBn.out.mono hwwk)
            have HWN : Hid (Below wk.heap.size wk wn) := HW6.out.trans HBn.out
            by_cases hlt : j < m9
            · have hji : (j : Int) < (m9 : Int) := by omega
              have hm61 := HF9.out.1
              obtain ⟨b, o, x, rfl, hbB, hx, hmem, a0, a1, a2, a3⟩ := (HL9.out.below HBW.out).at_ hlt
              have hxe := (HL9.out.below HBW.out).each x hmem
              have hxn : x.n ≤ 300 := HF9.out.2 x hmem
              have hs20 : Ok z 20000 := HZ.out.mono (by omega)
              obtain ⟨s2, hs2⟩ : ∃ y, y = (act z x.kd x.b x.m x.y).1 := ⟨_, rfl⟩
              obtain ⟨f2, hf2⟩ : ∃ y, y = (act z x.kd x.b x.m x.y).2 := ⟨_, rfl⟩
              have HS2 : Hid (Ok s2 18300) := by
                have h := HZ.out.act (kd := x.kd) (n := x.m) (b := x.b) (y := x.y) (by rw [hxe.1.len8']; exact hxn) hxe.2.2.2
                unfold Hid
                rw [hs2]
                exact ⟨h.cap, act_len HZ.out (by have := HZC.out; omega), h.sf, h.fu⟩
              have HCP2 : Hid (s2.cap = 9000) := by unfold Hid; rw [hs2, act_cap]; exact HZC.out
              have HMD : Hid (∀ (V : World) (ok : Nat → Prop), Below w.heap.size w V → (∀ b, V.heap.size ≤ b → ok b) → Rk V ok A4 n4 c4 z.bs → Calls Try.prog 13 #[docV z A4 n4 c4, acV x] V fun e w' => ∃ v, e = .returned (.tuple #[v, .int .i64 f2]) ∧ DocIs ok s2 V w' v) := fun V ok hV hok hrk => by
                have h := model_any x hok hrk hs20 (((HL9.out.each x hmem).1.below hV).more hV.size) hxe.2 hxn
                rw [hs2, hf2]
                exact h
              obtain ⟨A1, n1, c1, fb1, ah1, hta1, hob1⟩ := HTn.out
              have HCA : Hid (Calls Try.prog 14 #[.pointer (some ⟨g2, 0, none⟩), acV x] wn fun e w' => e = .returned (.int .i64 f2) ∧ Did wn wk.heap.size g2 ob4 s2 w') := by
                have h := act_any x hta1 hs20 (Nat.le_of_lt (Nat.lt_of_le_of_lt hta1.lo_.1 hta1.lo_.2)) ⟨(((HL9.out.each x hmem).1.below HBW.out).more HBW.out.size), fun hn => by
                  obtain ⟨b, o, e, hb, _⟩ := (HL9.out.each x hmem).1.at_ hn
                  exact ⟨b, o, e, by omega⟩⟩ hxe.2 hxn
                rw [hob1] at h
                rw [hs2, hf2]
                exact h
              unfold docV acV at HMD
              unfold acV at HCA
              have hbn : b < wn.heap.size := Nat.lt_of_lt_of_le hbB HBW.out.size
              have hbg : b ≠ g2 := by omega
              have hbo : some b ≠ ob4 := fun e => by have h1 := (HTn.out.obl b e.symm).1; omega
              clear hs2 hf2 hxe hta1 hob1 hx
              go_wp2_with fail
              refine HCA.out.mono ?_
              rintro e u2 ⟨rfl, ob5, hT2, ht2, hfr2⟩
              have HT2 := Lib.hid hT2
              have HXU := Lib.hid (HYn.out.two ht2 HRG.out.1 HRO.out)
              have HR2 := Lib.hid (HKn.out.did ht2 hfr2)
              have HRO2 : Hid (some r ≠ ob5) := Fresh.ne hfr2 HRO.out HYn.out.free.1
              have HBU : Hid (Below wk.heap.size v5 u2) := HBn.out.trans (ht2.below (HTn.out.lo_.1) (fun j hj => (HTn.out.obl j hj).1) (by have := HTn.out.lo_; omega))
              have HBWU : Hid (Below w.heap.size w u2) := HB6.out.trans (HBU.out.mono hwwk)
              have a0 := (ht2.cell (p := ⟨b, o + j * 4, none⟩) hbn hbg hbo).trans a0
              have a1 := (ht2.cell (p := ⟨b, o + j * 4 + 1, none⟩) hbn hbg hbo).trans a1
              have a2 := (ht2.cell (p := ⟨b, o + j * 4 + 2, none⟩) hbn hbg hbo).trans a2
              have a3 := (ht2.cell (p := ⟨b, o + j * 4 + 3, none⟩) hbn hbg hbo).trans a3
              have HOKM : Hid (∀ b, u2.heap.size ≤ b → b ≠ g2 ∧ some b ≠ ob5 ∧ b ≠ r) := fun b hb => ⟨(HT2.out.free hb).1, (HT2.out.free hb).2, by have := HXU.out.free.1; omega⟩
              have HKM := HR2
              have HMOD : Hid (∀ (V : World) (ok : Nat → Prop), Below u2.heap.size u2 V → (∀ b, V.heap.size ≤ b → ok b) → Rk V ok A4 n4 c4 z.bs → Calls Try.prog 13 #[.agg #[.int .i64 z.cap, .slice A4 n4 c4, .int .i64 z.sf, .int .i64 z.fu, .bool z.lo], .agg #[.int .u8 x.kd, .slice x.A x.n x.c, .int .i64 x.m, .int .u8 x.y.toNat]] V fun e w' => ∃ v, e = .returned (.tuple #[v, .int .i64 f2]) ∧ DocIs ok s2 V w' v) := fun V ok hV => HMD.out V ok (HBWU.out.trans (hV.mono HBWU.out.size))
              have hsn2 : v5.heap.size ≤ u2.heap.size := Nat.le_trans HSN.out ht2.size
              have k0 := HXU.out.c0
              have k1 := HXU.out.c1
              have k2 := HXU.out.c2
              have k3 := HXU.out.c3
              have k4 := HXU.out.c4
              clear hT2 ht2 hfr2 HCA HMD hbn hbg hbo HTn HYn HKn
              go_wp2_with fail
              go_region_with (
                refine (HMOD.out u2.drew (fun b => b ≠ g2 ∧ some b ≠ ob5 ∧ b ≠ r) (bel_drewN (Below.refl _ _) 1) HOKM.out (HKM.out.later (bel_drewN (Below.refl _ _) 1))).mono ?_
                rintro e w5 ⟨v, rfl, A6, n6, c6, rfl, hl6, hr6, hb6⟩
                unfold docV
                have HX5 := Lib.hid (HXU.out.later ((bel_drewN (Below.refl _ _) 1).trans hb6))
                have x0 := HX5.out.c0
                have m0 := HX5.out.free.2 0
                have x1 := HX5.out.c1
                have m1 := HX5.out.free.2 1
                have x2 := HX5.out.c2
                have m2 := HX5.out.free.2 2
                have x3 := HX5.out.c3
                have m3 := HX5.out.free.2 3
                have x4 := HX5.out.c4
                have m4 := HX5.out.free.2 4)
              all_goals (
                go_wp2_with fail
                obtain ⟨w6, hw6⟩ : ∃ W, W = ((((w5.setCell ⟨r, 0, none⟩ (.int .i64 s2.cap)).setCell ⟨r, 1, none⟩ (.slice A6 n6 c6)).setCell ⟨r, 2, none⟩ (.int .i64 s2.sf)).setCell ⟨r, 3, none⟩ (.int .i64 s2.fu)).setCell ⟨r, 4, none⟩ (.bool s2.lo) := ⟨_, rfl⟩
                rw [← hw6]
                obtain ⟨hbd, ht6⟩ := HX5.out.set hw6
                clear hw6 x0 x1 x2 x3 x4 m0 m1 m2 m3 m4
                have HY3 := Lib.hid hbd
                have HL3 := Lib.hid hl6
                have HR3 : Hid (Rk w6 (fun b => b ≠ g2 ∧ some b ≠ ob5 ∧ b ≠ r) A6 n6 c6 s2.bs) := hr6.two ht6 fun b hb _ => ⟨hb.2.2, by simp⟩
                have ht3 : Two r none u2 w6 := (Two.of_below ((bel_drewN (Below.refl _ _) 1).trans hb6)).trans (Fresh.refl _ _) ht6
                have HT3 : Hid (Tp w6 wk.heap.size g2 ob5 s2) := HT2.out.two ht3 HRG.out.1.symm (by simp) fun j hj => ⟨fun e => HRO2.out (by rw [hj, e]), by simp⟩
                have HB3 : Hid (Below wk.heap.size v5 w6) := HBU.out.trans (ht3.below hrw (fun j hj => by cases hj) (Nat.le_trans HW6.out.size hsn2))
                have HSN3 : Hid (v5.heap.size ≤ w6.heap.size) := Nat.le_trans hsn2 ht3.size
                go_roundw
                case rel => exact ⟨j + 1, s2, A6, n6, c6, ob5, by go_num, by omega, HS2, HCP2, HT3, HY3, HR3, HB3, HRO2, HL3, HSN3⟩
                case measure => simp [intOf]; omega)
            · have hji : ¬ ((j : Int) < (m9 : Int)) := by omega
              obtain ⟨A1, n1, c1, fb1, ah1, hta1, hob1⟩ := HTn.out
              have HIS := Lib.hid (is_any hta1 (HZ.out.mono (by omega)) HZL.out HKn.out.rd)
              unfold docV at HIS
              have y0 := HYn.out.c0
              have y1 := HYn.out.c1
              have y2 := HYn.out.c2
              have y3 := HYn.out.c3
              have y4 := HYn.out.c4
              clear hta1 hob1
              go_wp2_with fail
              refine HIS.out.mono ?_
              rintro e v6 ⟨rfl, hb6⟩
              have HWV : Hid (Below wk.heap.size wk v6) := HWN.out.trans (hb6.mono HWN.out.size)
              have HBV : Hid (Below w.heap.size w v6) := HBW.out.trans (hb6.mono HBW.out.size)
              have HTV := Lib.hid (HTr.out.later HWV.out)
              have HXV := Lib.hid (HXr.out.later HWV.out)
              have HKV := Lib.hid (HKr.out.later HWV.out)
              obtain ⟨A7, n7, c7, fb7, ah7, hta7, hob7⟩ := HTV.out
              have HIT := Lib.hid (is_any hta7 (HS.out.mono (by omega)) HLE.out HKV.out.rd)
              unfold docV at HIT
              clear hb6 y0 y1 y2 y3 y4 hta7 hob7 HIS
              have k0 := HXV.out.c0
              have k1 := HXV.out.c1
              have k2 := HXV.out.c2
              have k3 := HXV.out.c3
              have k4 := HXV.out.c4
              go_wp2_with fail
              refine HIT.out.mono ?_
              rintro e v7 ⟨rfl, hb7⟩
              have HB7 : Hid (Below w.heap.size w v7) := HBV.out.trans (hb7.mono HBV.out.size)
              clear hb7 HIT k0 k1 k2 k3 k4
              go_wp2_with fail
              go_ret
              exact ⟨by first | rfl | simp, HB7.out⟩
set_option maxRecDepth 100000 in
theorem lifted (os : Os) (started : os.Started) (H : Type) (enc : TypeId × Value → H) :
    ReturnsInHanded {} Try.checked os 6 .any (Rows.tapeOwnSpec.pre6 enc Try.prog Try.f6 Rows.tapeOwnRow.domain false) (Rows.tapeOwnSpec.post enc Try.prog Try.f6 false true false false) := by
  refine returnsInHanded_of_change (C := Try.checked) own started (by kernel_rfl) Try.func6
    (ChangeSpec.witness6 (enc := enc) (C := Try.checked) false ⟨#[], #[.slice none 0 0, .slice none 0 0], []⟩ 8 (by kernel_rfl) (by kernel_rfl) (by kernel_rfl) (by kernel_rfl)) ?_
  intro W base args ds gs before hval0 hW _ _
  have hval : ∀ (j : Nat) t v, Try.f6.params[j]? = some t → args[j]? = some v → Value.okWide Try.prog W .any base t v := hval0
  have hW' := hW
  obtain ⟨p, q, hA0, hV, rfl, hfz, hnd⟩ := hW
  have hA : DataW.TrodAll enc Try.prog W 0 (fun _ => true) true Try.f6.params.toList args.toList ds p := hA0
  rw [Try.params6] at hA hval
  obtain ⟨v0, v1, d0, d1, p0, p1, rfl, rfl, rfl, h0, h1⟩ := trodAll_two hA
  obtain ⟨rfl, rfl⟩ := trodVars_none hV
  obtain ⟨a0, len0, cap0, rfl⟩ := okWide_slice Try.underlying22 (hval 0 22 v0 rfl rfl)
  obtain ⟨fuel0, hf0⟩ := h0
  obtain ⟨l0, hl0, hm0⟩ := Tpe.acts_of_trod hf0
  obtain ⟨a1, len1, cap1, rfl⟩ := okWide_slice Try.underlying22 (hval 1 22 v1 rfl rfl)
  obtain ⟨fuel1, hf1⟩ := h1
  obtain ⟨l1, hl1, hm1⟩ := Tpe.acts_of_trod hf1
  refine (walk_any l0 len0 a0 cap0 l1 len1 a1 cap1 W hl0 hm0 hl1 hm1).mono fun e W' ⟨he, hb⟩ => ?_
  subst he
  exact ⟨_, rfl, law_post hW' (by kernel_rfl) rfl rfl rfl hb⟩
theorem proved : Rows.TapeOwnSaid :=
  OpenClaim.holds_of_wide 6 Try.f6 rfl rfl rfl rfl rfl rfl rfl ⟨rfl, rfl, rfl, rfl, rfl⟩ rfl rfl rfl rfl rfl (by kernel_rfl) Try.func6 (by kernel_rfl)
    (of_decide_eq_true (by kernel_rfl)) (by unfold Func.isWrapper; first | (rw [if_pos (by decide +kernel)]; kernel_rfl) | (rw [if_neg (by decide +kernel)]; exact ⟨rfl, rfl⟩))
    (fun os started H enc _ => lifted os started H enc)
#print axioms proved
end lawTapeOwn
end Go.Proofs.Ytccihdgdhlcghaa
