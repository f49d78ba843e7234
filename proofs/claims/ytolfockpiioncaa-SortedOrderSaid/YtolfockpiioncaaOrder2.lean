/- SortedOrder, by the contract of the sort. -/
import Derived.Test.YtolfockpiioncaaOrder1
import Derived.BigQuiet
namespace Go.Proofs.Ytolfockpiioncaa
open Go.RowKit
namespace SortS
set_option maxRecDepth 100000 in
set_option maxHeartbeats 2000000 in
theorem order_law (h : List Act) (H : Option Addr) (d : Nat) (w : World) (hh : Rd w w.heap.size 3 H h.length d (flatA h)) (hc : h.length ≤ maxLen)
    (hsort : ∀ (base g n c : Nat) (xs : Ps) (w : World), Row base g n c w xs → 0 < n → n ≤ 1000 → Calls Try.prog 35 #[.slice (some ⟨g, 0, none⟩) n c, .func (.func 36) #[] #[]] w
      (Turned base g n c (fun ys => Stable xs ys) w)) :
    Calls Try.prog 8 #[.slice H h.length d] w fun e w' => e = .returned (.bool true) ∧ Below w.heap.size w w' := by
  unfold maxLen at hc
  by_cases hbig : h.length ≤ 60
  · have h60 : decide ((60 : Int) < h.length) = false := by simp; omega
    have HH := Lib.hid hh
    have HSO := Lib.hid hsort
    clear hh hsort
    go_enter Try.func8, Try.ntmps8
    go_wp2_with (go_at_call 9; refine (SortS.awake_any _).mono ?_; rintro e w1 ⟨rfl, hb1⟩)
    have HB1 := Lib.hid hb1
    have HH1 := Lib.hid (HH.out.later hb1)
    clear hb1
    go_loopw [3, 23] (fun v q wr => ∃ k : Nat, q = .int .i64 k ∧ k ≤ h.length ∧ wr.ownsRow w1.heap.size 60 2 v (firsts h k).length (flat (firsts h k)) ∧ Below w1.heap.size w1 wr) (fun _ q _ => (h.length - intOf q).toNat)
    case atStart => exact ⟨0, rfl, Nat.zero_le _, by simpa [firsts, flat, flat2] using World.ownsRow_nil _ _ _ _, Below.refl _ _⟩
    case round =>
      obtain ⟨k, rfl, hk, hown, hB⟩ := hrel
      obtain ⟨A3, c3, rfl, hown3⟩ := Own.of_row hown (flat_one _)
      have HO := Lib.hid hown3
      clear hown hown3
      by_cases hlt : k < h.length
      · have hRk := HH1.out.later hB
        obtain ⟨i0, hi0, hz0, hz1, hz2⟩ := info_parts infoA
        have hcut := fun W => run_cut_to (P := Try.prog) 22 29 3 Try.underlying22 hi0 hz1 H h.length d k (by have := HH.out.cap; omega) W
        have htk : (h.take k).length = k := by rw [List.length_take]; omega
        have hptl : (pts (h.take k)).length = k := by simp [pts]; omega
        have hP : ∀ W, Below wr.heap.size wr W → Calls Try.prog 16 #[.slice H k d] W (NewRow 29 3 (flatA (pts (h.take k))) k W) := by
          intro W hW
          have h1 := (hRk.later hW).to_ (j := k) (by omega)
          rw [← flatA_take] at h1
          have := puts_any (h.take k) H d W (by rw [htk]; exact h1) (by omega)
          rwa [htk] at this
        have hVal : ∀ A c W ak, Rd W W.heap.size 3 A k c (flatA (pts (h.take k))) → Calls Try.prog 25 #[.slice A k c, .string ak] W fun e w' => e = .returned (valV (valueOf (pts (h.take k)) ak)) ∧ Below W.heap.size W w' := by
          intro A c W ak hr
          have := Ref1.value_any (pts (h.take k)) ak A c W (by rw [hptl]; exact hr) (by omega)
          rwa [hptl] at this
        have HP := Lib.hid hP
        obtain ⟨b, o, rfl, hbb, hcc⟩ := HH1.out.at_ (by omega)
        obtain ⟨f0, f1, f2⟩ := flatA_at h k hlt
        obtain ⟨⟨ak, av, ag⟩, ha⟩ : ∃ a, a = h[k] := ⟨_, rfl⟩
        rw [← ha] at f0 f1
        have k0 : wr.cell? ⟨b, o + k * 3, none⟩ = some (.string ak) := (hB.cell (p := ⟨b, o + k * 3, none⟩) hbb).trans (hcc _ _ f0)
        have k1 : wr.cell? ⟨b, o + k * 3 + 1, none⟩ = some (.int .i64 av) := (hB.cell (p := ⟨b, o + k * 3 + 1, none⟩) hbb).trans (hcc _ _ f1)
        have hbr : b < wr.heap.size := Nat.lt_of_lt_of_le hbb hB.size
        have hki : (k : Int) < h.length := by omega
        have HV := fun A c W => Lib.hid (hVal A c W ak)
        have hold := fun hv => firsts_old (h := h) (k := k) hlt hv
        have hnew := fun hv => firsts_new (h := h) (k := k) hlt hv
        rw [← ha] at hold hnew
        have HOLD := Lib.hid hold
        have HNEW := Lib.hid hnew
        have HBr := Lib.hid hB
        have hfl := Lib.hid (firsts_len h k)
        clear hP hVal hRk hcc f0 f1 f2 ha hold hnew hB
        cases hv : valueOf (pts (h.take k)) ak with
        | some x =>
          rw [hv] at HV
          unfold valV at HV
          dsimp only [Option.getD, Option.isSome] at HV
          have HE : Hid (firsts h (k + 1) = firsts h k) := HOLD.out (by rw [hv]; rfl)
          clear hv HOLD HNEW
          go_wp2
          go_region_held3 (fun W => W.cell? ⟨b, o + k * 3, none⟩ = some (.string ak)) (go_keep)
            (first
              | (go_at_call 16; refine (HP.out wr.drew (Below.refl _ _).drew).mono ?_; rintro e w2 ⟨A2, c2, rfl, hown2, hb2⟩; (have hb2' : Below wr.heap.size wr w2 := (Below.refl _ _).drew.trans (hb2.mono (Nat.le_refl _))); (have i2 : w2.cell? ⟨b, o + k * 3, none⟩ = some (.string ak) := (hb2'.cell (p := ⟨b, o + k * 3, none⟩) hbr).trans k0); (have hv2 := (HV A2 c2 w2).out hown2.rd); clear hown2 hb2)
              | (go_at_call 25; refine hv2.mono ?_; rintro e w3 ⟨rfl, hb3⟩; (have hb3' : Below wr.heap.size wr w3 := hb2'.trans (hb3.mono hb2'.size)); (have i3 : w3.cell? ⟨b, o + k * 3, none⟩ = some (.string ak) := (hb3'.cell (p := ⟨b, o + k * 3, none⟩) hbr).trans k0)))
          have HB3 := Lib.hid (HBr.out.trans (hb3'.mono HBr.out.size))
          have HO3 := Lib.hid (HO.out.later hb3')
          clear hb3' hb2' hb3 i2 i3
          go_wp2
          go_roundw
          case rel => exact ⟨k + 1, by go_num, by omega, by rw [HE.out]; exact HO3.out.row, HB3.out⟩
          case measure => simp [intOf]; omega
        | none =>
          rw [hv] at HV
          unfold valV at HV
          dsimp only [Option.getD, Option.isSome] at HV
          have HE : Hid (firsts h (k + 1) = firsts h k ++ [(ak, av)]) := HNEW.out (by rw [hv]; rfl)
          clear hv HOLD HNEW
          go_wp2
          go_region_held3 (fun W => W.cell? ⟨b, o + k * 3, none⟩ = some (.string ak)) (go_keep)
            (first
              | (go_at_call 16; refine (HP.out wr.drew (Below.refl _ _).drew).mono ?_; rintro e w2 ⟨A2, c2, rfl, hown2, hb2⟩; (have hb2' : Below wr.heap.size wr w2 := (Below.refl _ _).drew.trans (hb2.mono (Nat.le_refl _))); (have i2 : w2.cell? ⟨b, o + k * 3, none⟩ = some (.string ak) := (hb2'.cell (p := ⟨b, o + k * 3, none⟩) hbr).trans k0); (have hv2 := (HV A2 c2 w2).out hown2.rd); clear hown2 hb2)
              | (go_at_call 25; refine hv2.mono ?_; rintro e w3 ⟨rfl, hb3⟩; (have hb3' : Below wr.heap.size wr w3 := hb2'.trans (hb3.mono hb2'.size)); (have i3 : w3.cell? ⟨b, o + k * 3, none⟩ = some (.string ak) := (hb3'.cell (p := ⟨b, o + k * 3, none⟩) hbr).trans k0)))
          have j0 : w3.cell? ⟨b, o + k * 3, none⟩ = some (.string ak) := i3
          have j1 : w3.cell? ⟨b, o + k * 3 + 1, none⟩ = some (.int .i64 av) := (hb3'.cell (p := ⟨b, o + k * 3 + 1, none⟩) hbr).trans k1
          have HB3 := Lib.hid (HBr.out.trans (hb3'.mono HBr.out.size))
          have HO3 := Lib.hid (HO.out.later hb3')
          have hl1 : (firsts h k).length ≤ 1000 := by have := hfl.out; omega
          clear hb3' hb2' hb3 i2 i3 k0 k1
          go_wp2
          go_region_law (first
            | (go_simp; go_at_call 27; refine (pair_any _ _ w3.drew).mono ?_; rintro e w4 ⟨rfl, hb4⟩; (have hb5 : Below w3.heap.size w3 w4 := (Below.refl _ _).drew.trans (hb4.mono (by simp))); (obtain ⟨v2, w6, hrun, hacc2, hb6⟩ := run_push w4 w1.heap.size w4.heap.size rfl (by have := HB3.out.size; have := hb5.size; omega) _ (firsts h k) (HO3.out.later hb5).row (ak, av) hl1); (have Hrun := Lib.hid hrun); clear hrun)
            | (refine upon_append _ _ _ rfl rfl rfl Hrun.out ?_))
          all_goals
            have HBn := Lib.hid ((HB3.out.trans (hb5.mono HB3.out.size)).trans hb6)
            clear hb4 hb5 hb6 Hrun j0 j1
            go_wp2
            go_roundw
            case rel => exact ⟨k + 1, by go_num, by omega, by rw [HE.out]; exact hacc2, HBn.out⟩
            case measure => simp [intOf]; omega
      · obtain rfl : k = h.length := by omega
        have hfu := firsts_uniq h h.length (Nat.le_refl _)
        have hfl := firsts_len h h.length
        obtain ⟨F, hF⟩ : ∃ F, F = firsts h h.length := ⟨_, rfl⟩
        rw [← hF] at hfu hfl HO
        rw [← hF]
        have HFU := Lib.hid hfu
        have HBr := Lib.hid hB
        obtain ⟨wy, rfl⟩ : ∃ wy : World, wy = wr := ⟨_, rfl⟩
        obtain ⟨s, hs⟩ : ∃ s, s = wy.heap.size := ⟨_, rfl⟩
        have HS := Lib.hid hs
        have hs0 : Hid (wy.heap.size = s) := hs.symm
        clear hfu hF hB hs
        go_wp2
        rw [hs0.out]
        go_loopw [58] (fun q wr => ∃ (k : Nat) (m : Ps) (A2 : Option Addr) (c2 : Nat), q = .int .i64 k ∧ k ≤ F.length ∧ wr.cell? ⟨s, 0, none⟩ = some (.slice A2 m.length c2) ∧ wr.frozen? ⟨s, 0, none⟩ = false ∧ s < wr.heap.size ∧ Rd wr wr.heap.size 2 A2 m.length c2 (flat m) ∧ Below s wy wr ∧ Hid (BackIs F k m)) (fun q _ => (F.length - intOf q).toNat)
        case atStart => exact ⟨0, [], none, 0, rfl, Nat.zero_le _, by rw [HS.out]; go_simp, by rw [HS.out]; go_simp, by rw [HS.out]; simp, Rd.nil _, (Below.refl _ _).alloc (by rw [HS.out]; exact Nat.le_refl _) _, BackIs.start F⟩
        case round =>
          obtain ⟨k, m, A2, c2, rfl, hk, hbox, hfrz, hsz, hrm, hBx, hback⟩ := hrel
          have HRM := Lib.hid hrm
          have HBX := Lib.hid hBx
          have HRF := Lib.hid ((HO.out.rd.below (by rw [hs0.out]; exact hBx)).more (by rw [hs0.out]; omega : wy.heap.size ≤ wr.heap.size))
          clear hrm
          by_cases hlt : k < F.length
          · obtain ⟨j, hj⟩ : ∃ j, j = F.length - 1 - k := ⟨_, rfl⟩
            have hjF : j < F.length := by omega
            have hj1 : (F.length : Int) - 1 - k = (j : Int) := by omega
            obtain ⟨bF, oF, rfl, hbF, hcF⟩ := HO.out.rd.at_ (by omega)
            obtain ⟨⟨fk, fv⟩, hfe⟩ : ∃ p, p = F[j] := ⟨_, rfl⟩
            have k0 : wr.cell? ⟨bF, oF + j * 2, none⟩ = some (.string fk) := (hBx.cell (p := ⟨bF, oF + j * 2, none⟩) (by rw [← hs0.out]; exact hbF)).trans (by rw [hcF _ _ (flat2_fst kc vc F j hjF), ← hfe]; rfl)
            have k1 : wr.cell? ⟨bF, oF + j * 2 + 1, none⟩ = some (.int .i64 fv) := (hBx.cell (p := ⟨bF, oF + j * 2 + 1, none⟩) (by rw [← hs0.out]; exact hbF)).trans (by rw [Nat.add_assoc, hcF _ _ (flat2_snd kc vc F j hjF), ← hfe]; rfl)
            have hml : m.length ≤ 1000 := by have := hback.out.2.1; omega
            have hup := hback.out.1
            have hstep := fun m' (hp : PutIs ltS m fk fv m') => BackIs.step (l := F) (m := m) (m' := m') (k := k) (j := j) HFU.out hjF (by omega) hback.out (by rw [← hfe]; exact hp)
            have HST := Lib.hid hstep
            have HFE := Lib.hid hfe
            have hjF' : (j : Int) < F.length := by omega
            have HPUT := fun W (hW : Below wr.heap.size wr W) => Lib.hid (put_any m fk fv A2 c2 W hml (HRM.out.later hW) hup)
            clear hcF hstep hfe hj hup hBx
            go_wp2_with (go_at_call 11; refine ((HPUT _ ((Below.refl _ _).alloc (Nat.le_refl _) _)).out).mono ?_; rintro e w2 ⟨m', hpi, A4, c4, rfl, hown4, hb4⟩; (have hb5 : Below wr.heap.size wr w2 := ((Below.refl _ _).alloc (Nat.le_refl _) _).trans (hb4.mono (by simp))); (have i0 : w2.cell? ⟨s, 0, none⟩ = some (.slice A2 m.length c2) := (hb5.cell (p := ⟨s, 0, none⟩) hsz).trans hbox); (have i1 : w2.frozen? ⟨s, 0, none⟩ = false := (hb5.frozen (p := ⟨s, 0, none⟩) hsz).trans hfrz); have HPI := Lib.hid (HST.out m' hpi); (have hln := hown4.row.lt); have HO4 := Lib.hid hown4; have HB5 := Lib.hid hb5; clear hpi hown4 hb4 hb5 hbox hfrz)
            have hsz2 : s < w2.heap.size := World.block_lt_of_cell? w2 ⟨s, 0, none⟩ i0
            go_roundw
            case rel =>
              refine ⟨k + 1, m', A4, c4, by go_num, by omega, by go_simp, by go_simp, by simpa [World.setCell] using hsz2, ?_, (HBX.out.trans (HB5.out.mono (Nat.le_of_lt hsz))).setCell (Nat.le_refl _) _, HPI.out⟩
              exact ((HO4.out.set_below (a := ⟨s, 0, none⟩) (by simp; omega) _).rd)
            case measure => simp [intOf]; omega
          · obtain rfl : k = F.length := by omega
            have hml : m.length ≤ 1000 := by have := hback.out.2.1; omega
            have hof : ∀ W, Below wr.heap.size wr W → Calls Try.prog 14 #[.slice A3 F.length c3] W fun e w' => m.length = F.length ∧ NewMap m W e w' := by
              intro W hW
              refine (of_all F A3 c3 W (HRF.out.later hW) (by omega) (fun h0 base g c' W' hrow => HSO.out base g _ c' F W' hrow h0 (by omega))).mono fun e w' hm => ?_
              obtain ⟨m1, hm1, _, hnm⟩ := hm
              obtain ⟨e1, e2⟩ := order_eq HFU.out hm1 hback.out
              subst e1; exact ⟨e2, hnm⟩
            have HOF := Lib.hid hof
            have hall := fun A c W (hr : Rd W W.heap.size 2 A m.length c (flat m)) => Lib.hid (all_any m A c W hml hr)
            clear hof hback
            go_wp2
            go_region_held3 (fun W => W.cell? ⟨s, 0, none⟩ = some (.slice A2 m.length c2)) (go_keep)
              (first
                | (go_at_call 14; refine (HOF.out wr.drew (Below.refl _ _).drew).mono ?_; rintro e w2 ⟨hln, A4, c4, rfl, hown4, hb4⟩; (have hb5 : Below wr.heap.size wr w2 := (Below.refl _ _).drew.trans (hb4.mono (Nat.le_refl _))); (have i2 : w2.cell? ⟨s, 0, none⟩ = some (.slice A2 m.length c2) := (hb5.cell (p := ⟨s, 0, none⟩) hsz).trans hbox); (have hv2 := (hall A4 c4 w2 hown4.rd).out); have HLN := Lib.hid hln; clear hown4 hb4 hln)
                | (go_at_call 24; first
                    | ((with_reducible refine hv2.mono ?_); rintro e w3 ⟨A5, c5, rfl, hown5, hb6⟩; (have hb7 : Below wr.heap.size wr w3 := hb5.trans (hb6.mono hb5.size)); (have i3 : w3.cell? ⟨s, 0, none⟩ = some (.slice A2 m.length c2) := (hb7.cell (p := ⟨s, 0, none⟩) hsz).trans hbox); (have hv3 := (hall A2 c2 w3 (HRM.out.later hb7)).out))
                    | ((with_reducible refine hv3.mono ?_); rintro e w4 ⟨A6, c6, rfl, hown6, hb8⟩; (have hb9 : Below wr.heap.size wr w4 := hb7.trans (hb8.mono hb7.size)); (have i4 : w4.cell? ⟨s, 0, none⟩ = some (.slice A2 m.length c2) := (hb9.cell (p := ⟨s, 0, none⟩) hsz).trans hbox))))
            have HR5 := Lib.hid (hown5.rd.later hb8)
            have HR6 := Lib.hid hown6.rd
            have HT := Lib.hid ((HB1.out.trans (HBr.out.mono HB1.out.size)).trans ((HBX.out.trans (hb9.mono (Nat.le_of_lt hsz))).mono (by have := HB1.out.size; have := HBr.out.size; rw [← hs0.out]; omega)))
            clear hown5 hown6 hb5 hb6 hb7 hb8 hb9 i2 i3 hv2 hv3 hbox hfrz hsz
            try clear i4
            go_wp2
            go_loopw [83] (fun q wr => ∃ k : Nat, q = .int .i64 k ∧ k ≤ m.length ∧ Below w4.heap.size w4 wr) (fun q _ => (m.length - intOf q).toNat)
            case atStart => exact ⟨0, rfl, Nat.zero_le _, Below.refl _ _⟩
            case round =>
              obtain ⟨k, rfl, hk, hB⟩ := hrel
              by_cases hlt : k < m.length
              · obtain ⟨g1, o1, rfl, hg1, hc1⟩ := HR5.out.at_ (by omega)
                obtain ⟨g2, o2, rfl, hg2, hc2⟩ := HR6.out.at_ (by omega)
                obtain ⟨⟨pk, pv⟩, hp⟩ : ∃ p, p = m[k] := ⟨_, rfl⟩
                have k1 : wr.cell? ⟨g1, o1 + k * 2, none⟩ = some (.string pk) := (hB.cell (p := ⟨g1, o1 + k * 2, none⟩) hg1).trans (by rw [hc1 _ _ (flat2_fst kc vc m k hlt), ← hp]; rfl)
                have k2 : wr.cell? ⟨g1, o1 + k * 2 + 1, none⟩ = some (.int .i64 pv) := (hB.cell (p := ⟨g1, o1 + k * 2 + 1, none⟩) hg1).trans (by rw [Nat.add_assoc, hc1 _ _ (flat2_snd kc vc m k hlt), ← hp]; rfl)
                have k3 : wr.cell? ⟨g2, o2 + k * 2, none⟩ = some (.string pk) := (hB.cell (p := ⟨g2, o2 + k * 2, none⟩) hg2).trans (by rw [hc2 _ _ (flat2_fst kc vc m k hlt), ← hp]; rfl)
                have k4 : wr.cell? ⟨g2, o2 + k * 2 + 1, none⟩ = some (.int .i64 pv) := (hB.cell (p := ⟨g2, o2 + k * 2 + 1, none⟩) hg2).trans (by rw [Nat.add_assoc, hc2 _ _ (flat2_snd kc vc m k hlt), ← hp]; rfl)
                have hk1 : (k : Int) < m.length := by omega
                have hk2 : decide ((m.length : Int) ≤ k) = false := by simp; omega
                have hk3 : decide (m.length ≤ k) = false := by simp; omega
                have HBB := Lib.hid hB
                clear hc1 hc2 hp hB
                go_wp2
                go_quiet (fail)
                go_wp2
                go_roundw
                case rel => exact ⟨k + 1, by go_num, by omega, bel_drewN HBB.out _⟩
                case measure => simp [intOf]; omega
              · obtain rfl : k = m.length := by omega
                have he1 : ((m.length : Int) == F.length) = true := by rw [HLN.out]; simp
                have HBB := Lib.hid hB
                clear hB
                go_wp2
                go_ret
                exact ⟨rfl, HT.out.trans (HBB.out.mono HT.out.size)⟩
  · have h60 : decide ((60 : Int) < h.length) = true := by simp; omega
    go_enter Try.func8, Try.ntmps8
    go_wp2_with (first | (go_at_call 9; have tok : True := trivial; refine (SortS.awake_any w).mono ?_; rintro e w1 ⟨rfl, hb1⟩) | (go_at_call 9; refine (SortS.awake_any w1).mono ?_; rintro e w2 ⟨rfl, hb2⟩))
    go_ret
    exact ⟨rfl, hb1.trans (hb2.mono hb1.size)⟩
end SortS
end Go.Proofs.Ytolfockpiioncaa
