/- 'tells': a map that answers what some acts made. -/
import Derived.Test.YtolfockpiioncaaIs
namespace Go.Proofs.Ytolfockpiioncaa
open Go.RowKit
namespace SortS
/-- what Get answers of a map that has what the acts made -/
theorem get_rep (h : List Act) (l : Ps) (t : ByteArray) (A : Option Addr) (c : Nat) (w : World) (hn : l.length ≤ 1000) (hr : Rd w w.heap.size 2 A l.length c (flat l)) (hrep : RepH h l) :
    Calls Try.prog 31 #[.agg #[.slice A l.length c], .string t] w fun e w' => e = .returned (valV (valueOf h t)) ∧ Below w.heap.size w w' := by
  cases hv : valueOf h t with
  | none =>
    refine (get_not l t A c w hn hr hrep.1 fun p hp e => ?_).mono fun e w' h1 => h1
    have := (hrep.2 p).1 hp
    rw [e, hv] at this; cases this
  | some x => exact (get_has l t x A c w hn hr hrep.1 ((hrep.2 (t, x)).2 hv)).mono fun e w' h1 => h1

/-- From and Cut with their lists under names -/
theorem from_named (l : Ps) (t : ByteArray) (A : Option Addr) (c : Nat) (w : World) (hn : l.length ≤ 1000) (hr : Rd w w.heap.size 2 A l.length c (flat l)) (hu : Up ltS l) :
    Calls Try.prog 32 #[.agg #[.slice A l.length c], .string t] w fun e w' => ∃ i lf, Hid (Place ltS l t i ∧ lf = l.drop i) ∧ NewRow 60 2 (flat lf) lf.length w e w' :=
  (from_any l t A c w hn hr hu).mono fun _ _ ⟨i, hp, h⟩ => ⟨i, _, ⟨hp, rfl⟩, h⟩
theorem cut_named (l : Ps) (n : Int) (A : Option Addr) (c : Nat) (w : World) (hn : l.length ≤ 1000) (hr : Rd w w.heap.size 2 A l.length c (flat l)) :
    Calls Try.prog 33 #[.agg #[.slice A l.length c], .int .i64 n] w fun e w' => ∃ lc, Hid (lc = l.take n.toNat) ∧ lc.length ≤ 1000 ∧ NewMap lc w e w' :=
  (cut_any l n A c w hn hr).mono fun _ _ h => ⟨_, rfl, by simp; omega, h⟩

set_option maxRecDepth 100000 in
set_option maxHeartbeats 2000000 in
theorem tells_any (h : List Act) (l : Ps) (t : ByteArray) (n : Int) (A H : Option Addr) (c d : Nat) (w : World) (hn : l.length ≤ 1000) (hhn : h.length ≤ 1000) (hr : Rd w w.heap.size 2 A l.length c (flat l)) (hh : Rd w w.heap.size 3 H h.length d (flatA h)) (hrep : RepH h l) :
    Calls Try.prog 13 #[.agg #[.slice A l.length c], .slice H h.length d, .string t, .int .i64 n] w fun e w' => e = .returned (.bool true) ∧ Below w.heap.size w w' := by
  have HR := Lib.hid hr
  have HH := Lib.hid hh
  have HREP := Lib.hid hrep
  obtain ⟨x, b, hx⟩ : ∃ (x : Int) (b : Bool), valV (valueOf h t) = .tuple #[.int .i64 x, .bool b] := ⟨_, _, rfl⟩
  have HG := Lib.hid (fun W hW => get_rep h l t A c W hn hW hrep)
  have HV := Lib.hid (fun W hW => Ref1.value_any h t H d W hW (by omega))
  rw [hx] at HG HV
  clear hr hh hrep hx
  go_enter Try.func13, Try.ntmps13
  go_wp2_with (first
    | (go_at_call 31; refine (HG.out _ ((HR.out.alloc (Nat.le_refl _) _).more (by simp))).mono ?_; rintro e w1 ⟨rfl, hb1⟩; (have hbox1 : w1.cell? ⟨w.heap.size, 0, none⟩ = some (.slice A l.length c) := (hb1.cell (p := ⟨w.heap.size, 0, none⟩) (by simp)).trans (by go_simp)); (have hB1 : Below w.heap.size w w1 := ((Below.refl _ _).alloc (Nat.le_refl _) _).trans (hb1.mono (by simp))); (have hz1 : w.heap.size < w1.heap.size := (by have := hb1.size; simp at this; omega)))
    | (go_at_call 25; refine (HV.out _ ((HH.out.below hB1).more hB1.size)).mono ?_; rintro e w2 ⟨rfl, hb2⟩; (have hbox2 : w2.cell? ⟨w.heap.size, 0, none⟩ = some (.slice A l.length c) := (hb2.cell (p := ⟨w.heap.size, 0, none⟩) hz1).trans hbox1)))
  have hB2 : Below w.heap.size w w2 := hB1.trans (hb2.mono hB1.size)
  have hz2 : w.heap.size < w2.heap.size := Nat.lt_of_lt_of_le hz1 hb2.size
  have HR2 := Lib.hid ((HR.out.below hB2).more hB2.size)
  clear hbox1 hb1 hb2
  go_region_held3 (fun W => W.cell? ⟨w.heap.size, 0, none⟩ = some (.slice A l.length c)) (go_keep)
    (first
    | (go_at_call 24; refine (all_any l A c w2.drew hn HR2.out.drew).mono ?_; rintro e w3 ⟨A3, c3, rfl, hown3, hb3⟩; (have hbox3 : w3.cell? ⟨w.heap.size, 0, none⟩ = some (.slice A l.length c) := (hb3.cell (p := ⟨w.heap.size, 0, none⟩) hz2).trans hbox2); (have hz3 : w.heap.size < w3.heap.size := Nat.lt_of_lt_of_le hz2 hb3.size); (have HR3 := Lib.hid (HR2.out.drew.later hb3)))
    | (go_at_call 32; refine (from_named l t A c w3 hn HR3.out HREP.out.1).mono ?_; rintro e w4 ⟨i, lf, hlf, A4, c4, rfl, hown4, hb4⟩; (have hbox4 : w4.cell? ⟨w.heap.size, 0, none⟩ = some (.slice A l.length c) := (hb4.cell (p := ⟨w.heap.size, 0, none⟩) hz3).trans hbox3); (have hz4 : w.heap.size < w4.heap.size := Nat.lt_of_lt_of_le hz3 hb4.size); (have HR4 := Lib.hid (HR3.out.later hb4)))
    | (go_at_call 33; refine (cut_named l n A c w4 hn HR4.out).mono ?_; rintro e w5 ⟨lc, hlc, hlcn, A5, c5, rfl, hrb5, hb5⟩; (have hbox5 : w5.cell? ⟨w.heap.size, 0, none⟩ = some (.slice A l.length c) := (hb5.cell (p := ⟨w.heap.size, 0, none⟩) hz4).trans hbox4); (have hz5 : w.heap.size < w5.heap.size := Nat.lt_of_lt_of_le hz4 hb5.size))
    | (go_at_call 24; refine (all_any lc A5 c5 w5 hlcn hrb5.rd).mono ?_; rintro e w6 ⟨A6, c6, rfl, hown6, hb6⟩; (have hbox6 : w6.cell? ⟨w.heap.size, 0, none⟩ = some (.slice A l.length c) := (hb6.cell (p := ⟨w.heap.size, 0, none⟩) hz5).trans hbox5)))
  have hB3 : Below w.heap.size w w3 := hB2.drew.trans (hb3.mono hB2.size)
  have hB4 : Below w.heap.size w w4 := hB3.trans (hb4.mono hB3.size)
  have hB5 : Below w.heap.size w w5 := hB4.trans (hb5.mono hB4.size)
  have hB6 : Below w.heap.size w w6 := hB5.trans (hb6.mono hB5.size)
  have HL := Lib.hid (((hown3.rd.later hb4).later hb5).later hb6)
  have HF := Lib.hid ((hown4.rd.later hb5).later hb6)
  have HC := Lib.hid hown6.rd
  have hql : lc.length = min n.toNat l.length := by rw [hlc, List.length_take]
  have HQL := Lib.hid hql
  clear hown3 hown4 hown6 hrb5 hb3 hb4 hb5 hb6 hbox2 hbox3 hbox4 hbox5 hbox6
  have hcase : (n ≤ 0 ∧ ((lc.length : Int) == 0) = true ∧ ((lc.length : Int) != 0) = false) ∨ (0 < n ∧ n ≤ (l.length : Int) ∧ ((lc.length : Int) == n) = true ∧ ((lc.length : Int) != n) = false) ∨ ((l.length : Int) < n ∧ 0 < n ∧ ((lc.length : Int) == (l.length : Int)) = true ∧ ((lc.length : Int) != (l.length : Int)) = false) := by
    by_cases h1 : n ≤ 0
    · have e : (lc.length : Int) = 0 := by omega
      exact .inl ⟨h1, by rw [e]; rfl, by rw [e]; rfl⟩
    · by_cases h2 : n ≤ (l.length : Int)
      · have e : (lc.length : Int) = n := by omega
        exact .inr (.inl ⟨by omega, h2, by rw [e]; simp, by rw [e]; simp⟩)
      · have e : (lc.length : Int) = l.length := by omega
        exact .inr (.inr ⟨by omega, by omega, by rw [e]; simp, by rw [e]; simp⟩)
  clear hql
  have hln : (0 : Int) ≤ l.length := by omega
  rcases hcase with ⟨f1, f2, f3⟩ | ⟨f1, f2, f3, f4⟩ | ⟨f1, f2, f3, f4⟩
  all_goals go_wp2
  all_goals
    go_loopw [58] (fun q wr => ∃ k : Nat, q = .int .i64 k ∧ k ≤ lc.length ∧ Below w6.heap.size w6 wr) (fun q _ => (lc.length - intOf q).toNat)
    case atStart => exact ⟨0, rfl, Nat.zero_le _, Below.refl _ _⟩
    case round =>
      obtain ⟨k, rfl, hk, hB⟩ := hrel
      obtain ⟨wx, rfl⟩ : ∃ wx : World, wx = wr := ⟨_, rfl⟩
      by_cases hlt : k < lc.length
      · obtain ⟨g1, o1, rfl, hg1, hc1⟩ := HC.out.at_ (by omega)
        have hkl : k < l.length := by have := HQL.out; omega
        obtain ⟨g2, o2, rfl, hg2, hc2⟩ := HL.out.at_ (by omega)
        obtain ⟨⟨pk, pv⟩, hp⟩ : ∃ p, p = l[k] := ⟨_, rfl⟩
        have hpc : (pk, pv) = lc[k] := by
          have e := hlc.out
          subst e
          rw [hp, List.getElem_take]
        have k1 : wx.cell? ⟨g1, o1 + k * 2, none⟩ = some (.string pk) := (hB.cell (p := ⟨g1, o1 + k * 2, none⟩) hg1).trans (by rw [hc1 _ _ (flat2_fst kc vc lc k hlt), ← hpc]; rfl)
        have k2 : wx.cell? ⟨g1, o1 + k * 2 + 1, none⟩ = some (.int .i64 pv) := (hB.cell (p := ⟨g1, o1 + k * 2 + 1, none⟩) hg1).trans (by rw [Nat.add_assoc, hc1 _ _ (flat2_snd kc vc lc k hlt), ← hpc]; rfl)
        have k3 : wx.cell? ⟨g2, o2 + k * 2, none⟩ = some (.string pk) := (hB.cell (p := ⟨g2, o2 + k * 2, none⟩) hg2).trans (by rw [hc2 _ _ (flat2_fst kc vc l k hkl), ← hp]; rfl)
        have k4 : wx.cell? ⟨g2, o2 + k * 2 + 1, none⟩ = some (.int .i64 pv) := (hB.cell (p := ⟨g2, o2 + k * 2 + 1, none⟩) hg2).trans (by rw [Nat.add_assoc, hc2 _ _ (flat2_snd kc vc l k hkl), ← hp]; rfl)
        have hk1 : (k : Int) < l.length := by omega
        have hk2 : (k : Int) < lc.length := by omega
        clear hc1 hc2 hp hpc
        go_wp2
        go_quiet (fail)
        go_wp2
        go_roundw
        case rel => exact ⟨k + 1, by go_num, by omega, bel_drewN hB _⟩
        case measure => simp [intOf]; omega
      · obtain rfl : k = lc.length := by omega
        go_wp2
        go_loopw [17, 73] (fun v q wr => ∃ k : Nat, q = .int .i64 k ∧ v = .int .i64 ((k - i : Nat) : Int) ∧ k ≤ l.length ∧ Below w6.heap.size w6 wr) (fun _ q _ => (l.length - intOf q).toNat)
        case atStart => exact ⟨0, rfl, by simp, Nat.zero_le _, hB⟩
        case round =>
          clear hB
          obtain ⟨k, rfl, rfl, hk, hB⟩ := hrel
          obtain ⟨wy, rfl⟩ : ∃ wy : World, wy = wr := ⟨_, rfl⟩
          by_cases hlt : k < l.length
          · obtain ⟨g2, o2, rfl, hg2, hc2⟩ := HL.out.at_ (by omega)
            obtain ⟨⟨pk, pv⟩, hp⟩ : ∃ p, p = l[k] := ⟨_, rfl⟩
            have k3 : wy.cell? ⟨g2, o2 + k * 2, none⟩ = some (.string pk) := (hB.cell (p := ⟨g2, o2 + k * 2, none⟩) hg2).trans (by rw [hc2 _ _ (flat2_fst kc vc l k hlt), ← hp]; rfl)
            have k4 : wy.cell? ⟨g2, o2 + k * 2 + 1, none⟩ = some (.int .i64 pv) := (hB.cell (p := ⟨g2, o2 + k * 2 + 1, none⟩) hg2).trans (by rw [Nat.add_assoc, hc2 _ _ (flat2_snd kc vc l k hlt), ← hp]; rfl)
            have hk1 : (k : Int) < l.length := by omega
            by_cases hki : k < i
            · have hl1 : Op.bytesLess pk.toList t.toList = true := by
                have := hlf.out.1.2.1 k hlt hki
                rw [← hp] at this
                exact this
              have e0 : Hid (k + 1 - i = k - i) := by unfold Hid; omega
              clear hc2 hp hki
              go_wp2
              go_roundw
              case rel => exact ⟨k + 1, by go_num, by rw [e0.out], by omega, hB⟩
              case measure => simp [intOf]; omega
            · have hl1 : Op.bytesLess pk.toList t.toList = false := by
                have h1 := hlf.out.1.2.2 k hlt (by omega)
                rw [← hp] at h1
                cases h2 : Op.bytesLess pk.toList t.toList
                · rfl
                · exact (h1 h2).elim
              obtain ⟨j, hj⟩ : ∃ j, j = k - i := ⟨_, rfl⟩
              have hjl : j < lf.length := by rw [hlf.out.2, List.length_drop]; omega
              have hpf : (pk, pv) = lf[j] := by
                have e := hlf.out.2
                subst e
                rw [hp, List.getElem_drop]
                have : i + j = k := by omega
                simp only [this]
              obtain ⟨g1, o1, rfl, hg1, hc1⟩ := HF.out.at_ (by omega)
              have k1 : wy.cell? ⟨g1, o1 + j * 2, none⟩ = some (.string pk) := (hB.cell (p := ⟨g1, o1 + j * 2, none⟩) hg1).trans (by rw [hc1 _ _ (flat2_fst kc vc lf j hjl), ← hpf]; rfl)
              have k2 : wy.cell? ⟨g1, o1 + j * 2 + 1, none⟩ = some (.int .i64 pv) := (hB.cell (p := ⟨g1, o1 + j * 2 + 1, none⟩) hg1).trans (by rw [Nat.add_assoc, hc1 _ _ (flat2_snd kc vc lf j hjl), ← hpf]; rfl)
              have hjl1 : (j : Int) < lf.length := by omega
              have hjl4 : (j : Int) ≤ 1000 := by omega
              have hjl2 : decide ((lf.length : Int) ≤ j) = false := by simp; omega
              have hjl3 : decide (lf.length ≤ j) = false := by simp; omega
              have e0 : Hid (k + 1 - i = j + 1) := by unfold Hid; omega
              rw [← hj]
              clear hc1 hc2 hp hpf hki hj
              go_wp2
              go_quiet (fail)
              go_wp2
              go_roundw
              case rel => exact ⟨k + 1, by go_num, by rw [e0.out]; go_num, by omega, bel_drewN hB _⟩
              case measure => simp [intOf]; omega
          · obtain rfl : k = l.length := by omega
            have hend : Hid (((l.length - i : Nat) : Int) = (lf.length : Int)) := by
              unfold Hid
              rw [hlf.out.2, List.length_drop]
            rw [hend.out]
            go_wp2
            go_ret
            refine ⟨?_, hB6.trans (hB.mono hB6.size)⟩
            show Ending.returned (.bool _) = Ending.returned (.bool true)
            simp
end SortS
end Go.Proofs.Ytolfockpiioncaa
