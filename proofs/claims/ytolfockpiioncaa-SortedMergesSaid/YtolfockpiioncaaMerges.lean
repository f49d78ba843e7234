/- SortedMerges, by the contract of the sort. -/
import Derived.Test.YtolfockpiioncaaMerge5
import Derived.Test.YtolfockpiioncaaLater
import Derived.ChangeKeysEq
import Derived.Laws.StructEq
namespace Go.Proofs.Ytolfockpiioncaa
open Go.RowKit
namespace SortS
theorem cellsI : Try.prog.cellsOf 3 = 1 := by kernel_rfl
theorem infoI : ∃ i, Try.prog.info? 3 = some i := by
  have h : (Try.prog.info? 3).isSome = true := by kernel_rfl
  exact Option.isSome_iff_exists.1 h
theorem eq2 (W : World) (a b : Int) : (Op.equalIn 10000 54 (.agg #[.int .i64 a, .int .i64 b]) (.agg #[.int .i64 a, .int .i64 b])).run Try.prog W = Result.ok true W := by
  obtain ⟨i0, hi0⟩ := infoI
  rw [show (10000 : Nat) = 9999 + 1 from rfl, run_equalIn_array W 9999 _ _ Try.underlying54 hi0, cellsI]
  have hp : Try.prog.plainKey 3 = true := by kernel_rfl
  have he : ∀ (x y : Int) (W : World), (Op.equalIn 9999 3 (.int .i64 x) (.int .i64 y)).run Try.prog W = Result.ok (x == y) W := fun x y W => run_equalIn_int W 9998 3 .i64 .i64 x y Try.underlying3
  have hr : List.range 2 = [0, 1] := rfl
  rw [hr]
  have p0 : ∀ (xs : Array Value) (i : Nat) (v : Value) (W : World), xs[i]? = some v → (Go.part 3 xs i).run Try.prog W = Result.ok v W := fun xs i v W hx => run_part_plain (P := Try.prog) W hp hx
  have q0 := fun W => p0 #[.int .i64 a, .int .i64 b] 0 (.int .i64 a) W rfl
  have q1 := fun W => p0 #[.int .i64 a, .int .i64 b] 1 (.int .i64 b) W rfl
  simp [Op.eqItems, Sem.run_bind, Nat.mul_one, q0, q1, Result.andThen_ok, he, Sem.run_pure]
theorem fl2_at : ∀ (L : List (Int × Int)) (j : Nat) (z : Int × Int), L[j]? = some z → (fl2 L)[j * 2]? = some (.int .i64 z.1) ∧ (fl2 L)[j * 2 + 1]? = some (.int .i64 z.2)
  | x :: L, 0, z, h => by
    injection h with h
    subst h
    exact ⟨rfl, rfl⟩
  | x :: L, j + 1, z, h => by
    have ih := fl2_at L j z h
    have e1 : (j + 1) * 2 = j * 2 + 1 + 1 := by omega
    rw [e1]
    exact ih
set_option maxRecDepth 100000 in
set_option maxHeartbeats 4000000 in
theorem merges_law (a b : List Act) (A B : Option Addr) (ca cb : Nat) (w : World) (ha : Rd w w.heap.size 3 A a.length ca (flatA a)) (hb : Rd w w.heap.size 3 B b.length cb (flatA b)) (hca : a.length ≤ maxLen) (hcb : b.length ≤ maxLen) (hra : ∀ x ∈ a, -9223372036854775808 ≤ x.v ∧ x.v ≤ 9223372036854775807) (hrb : ∀ x ∈ b, -9223372036854775808 ≤ x.v ∧ x.v ≤ 9223372036854775807)
    (hsort : ∀ (base g n c : Nat) (xs : Ps) (w : World), Row base g n c w xs → 0 < n → n ≤ 1000 → Calls Try.prog 35 #[.slice (some ⟨g, 0, none⟩) n c, .func (.func 36) #[] #[]] w
      (Turned base g n c (fun ys => Stable xs ys) w)) :
    Calls Try.prog 6 #[.slice A a.length ca, .slice B b.length cb] w fun e w' => e = .returned (.bool true) ∧ Below w.heap.size w w' := by
  unfold maxLen at hca hcb
  have HRA := Lib.hid hra
  have HRB := Lib.hid hrb
  clear hra hrb
  have HA := Lib.hid ha
  have HB := Lib.hid hb
  have HSO := Lib.hid hsort
  clear ha hb hsort
  obtain ⟨na, hna⟩ : ∃ n, n = a.length := ⟨_, rfl⟩
  obtain ⟨nb, hnb⟩ : ∃ n, n = b.length := ⟨_, rfl⟩
  rw [← hna] at hca HA ⊢
  rw [← hnb] at hcb HB ⊢
  have HNA := Lib.hid hna
  have HNB := Lib.hid hnb
  clear hna hnb
  by_cases hbig : na ≤ 60 ∧ nb ≤ 60
  · obtain ⟨h1, h2⟩ := hbig
    have f1 : decide ((60 : Int) < na) = false := by simp; omega
    have f2 : decide ((60 : Int) < nb) = false := by simp; omega
    -- the contracts, at whatever world
    have HPA := Lib.hid fun (W : World) (c : Nat) (A : Option Addr) (hr : Rd W W.heap.size 3 A na c (flatA a)) => (by
      have := puts_any a A c W (by rw [← HNA.out]; exact hr) (by rw [← HNA.out]; omega)
      rwa [← HNA.out] at this : Calls Try.prog 16 #[.slice A na c] W (NewRow 29 3 (flatA (pts a)) na W))
    have HPB := Lib.hid fun (W : World) (c : Nat) (A : Option Addr) (hr : Rd W W.heap.size 3 A nb c (flatA b)) => (by
      have := puts_any b A c W (by rw [← HNB.out]; exact hr) (by rw [← HNB.out]; omega)
      rwa [← HNB.out] at this : Calls Try.prog 16 #[.slice A nb c] W (NewRow 29 3 (flatA (pts b)) nb W))
    have HQA := Lib.hid fun (W : World) (c : Nat) (A : Option Addr) (hr : Rd W W.heap.size 3 A na c (flatA (pts a))) => (by
      have := pairs_any (pts a) A c W (by rw [pts_len, ← HNA.out]; exact hr) (by rw [pts_len, ← HNA.out]; omega)
      rwa [pts_len, ← HNA.out, prs_pts] at this : Calls Try.prog 15 #[.slice A na c] W (NewRow 60 2 (flat (prs a)) na W))
    have HQB := Lib.hid fun (W : World) (c : Nat) (A : Option Addr) (hr : Rd W W.heap.size 3 A nb c (flatA (pts b))) => (by
      have := pairs_any (pts b) A c W (by rw [pts_len, ← HNB.out]; exact hr) (by rw [pts_len, ← HNB.out]; omega)
      rwa [pts_len, ← HNB.out, prs_pts] at this : Calls Try.prog 15 #[.slice A nb c] W (NewRow 60 2 (flat (prs b)) nb W))
    have HFA := Lib.hid fun (W : World) (c : Nat) (A : Option Addr) (hr : Rd W W.heap.size 2 A na c (flat (prs a))) => (by
      have := of_all (prs a) A c W (by rw [prs_len, ← HNA.out]; exact hr) (by rw [prs_len, ← HNA.out]; omega) (fun h0 base g c' W' hrow => HSO.out base g _ c' (prs a) W' hrow h0 (by rw [prs_len, ← HNA.out]; omega))
      rwa [prs_len, ← HNA.out] at this : Calls Try.prog 14 #[.slice A na c] W fun e w' => ∃ m, OfIs ltS (prs a) m ∧ m.length ≤ na ∧ NewMap m W e w')
    have HFB := Lib.hid fun (W : World) (c : Nat) (A : Option Addr) (hr : Rd W W.heap.size 2 A nb c (flat (prs b))) => (by
      have := of_all (prs b) A c W (by rw [prs_len, ← HNB.out]; exact hr) (by rw [prs_len, ← HNB.out]; omega) (fun h0 base g c' W' hrow => HSO.out base g _ c' (prs b) W' hrow h0 (by rw [prs_len, ← HNB.out]; omega))
      rwa [prs_len, ← HNB.out] at this : Calls Try.prog 14 #[.slice A nb c] W fun e w' => ∃ m, OfIs ltS (prs b) m ∧ m.length ≤ nb ∧ NewMap m W e w')
    have hmf : ∀ (fn : Fn) (first cap : Array Value) (w : World), (Instr.makeFunc fn first cap).run Try.prog w = .ok (.func fn first cap) w := fun _ _ _ _ => rfl
    go_enter Try.func6, Try.ntmps6
    go_wp2_with (go_at_call 9; refine (SortS.awake_any _).mono ?_; rintro e w1 ⟨rfl, hb1⟩)
    have HB1 := Lib.hid hb1
    have r2 := HPA.out w1 ca A (HA.out.later hb1)
    refine r2.mono ?_
    rintro e w2 ⟨A2, c2, rfl, hown2, hb2⟩
    have HB2 := Lib.hid (hb1.trans (hb2.mono hb1.size))
    have HO2 := Lib.hid hown2
    have z01 := hb1.size
    have z12 := hb2.size
    clear r2 hb1 hb2 hown2
    go_wp2_with fail
    have r3 := HPB.out w2 cb B (HB.out.later HB2.out)
    refine r3.mono ?_
    rintro e w3 ⟨A3, c3, rfl, hown3, hb3⟩
    have HB3 := Lib.hid (HB2.out.trans (hb3.mono HB2.out.size))
    have HO2b := Lib.hid (HO2.out.later hb3)
    have HO3 := Lib.hid hown3
    have z23 := hb3.size
    clear r3 hb3 hown3
    go_wp2_with fail
    have r4 := HQA.out w3 c2 A2 HO2b.out.rd
    refine r4.mono ?_
    rintro e w4 ⟨A4, c4, rfl, hown4, hb4⟩
    have HO4 := Lib.hid hown4
    have HB4 := Lib.hid hb4
    clear r4 hown4 hb4
    go_wp2_with fail
    have r5 := HFA.out w4 c4 A4 HO4.out.rd
    refine r5.mono ?_
    rintro e w5 ⟨ma, hma, hmal, A5, c5, rfl, hown5, hb5⟩
    have HMA := Lib.hid hma
    have HO5 := Lib.hid hown5
    have HB5 := Lib.hid (HB4.out.trans (hb5.mono HB4.out.size))
    clear r5 hma hown5 hb5
    go_wp2_with fail
    have r6 := HQB.out w5 c3 A3 (HO3.out.rd.later HB5.out)
    refine r6.mono ?_
    rintro e w6 ⟨A6, c6, rfl, hown6, hb6⟩
    have HO6 := Lib.hid hown6
    have HB6 := Lib.hid (HB5.out.trans (hb6.mono HB5.out.size))
    have HO5b := Lib.hid (HO5.out.rd.later hb6)
    clear r6 hown6 hb6
    go_wp2_with fail
    have r7 := HFB.out w6 c6 A6 HO6.out.rd
    refine r7.mono ?_
    rintro e w7 ⟨mb, hmb, hmbl, A7, c7, rfl, hown7, hb7⟩
    have HMB := Lib.hid hmb
    have HO7 := Lib.hid hown7
    have HB7 := Lib.hid (HB6.out.trans (hb7.mono HB6.out.size))
    have HO5c := Lib.hid (HO5b.out.later hb7)
    clear r7 hmb hown7 hb7
    go_wp2_with fail
    obtain ⟨s, hs⟩ : ∃ s, s = w7.heap.size := ⟨_, rfl⟩
    obtain ⟨P, hP⟩ : ∃ P, P = w7.heap.size + 1 + 1 := ⟨_, rfl⟩
    obtain ⟨W9, hW9⟩ : ∃ W9, W9 = ((w7.alloc (.cells #[.slice A5 ma.length c5] 26)).alloc (.cells #[.slice A7 mb.length c7] 26)).alloc (.cells #[.slice none 0 0] 52) := ⟨_, rfl⟩
    rw [← hP, ← hs, ← hW9]
    have hB9 : Below w7.heap.size w7 W9 := by rw [hW9]; exact ((((Below.refl _ _).alloc (Nat.le_refl _) _).alloc (by simp) _).alloc (by simp; omega) _)
    have y5 : W9.cell? ⟨s, 0, none⟩ = some (.slice A5 ma.length c5) := by rw [hW9, hs]; go_simp
    have y6 : W9.cell? ⟨s + 1, 0, none⟩ = some (.slice A7 mb.length c7) := by rw [hW9, hs]; go_simp
    have y7 : LogAt W9 P none [] := ⟨⟨.slice none 0 0, by rw [hW9, hP]; go_simp, rfl, World.ownsRow_nil _ _ _ _⟩, by rw [hW9, hP]; go_simp⟩
    have hsz9 : W9.heap.size = s + 3 := by rw [hW9, hs]; simp
    have hPs : P = s + 2 := by omega
    have e5 : Rd W9 P 2 A5 ma.length c5 (flat ma) := ((HO5c.out.below hB9).more (by omega))
    have e7 : Rd W9 P 2 A7 mb.length c7 (flat mb) := ((HO7.out.rd.below hB9).more (by omega))
    have r8 := merge_note ma mb A5 A7 c5 c7 P W9 y7 e5 e7 (by omega) (by omega)
    refine r8.mono ?_
    rintro e w10 ⟨A8, c8, g, rfl, hown8, hlog, htwo⟩
    obtain ⟨M, hM⟩ : ∃ M, M = mrg put2 ma mb := ⟨_, rfl⟩
    obtain ⟨Lm, hLm⟩ : ∃ Lm, Lm = met ma mb := ⟨_, rfl⟩
    have hlen2 := mrg_len put2 _ ma mb (Nat.le_refl _)
    rw [← hM] at hown8 hlen2 ⊢
    rw [← hLm] at hlog hlen2
    have hRA := RepH.of HMA.out
    have hRB := RepH.of HMB.out
    obtain ⟨hmet, hpair⟩ := met_is (valueOf (pts a)) (valueOf (pts b)) _ ma mb (Nat.le_refl _) ((up_pair _).1 hRA.1) ((up_pair _).1 hRB.1) (knows_of hRA hRB)
    have hMup := (mrg_is put2 _ ma mb (Nat.le_refl _) ((up_pair _).1 hRA.1) ((up_pair _).1 hRB.1)).up
    rw [← hM] at hmet hpair hMup
    rw [← hLm] at hmet
    obtain ⟨vL, hv1, _, hv3⟩ := hlog.at_
    obtain ⟨AL, cL, rfl, hownL⟩ := Own.of_row hv3 (by intro u hu; unfold fl2 at hu; obtain ⟨z, _, hz⟩ := List.mem_flatMap.1 hu; simp at hz; rcases hz with rfl | rfl <;> rfl)
    have x5 : w10.cell? ⟨s, 0, none⟩ = some (.slice A5 ma.length c5) := (htwo.cell (p := ⟨s, 0, none⟩) (show s < _ by omega) (show s ≠ P by omega) (by simp)).trans y5
    have x6 : w10.cell? ⟨s + 1, 0, none⟩ = some (.slice A7 mb.length c7) := (htwo.cell (p := ⟨s + 1, 0, none⟩) (show s + 1 < _ by omega) (show s + 1 ≠ P by omega) (by simp)).trans y6
    have hB10 : Below w7.heap.size w7 w10 := hB9.trans (htwo.below (by omega) (by simp) (by omega))
    have hB37 := HB7.out.trans (hB10.mono HB7.out.size)
    have g2 := HO2b.out.rd.later hB37
    have g3 := HO3.out.rd.later hB37
    have g5 := HO5c.out.later hB10
    have g7 := HO7.out.rd.later hB10
    have gL := hownL.rd
    have HT10 := Lib.hid (HB3.out.trans (hB37.mono HB3.out.size))
    have hs10 : s + 3 ≤ w10.heap.size := by have := htwo.size; omega
    have hP10 : P < w10.heap.size := by omega
    have G2 := Lib.hid g2
    have G3 := Lib.hid g3
    have G5 := Lib.hid g5
    have G7 := Lib.hid g7
    have GL := Lib.hid gL
    have G8 := Lib.hid hown8.rd
    have HMET := Lib.hid hmet
    have HPAIR := Lib.hid hpair
    have HMUP := Lib.hid hMup
    have HREPA := Lib.hid hRA
    have HREPB := Lib.hid hRB
    have HLEN2 := Lib.hid hlen2
    have HPS := Lib.hid hPs
    clear r8 hown8 hlog htwo hM hLm hlen2 hRA hRB hmet hpair hMup hv3 hownL g2 g3 g5 g7 gL hB10 hB37 hB9 y5 y6 y7 e5 e7 hW9 hs hP hsz9 hPs
    have hML : M.length ≤ 1000 := by have := HLEN2.out; omega
    go_wp2_with fail
    have hb11 : Below w10.heap.size w10 (w10.alloc (.cells #[.slice A8 M.length c8] 26)) := (Below.refl _ _).alloc (Nat.le_refl _) _
    refine (all_any M A8 c8 _ hML (G8.out.later hb11)).mono ?_
    rintro e w12 ⟨A12, c12, rfl, hown12, hb12⟩
    have hb := hb11.trans (hb12.mono hb11.size)
    have z5 := (hb.cell (p := ⟨s, 0, none⟩) (show s < _ by omega)).trans x5
    have z6 := (hb.cell (p := ⟨s + 1, 0, none⟩) (show s + 1 < _ by omega)).trans x6
    have zP := (hb.cell (p := ⟨P, 0, none⟩) hP10).trans hv1
    have F2 := Lib.hid (G2.out.later hb)
    have F3 := Lib.hid (G3.out.later hb)
    have F5 := Lib.hid (G5.out.later hb)
    have F7 := Lib.hid (G7.out.later hb)
    have FL := Lib.hid (GL.out.later hb)
    have F12 := Lib.hid hown12.rd
    have HT12 := Lib.hid (HT10.out.trans (hb.mono HT10.out.size))
    have h512 : s < w12.heap.size := World.block_lt_of_cell? w12 _ z5
    have h612 : s + 1 < w12.heap.size := World.block_lt_of_cell? w12 _ z6
    have hP12 : P < w12.heap.size := World.block_lt_of_cell? w12 _ zP
    clear hb11 hb12 hb hown12 x5 x6 hv1 hs10 hP10
    obtain ⟨va, hva⟩ : ∃ va, va = valueOf (pts a) := ⟨_, rfl⟩
    obtain ⟨vb, hvb⟩ : ∃ vb, vb = valueOf (pts b) := ⟨_, rfl⟩
    have HVA := Lib.hid hva
    have HVB := Lib.hid hvb
    clear hva hvb
    go_wp2
    go_loopw [10, 48] (fun mt q wr => ∃ k : Nat, q = .int .i64 k ∧ mt = .int .i64 (cnt va vb M k) ∧ k ≤ M.length ∧ Below w12.heap.size w12 wr) (fun _ q _ => (M.length - intOf q).toNat)
    case atStart => exact ⟨0, rfl, by rw [cnt_zero]; rfl, Nat.zero_le _, Below.refl _ _⟩
    case round =>
      obtain ⟨k, rfl, rfl, hk, hB⟩ := hrel
      by_cases hlt : k < M.length
      · obtain ⟨gg, oo, rfl, hgg, hcc⟩ := F12.out.at_ (by omega)
        obtain ⟨⟨pk, pv⟩, hp⟩ : ∃ p, p = M[k] := ⟨_, rfl⟩
        have k0 := hcc _ _ (flat2_fst kc vc M k hlt)
        have k1 := hcc _ _ (flat2_snd kc vc M k hlt)
        rw [← hp] at k0 k1
        rw [← Nat.add_assoc] at k1
        have hpi : PairIs va vb (pk, pv) := by rw [HVA.out, HVB.out]; exact HPAIR.out _ (by rw [hp]; exact List.getElem_mem hlt)
        have hV2 : ∀ W, Below w12.heap.size w12 W → Calls Try.prog 25 #[.slice A2 na c2, .string pk] W fun e w' => e = .returned (valV (va pk)) ∧ Below W.heap.size W w' := by
          intro W hW
          have := Ref1.value_any (pts a) pk A2 c2 W (by rw [pts_len, ← HNA.out]; exact F2.out.later hW) (by rw [pts_len, ← HNA.out]; omega)
          rwa [pts_len, ← HNA.out, ← HVA.out] at this
        have hV3 : ∀ W, Below w12.heap.size w12 W → Calls Try.prog 25 #[.slice A3 nb c3, .string pk] W fun e w' => e = .returned (valV (vb pk)) ∧ Below W.heap.size W w' := by
          intro W hW
          have := Ref1.value_any (pts b) pk A3 c3 W (by rw [pts_len, ← HNB.out]; exact F3.out.later hW) (by rw [pts_len, ← HNB.out]; omega)
          rwa [pts_len, ← HNB.out, ← HVB.out] at this
        have hki : (k : Int) < M.length := by omega
        have hcnt0 := fun h => cnt_none (va := va) (vb := vb) (M := M) (k := k) hlt h
        have hcnt1 := fun z h => cnt_some (va := va) (vb := vb) (M := M) (k := k) (z := z) hlt h
        have hcat := fun z h => cnt_at (va := va) (vb := vb) (M := M) (k := k) (z := z) hlt h
        rw [← hp] at hcnt0 hcnt1 hcat
        rw [HVA.out, HVB.out, ← HMET.out, ← HVA.out, ← HVB.out] at hcat
        have hprev : k = 0 ∨ ∃ j, k = j + 1 ∧ ∃ rk : ByteArray, w12.cell? ⟨gg, oo + j * 2, none⟩ = some (.string rk) ∧ Op.bytesLess rk.toList pk.toList = true := by
          cases k with
          | zero => exact .inl rfl
          | succ j =>
            refine .inr ⟨j, rfl, (M[j]'(by omega)).1, hcc _ _ (flat2_fst kc vc M j (by omega)), ?_⟩
            have := (up_pair M).2 HMUP.out j (j + 1) (by omega) hlt (by omega)
            rw [← hp] at this
            exact this
        have HV2 := Lib.hid hV2
        have HV3 := Lib.hid hV3
        have HC0 := Lib.hid hcnt0
        have HC1 := Lib.hid hcnt1
        have HCA := Lib.hid hcat
        obtain ⟨ct, hct⟩ : ∃ ct, ct = cnt va vb M k := ⟨_, rfl⟩
        have HCT := Lib.hid hct
        rw [← hct]
        clear hcnt0 hcnt1 hcat hV2 hV3 hcc hp hct
        rcases hpi with ⟨h1, h2⟩ | ⟨h1, h2⟩ | ⟨x, y, h1, h2, h3⟩
        · replace h1 : va pk = some pv := h1
          replace h2 : vb pk = none := h2
          have hw1 : IntKind.i64.wrap pv = pv := by
            have := valueOf_in (lo := -9223372036854775808) (hi := 9223372036854775807) (show valueOf (pts a) pk = some pv by rw [← HVA.out]; exact h1) HRA.out
            exact IntWalk.i64_in _ (by omega)
          have HE : Hid (cnt va vb M (k + 1) = ct) := by unfold Hid; rw [HCT.out]; exact HC0.out (by simp [bothOf, h2])
          have HA2 := Lib.hid fun (W : World) (hW : Below w12.heap.size w12 W) => (by
            have := HV2.out W hW
            rw [h1] at this
            exact this : Calls Try.prog 25 #[.slice A2 na c2, .string pk] W fun e w' => e = .returned (.tuple #[.int .i64 pv, .bool true]) ∧ Below W.heap.size W w')
          have HA3 := Lib.hid fun (W : World) (hW : Below w12.heap.size w12 W) => (by
            have := HV3.out W hW
            rw [h2] at this
            exact this : Calls Try.prog 25 #[.slice A3 nb c3, .string pk] W fun e w' => e = .returned (.tuple #[.int .i64 0, .bool false]) ∧ Below W.heap.size W w')
          have kw0 : wr.cell? ⟨gg, oo + k * 2, none⟩ = some (.string pk) := (hB.cell (p := ⟨gg, oo + k * 2, none⟩) hgg).trans k0
          have kw1 : wr.cell? ⟨gg, oo + k * 2 + 1, none⟩ = some (.int .i64 pv) := (hB.cell (p := ⟨gg, oo + k * 2 + 1, none⟩) hgg).trans k1
          clear h1 h2
          rcases hprev with hk0 | ⟨j, hkj, rk, hj, hless⟩
          · have hz1 : decide ((0 : Int) < k) = false := by simp; omega
            have hz2 : decide (0 < k) = false := by simp; omega
            have HK := Lib.hid hk0
            clear hk0
            go_wp2_with (go_at_call 25; first
              | ((with_reducible refine (HA2.out wr hB).mono ?_); rintro e w13 ⟨rfl, hb13⟩; (have hB13 := hB.trans (hb13.mono hB.size)); (have i0 : w13.cell? ⟨gg, oo + k * 2, none⟩ = some (.string pk) := (hB13.cell (p := ⟨gg, oo + k * 2, none⟩) hgg).trans k0); (have i1 : w13.cell? ⟨gg, oo + k * 2 + 1, none⟩ = some (.int .i64 pv) := (hB13.cell (p := ⟨gg, oo + k * 2 + 1, none⟩) hgg).trans k1))
              | ((with_reducible refine (HA3.out w13 hB13).mono ?_); rintro e w14 ⟨rfl, hb14⟩; (have hB14 := hB13.trans (hb14.mono hB13.size)); (have j0 : w14.cell? ⟨gg, oo + k * 2, none⟩ = some (.string pk) := (hB14.cell (p := ⟨gg, oo + k * 2, none⟩) hgg).trans k0); (have j1 : w14.cell? ⟨gg, oo + k * 2 + 1, none⟩ = some (.int .i64 pv) := (hB14.cell (p := ⟨gg, oo + k * 2 + 1, none⟩) hgg).trans k1)))
            go_quiet (fail)
            go_wp2
            go_roundw
            case rel => exact ⟨k + 1, by go_num, by rw [HE.out], by omega, bel_drewN hB14 _⟩
            case measure => simp [intOf]; omega
          · have hz1 : decide ((0 : Int) < k) = true := by simp; omega
            have hz2 : decide (0 < k) = true := by simp; omega
            have hj1 : (k : Int) - 1 = (j : Int) := by omega
            have hj2 : IntKind.i64.wrap ((k : Int) - 1) = (j : Int) := by rw [IntWalk.i64_in _ (by omega)]; omega
            have hj3 : IntKind.i64.wrap (j : Int) = (j : Int) := IntWalk.i64_in _ (by omega)
            have hj4 : (j : Int) < M.length := by omega
            have hj5 : (0 : Int) ≤ j := by omega
            have HK := Lib.hid hkj
            clear hkj
            go_wp2_with (go_at_call 25; first
              | ((with_reducible refine (HA2.out wr hB).mono ?_); rintro e w13 ⟨rfl, hb13⟩; (have hB13 := hB.trans (hb13.mono hB.size)); (have i0 : w13.cell? ⟨gg, oo + k * 2, none⟩ = some (.string pk) := (hB13.cell (p := ⟨gg, oo + k * 2, none⟩) hgg).trans k0); (have i1 : w13.cell? ⟨gg, oo + k * 2 + 1, none⟩ = some (.int .i64 pv) := (hB13.cell (p := ⟨gg, oo + k * 2 + 1, none⟩) hgg).trans k1))
              | ((with_reducible refine (HA3.out w13 hB13).mono ?_); rintro e w14 ⟨rfl, hb14⟩; (have hB14 := hB13.trans (hb14.mono hB13.size)); (have j0 : w14.cell? ⟨gg, oo + k * 2, none⟩ = some (.string pk) := (hB14.cell (p := ⟨gg, oo + k * 2, none⟩) hgg).trans k0); (have j1 : w14.cell? ⟨gg, oo + k * 2 + 1, none⟩ = some (.int .i64 pv) := (hB14.cell (p := ⟨gg, oo + k * 2 + 1, none⟩) hgg).trans k1); (have j2 : w14.cell? ⟨gg, oo + j * 2, none⟩ = some (.string rk) := (hB14.cell (p := ⟨gg, oo + j * 2, none⟩) hgg).trans hj)))
            go_quiet (fail)
            go_wp2
            go_roundw
            case rel => exact ⟨k + 1, by go_num, by rw [HE.out], by omega, bel_drewN hB14 _⟩
            case measure => simp [intOf]; omega
        · replace h1 : va pk = none := h1
          replace h2 : vb pk = some pv := h2
          have hw1 : IntKind.i64.wrap pv = pv := by
            have := valueOf_in (lo := -9223372036854775808) (hi := 9223372036854775807) (show valueOf (pts b) pk = some pv by rw [← HVB.out]; exact h2) HRB.out
            exact IntWalk.i64_in _ (by omega)
          have HE : Hid (cnt va vb M (k + 1) = ct) := by unfold Hid; rw [HCT.out]; exact HC0.out (by simp [bothOf, h1])
          have HA2 := Lib.hid fun (W : World) (hW : Below w12.heap.size w12 W) => (by
            have := HV2.out W hW
            rw [h1] at this
            exact this : Calls Try.prog 25 #[.slice A2 na c2, .string pk] W fun e w' => e = .returned (.tuple #[.int .i64 0, .bool false]) ∧ Below W.heap.size W w')
          have HA3 := Lib.hid fun (W : World) (hW : Below w12.heap.size w12 W) => (by
            have := HV3.out W hW
            rw [h2] at this
            exact this : Calls Try.prog 25 #[.slice A3 nb c3, .string pk] W fun e w' => e = .returned (.tuple #[.int .i64 pv, .bool true]) ∧ Below W.heap.size W w')
          have kw0 : wr.cell? ⟨gg, oo + k * 2, none⟩ = some (.string pk) := (hB.cell (p := ⟨gg, oo + k * 2, none⟩) hgg).trans k0
          have kw1 : wr.cell? ⟨gg, oo + k * 2 + 1, none⟩ = some (.int .i64 pv) := (hB.cell (p := ⟨gg, oo + k * 2 + 1, none⟩) hgg).trans k1
          clear h1 h2
          rcases hprev with hk0 | ⟨j, hkj, rk, hj, hless⟩
          · have hz1 : decide ((0 : Int) < k) = false := by simp; omega
            have hz2 : decide (0 < k) = false := by simp; omega
            have HK := Lib.hid hk0
            clear hk0
            go_wp2_with (go_at_call 25; first
              | ((with_reducible refine (HA2.out wr hB).mono ?_); rintro e w13 ⟨rfl, hb13⟩; (have hB13 := hB.trans (hb13.mono hB.size)); (have i0 : w13.cell? ⟨gg, oo + k * 2, none⟩ = some (.string pk) := (hB13.cell (p := ⟨gg, oo + k * 2, none⟩) hgg).trans k0); (have i1 : w13.cell? ⟨gg, oo + k * 2 + 1, none⟩ = some (.int .i64 pv) := (hB13.cell (p := ⟨gg, oo + k * 2 + 1, none⟩) hgg).trans k1))
              | ((with_reducible refine (HA3.out w13 hB13).mono ?_); rintro e w14 ⟨rfl, hb14⟩; (have hB14 := hB13.trans (hb14.mono hB13.size)); (have j0 : w14.cell? ⟨gg, oo + k * 2, none⟩ = some (.string pk) := (hB14.cell (p := ⟨gg, oo + k * 2, none⟩) hgg).trans k0); (have j1 : w14.cell? ⟨gg, oo + k * 2 + 1, none⟩ = some (.int .i64 pv) := (hB14.cell (p := ⟨gg, oo + k * 2 + 1, none⟩) hgg).trans k1)))
            go_quiet (fail)
            go_wp2
            go_roundw
            case rel => exact ⟨k + 1, by go_num, by rw [HE.out], by omega, bel_drewN hB14 _⟩
            case measure => simp [intOf]; omega
          · have hz1 : decide ((0 : Int) < k) = true := by simp; omega
            have hz2 : decide (0 < k) = true := by simp; omega
            have hj1 : (k : Int) - 1 = (j : Int) := by omega
            have hj2 : IntKind.i64.wrap ((k : Int) - 1) = (j : Int) := by rw [IntWalk.i64_in _ (by omega)]; omega
            have hj3 : IntKind.i64.wrap (j : Int) = (j : Int) := IntWalk.i64_in _ (by omega)
            have hj4 : (j : Int) < M.length := by omega
            have hj5 : (0 : Int) ≤ j := by omega
            have HK := Lib.hid hkj
            clear hkj
            go_wp2_with (go_at_call 25; first
              | ((with_reducible refine (HA2.out wr hB).mono ?_); rintro e w13 ⟨rfl, hb13⟩; (have hB13 := hB.trans (hb13.mono hB.size)); (have i0 : w13.cell? ⟨gg, oo + k * 2, none⟩ = some (.string pk) := (hB13.cell (p := ⟨gg, oo + k * 2, none⟩) hgg).trans k0); (have i1 : w13.cell? ⟨gg, oo + k * 2 + 1, none⟩ = some (.int .i64 pv) := (hB13.cell (p := ⟨gg, oo + k * 2 + 1, none⟩) hgg).trans k1))
              | ((with_reducible refine (HA3.out w13 hB13).mono ?_); rintro e w14 ⟨rfl, hb14⟩; (have hB14 := hB13.trans (hb14.mono hB13.size)); (have j0 : w14.cell? ⟨gg, oo + k * 2, none⟩ = some (.string pk) := (hB14.cell (p := ⟨gg, oo + k * 2, none⟩) hgg).trans k0); (have j1 : w14.cell? ⟨gg, oo + k * 2 + 1, none⟩ = some (.int .i64 pv) := (hB14.cell (p := ⟨gg, oo + k * 2 + 1, none⟩) hgg).trans k1); (have j2 : w14.cell? ⟨gg, oo + j * 2, none⟩ = some (.string rk) := (hB14.cell (p := ⟨gg, oo + j * 2, none⟩) hgg).trans hj)))
            go_quiet (fail)
            go_wp2
            go_roundw
            case rel => exact ⟨k + 1, by go_num, by rw [HE.out], by omega, bel_drewN hB14 _⟩
            case measure => simp [intOf]; omega
        · replace h1 : va pk = some x := h1
          replace h2 : vb pk = some y := h2
          have h3' : bits .xor .i64 x (wrap64 (3 * y)) = pv := h3.symm
          have HE : Hid (cnt va vb M (k + 1) = ct + 1) := by unfold Hid; rw [HCT.out]; exact HC1.out (x, y) (by simp [bothOf, h1, h2])
          have hL := HCA.out (x, y) (by simp [bothOf, h1, h2])
          rw [← HCT.out] at hL
          have hctl : ct < Lm.length := (List.getElem?_eq_some_iff.1 hL).1
          obtain ⟨bl, ol, hal, hbl, hcl⟩ := FL.out.at_ (by omega)
          subst hal
          have q1 := hcl _ _ (fl2_at Lm ct (x, y) hL).1
          have q2 := hcl _ _ (fl2_at Lm ct (x, y) hL).2
          rw [← Nat.add_assoc] at q2
          have hc1 : decide ((Lm.length : Int) ≤ ct) = false := by simp; omega
          have hc2 : decide (Lm.length ≤ ct) = false := by simp; omega
          have hc3 : (ct : Int) < Lm.length := by omega
          have hc4 : IntKind.i64.wrap ((ct : Int) + 1) = (ct : Int) + 1 := IntWalk.i64_in _ (by have := HLEN2.out; omega)
          have ke := fun W => eq2 W x y
          clear hcl hL h3
          have HA2 := Lib.hid fun (W : World) (hW : Below w12.heap.size w12 W) => (by
            have := HV2.out W hW
            rw [h1] at this
            exact this : Calls Try.prog 25 #[.slice A2 na c2, .string pk] W fun e w' => e = .returned (.tuple #[.int .i64 x, .bool true]) ∧ Below W.heap.size W w')
          have HA3 := Lib.hid fun (W : World) (hW : Below w12.heap.size w12 W) => (by
            have := HV3.out W hW
            rw [h2] at this
            exact this : Calls Try.prog 25 #[.slice A3 nb c3, .string pk] W fun e w' => e = .returned (.tuple #[.int .i64 y, .bool true]) ∧ Below W.heap.size W w')
          have kw0 : wr.cell? ⟨gg, oo + k * 2, none⟩ = some (.string pk) := (hB.cell (p := ⟨gg, oo + k * 2, none⟩) hgg).trans k0
          have kw1 : wr.cell? ⟨gg, oo + k * 2 + 1, none⟩ = some (.int .i64 pv) := (hB.cell (p := ⟨gg, oo + k * 2 + 1, none⟩) hgg).trans k1
          clear h1 h2
          rcases hprev with hk0 | ⟨j, hkj, rk, hj, hless⟩
          · have hz1 : decide ((0 : Int) < k) = false := by simp; omega
            have hz2 : decide (0 < k) = false := by simp; omega
            have HK := Lib.hid hk0
            clear hk0
            go_wp2_with (go_at_call 25; first
              | ((with_reducible refine (HA2.out wr hB).mono ?_); rintro e w13 ⟨rfl, hb13⟩; (have hB13 := hB.trans (hb13.mono hB.size)); (have i0 : w13.cell? ⟨gg, oo + k * 2, none⟩ = some (.string pk) := (hB13.cell (p := ⟨gg, oo + k * 2, none⟩) hgg).trans k0); (have i1 : w13.cell? ⟨gg, oo + k * 2 + 1, none⟩ = some (.int .i64 pv) := (hB13.cell (p := ⟨gg, oo + k * 2 + 1, none⟩) hgg).trans k1))
              | ((with_reducible refine (HA3.out w13 hB13).mono ?_); rintro e w14 ⟨rfl, hb14⟩; (have hB14 := hB13.trans (hb14.mono hB13.size)); (have j0 : w14.cell? ⟨gg, oo + k * 2, none⟩ = some (.string pk) := (hB14.cell (p := ⟨gg, oo + k * 2, none⟩) hgg).trans k0); (have j1 : w14.cell? ⟨gg, oo + k * 2 + 1, none⟩ = some (.int .i64 pv) := (hB14.cell (p := ⟨gg, oo + k * 2 + 1, none⟩) hgg).trans k1); (have l0 : w14.cell? ⟨P, 0, none⟩ = some (.slice (some ⟨bl, ol, none⟩) Lm.length cL) := (hB14.cell (p := ⟨P, 0, none⟩) hP12).trans zP); (have l1 : w14.cell? ⟨bl, ol + ct * 2, none⟩ = some (.int .i64 x) := (hB14.cell (p := ⟨bl, ol + ct * 2, none⟩) hbl).trans q1); (have l2 : w14.cell? ⟨bl, ol + ct * 2 + 1, none⟩ = some (.int .i64 y) := (hB14.cell (p := ⟨bl, ol + ct * 2 + 1, none⟩) hbl).trans q2)))
            go_quiet (fail)
            go_wp2
            go_roundw
            case rel => exact ⟨k + 1, by go_num, by rw [HE.out]; go_num, by omega, bel_drewN hB14 _⟩
            case measure => simp [intOf]; omega
          · have hz1 : decide ((0 : Int) < k) = true := by simp; omega
            have hz2 : decide (0 < k) = true := by simp; omega
            have hj1 : (k : Int) - 1 = (j : Int) := by omega
            have hj2 : IntKind.i64.wrap ((k : Int) - 1) = (j : Int) := by rw [IntWalk.i64_in _ (by omega)]; omega
            have hj3 : IntKind.i64.wrap (j : Int) = (j : Int) := IntWalk.i64_in _ (by omega)
            have hj4 : (j : Int) < M.length := by omega
            have hj5 : (0 : Int) ≤ j := by omega
            have HK := Lib.hid hkj
            clear hkj
            go_wp2_with (go_at_call 25; first
              | ((with_reducible refine (HA2.out wr hB).mono ?_); rintro e w13 ⟨rfl, hb13⟩; (have hB13 := hB.trans (hb13.mono hB.size)); (have i0 : w13.cell? ⟨gg, oo + k * 2, none⟩ = some (.string pk) := (hB13.cell (p := ⟨gg, oo + k * 2, none⟩) hgg).trans k0); (have i1 : w13.cell? ⟨gg, oo + k * 2 + 1, none⟩ = some (.int .i64 pv) := (hB13.cell (p := ⟨gg, oo + k * 2 + 1, none⟩) hgg).trans k1))
              | ((with_reducible refine (HA3.out w13 hB13).mono ?_); rintro e w14 ⟨rfl, hb14⟩; (have hB14 := hB13.trans (hb14.mono hB13.size)); (have j0 : w14.cell? ⟨gg, oo + k * 2, none⟩ = some (.string pk) := (hB14.cell (p := ⟨gg, oo + k * 2, none⟩) hgg).trans k0); (have j1 : w14.cell? ⟨gg, oo + k * 2 + 1, none⟩ = some (.int .i64 pv) := (hB14.cell (p := ⟨gg, oo + k * 2 + 1, none⟩) hgg).trans k1); (have j2 : w14.cell? ⟨gg, oo + j * 2, none⟩ = some (.string rk) := (hB14.cell (p := ⟨gg, oo + j * 2, none⟩) hgg).trans hj); (have l0 : w14.cell? ⟨P, 0, none⟩ = some (.slice (some ⟨bl, ol, none⟩) Lm.length cL) := (hB14.cell (p := ⟨P, 0, none⟩) hP12).trans zP); (have l1 : w14.cell? ⟨bl, ol + ct * 2, none⟩ = some (.int .i64 x) := (hB14.cell (p := ⟨bl, ol + ct * 2, none⟩) hbl).trans q1); (have l2 : w14.cell? ⟨bl, ol + ct * 2 + 1, none⟩ = some (.int .i64 y) := (hB14.cell (p := ⟨bl, ol + ct * 2 + 1, none⟩) hbl).trans q2)))
            go_quiet (fail)
            go_wp2
            go_roundw
            case rel => exact ⟨k + 1, by go_num, by rw [HE.out]; go_num, by omega, bel_drewN hB14 _⟩
            case measure => simp [intOf]; omega
      · obtain rfl : k = M.length := by omega
        have hcl : cnt va vb M M.length = Lm.length := by rw [cnt_all, HVA.out, HVB.out, ← HMET.out]
        rw [hcl]
        clear hcl
        have hl2 := HLEN2.out
        have q1 : IntKind.i64.wrap ((ma.length : Int) + mb.length) = (ma.length : Int) + mb.length := IntWalk.i64_in _ (by omega)
        have q2 : (ma.length : Int) + mb.length - Lm.length = (M.length : Int) := by omega
        have q3 : IntKind.i64.wrap ((ma.length : Int) + mb.length - Lm.length) = (M.length : Int) := by rw [IntWalk.i64_in _ (by omega)]; omega
        have q4 : IntKind.i64.wrap (M.length : Int) = (M.length : Int) := IntWalk.i64_in _ (by omega)
        have HIA := Lib.hid fun (W : World) (hW : Below w12.heap.size w12 W) => (by
          have := is_any (pts a) ma A5 A2 c5 c2 W (by omega) (by rw [pts_len, ← HNA.out]; omega) (F5.out.later hW) (by rw [pts_len, ← HNA.out]; exact F2.out.later hW) HREPA.out
          rwa [pts_len, ← HNA.out] at this : Calls Try.prog 12 #[.agg #[.slice A5 ma.length c5], .slice A2 na c2] W fun e w' => e = .returned (.bool true) ∧ Below W.heap.size W w')
        have HIB := Lib.hid fun (W : World) (hW : Below w12.heap.size w12 W) => (by
          have := is_any (pts b) mb A7 A3 c7 c3 W (by omega) (by rw [pts_len, ← HNB.out]; omega) (F7.out.later hW) (by rw [pts_len, ← HNB.out]; exact F3.out.later hW) HREPB.out
          rwa [pts_len, ← HNB.out] at this : Calls Try.prog 12 #[.agg #[.slice A7 mb.length c7], .slice A3 nb c3] W fun e w' => e = .returned (.bool true) ∧ Below W.heap.size W w')
        have hbd : Below w12.heap.size w12 wr.drew := hB.drew
        have v5 : wr.cell? ⟨s, 0, none⟩ = some (.slice A5 ma.length c5) := (hB.cell (p := ⟨s, 0, none⟩) h512).trans z5
        have v6 : wr.cell? ⟨s + 1, 0, none⟩ = some (.slice A7 mb.length c7) := (hB.cell (p := ⟨s + 1, 0, none⟩) h612).trans z6
        have v7 : wr.cell? ⟨P, 0, none⟩ = some (.slice AL Lm.length cL) := (hB.cell (p := ⟨P, 0, none⟩) hP12).trans zP
        clear hl2
        go_wp2
        go_region_held3 (fun W => W.cell? ⟨s, 0, none⟩ = some (.slice A5 ma.length c5) ∧ W.cell? ⟨s + 1, 0, none⟩ = some (.slice A7 mb.length c7) ∧ W.cell? ⟨P, 0, none⟩ = some (.slice AL Lm.length cL)) (go_keep)
          (first
            | (go_at_call 26; first
                | ((with_reducible refine (len_any ma.length c5 A5 wr.drew).mono ?_); rintro e w15 ⟨rfl, hb15⟩; (have hB15 := hbd.trans (hb15.mono hbd.size)); (have w155 : w15.cell? ⟨s, 0, none⟩ = some (.slice A5 ma.length c5) := (hB15.cell (p := ⟨s, 0, none⟩) h512).trans z5); (have w156 : w15.cell? ⟨s + 1, 0, none⟩ = some (.slice A7 mb.length c7) := (hB15.cell (p := ⟨s + 1, 0, none⟩) h612).trans z6); (have w157 : w15.cell? ⟨P, 0, none⟩ = some (.slice AL Lm.length cL) := (hB15.cell (p := ⟨P, 0, none⟩) hP12).trans zP))
                | ((with_reducible refine (len_any mb.length c7 A7 w15).mono ?_); rintro e w16 ⟨rfl, hb16⟩; (have hB16 := hB15.trans (hb16.mono hB15.size)); (have w165 : w16.cell? ⟨s, 0, none⟩ = some (.slice A5 ma.length c5) := (hB16.cell (p := ⟨s, 0, none⟩) h512).trans z5); (have w166 : w16.cell? ⟨s + 1, 0, none⟩ = some (.slice A7 mb.length c7) := (hB16.cell (p := ⟨s + 1, 0, none⟩) h612).trans z6); (have w167 : w16.cell? ⟨P, 0, none⟩ = some (.slice AL Lm.length cL) := (hB16.cell (p := ⟨P, 0, none⟩) hP12).trans zP)))
            | (go_at_call 12; first
                | ((with_reducible refine (HIA.out w16 hB16).mono ?_); rintro e w17 ⟨rfl, hb17⟩; (have hB17 := hB16.trans (hb17.mono hB16.size)); (have w175 : w17.cell? ⟨s, 0, none⟩ = some (.slice A5 ma.length c5) := (hB17.cell (p := ⟨s, 0, none⟩) h512).trans z5); (have w176 : w17.cell? ⟨s + 1, 0, none⟩ = some (.slice A7 mb.length c7) := (hB17.cell (p := ⟨s + 1, 0, none⟩) h612).trans z6); (have w177 : w17.cell? ⟨P, 0, none⟩ = some (.slice AL Lm.length cL) := (hB17.cell (p := ⟨P, 0, none⟩) hP12).trans zP))
                | ((with_reducible refine (HIB.out w17 hB17).mono ?_); rintro e w18 ⟨rfl, hb18⟩; (have hB18 := hB17.trans (hb18.mono hB17.size)); (have w185 : w18.cell? ⟨s, 0, none⟩ = some (.slice A5 ma.length c5) := (hB18.cell (p := ⟨s, 0, none⟩) h512).trans z5); (have w186 : w18.cell? ⟨s + 1, 0, none⟩ = some (.slice A7 mb.length c7) := (hB18.cell (p := ⟨s + 1, 0, none⟩) h612).trans z6); (have w187 : w18.cell? ⟨P, 0, none⟩ = some (.slice AL Lm.length cL) := (hB18.cell (p := ⟨P, 0, none⟩) hP12).trans zP))))
        go_wp2
        go_ret
        exact ⟨rfl, HT12.out.trans (hB18.mono HT12.out.size)⟩
  · have hg : decide ((60 : Int) < na) = true ∨ (decide ((60 : Int) < na) = false ∧ decide ((60 : Int) < nb) = true) := by
      by_cases g1 : na ≤ 60
      · refine .inr ⟨by simp; omega, ?_⟩
        have g2 : ¬ nb ≤ 60 := fun h => hbig ⟨g1, h⟩
        simp; omega
      · exact .inl (by simp; omega)
    clear hbig
    rcases hg with g1 | ⟨g1, g2⟩
    all_goals
      go_enter Try.func6, Try.ntmps6
      go_wp2_with (first | (go_at_call 9; have tok : True := trivial; refine (SortS.awake_any w).mono ?_; rintro e w1 ⟨rfl, hb1⟩) | (go_at_call 9; refine (SortS.awake_any w1).mono ?_; rintro e w2 ⟨rfl, hb2⟩))
      go_ret
      exact ⟨rfl, hb1.trans (hb2.mono hb1.size)⟩
end SortS
end Go.Proofs.Ytolfockpiioncaa
