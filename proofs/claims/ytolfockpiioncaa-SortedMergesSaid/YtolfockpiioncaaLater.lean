/- SortedLater, by the contract of the sort. -/
import Derived.Test.YtolfockpiioncaaMerge2
namespace Go.Proofs.Ytolfockpiioncaa
open Go.RowKit
namespace SortS
theorem prs_pts (h : List Act) : prs (pts h) = prs h := by simp [prs, pts]
theorem pts_pts (h : List Act) : pts (pts h) = pts h := by simp [pts]
theorem pts_len (h : List Act) : (pts h).length = h.length := by simp [pts]
theorem prs_len (h : List Act) : (prs h).length = h.length := by simp [prs]
/-- append of acts that read elsewhere to a row of the call's own -/
theorem run_appA (W : World) (base : Nat) (hb : base ≤ W.heap.size) {A0 : Option Addr} {n0 c0 : Nat} {x y : List Act} (hl0 : x.length = n0) (hown : Own W base 29 3 A0 n0 c0 (flatA x)) {B : Nat} {A : Option Addr} {m c : Nat} (hl : y.length = m) (hr : Rd W B 3 A m c (flatA y)) (hn : n0 + m ≤ 1000000) :
    ∃ A1 c1 w', (Builtin.append_ #[22, 22] 22 #[.slice A0 n0 c0, .slice A m c]).run Try.prog W = .ok (.slice A1 (n0 + m) c1) w' ∧
      Own w' base 29 3 A1 (n0 + m) c1 (flatA (x ++ y)) ∧ W.grownBy w' (Value.slice A0 n0 c0).ownBlock := by
  obtain ⟨i0, hi0, hz0, hz1, hz2⟩ := info_parts infoA
  obtain ⟨v', w', h1, h2, h3, h4⟩ := run_app (P := Try.prog) W base 22 22 29 i0 _ 3 32 Try.underlying22 hi0 hz0 hz1 hz2 rfl (by omega) hown.row hr hn (by omega) hb
  have e : flatA (x ++ y) = flatA x ++ flatA y := by simp [flatA]
  rw [← e] at h2
  obtain ⟨A1, c1, rfl, ho⟩ := Own.of_row h2 (flatA_one _)
  exact ⟨A1, c1, w', h1, ho, h3⟩
/-- a row's own block: none, or one that is the call's own -/
theorem own_lt {W : World} {base : Nat} {e : TypeId} {sz : Nat} {A : Option Addr} {n c : Nat} {xs : List Value} (h : Own W base e sz A n c xs) : ∀ k, (Value.slice A n c).ownBlock = some k → base ≤ k ∧ k < W.heap.size := fun k hk => h.row.lt k hk
theorem rd_grown {w w' : World} {lo sz : Nat} {A : Option Addr} {n c : Nat} {xs : List Value} {row : Option Nat} (h : Rb w lo sz A n c xs) (hg : w.grownBy w' row) (hr : ∀ k, row = some k → k < lo) : Rd w' w'.heap.size sz A n c xs :=
  ⟨h.len, h.cap, h.one, fun hn => by
    obtain ⟨b, o, e, h1, hb, hc⟩ := h.at_ hn
    exact ⟨b, o, e, Nat.lt_of_lt_of_le hb hg.size, fun j u hu => (World.cell?_of_block (hg.block b hb (fun e => by have := hr b e.symm; omega))).trans (hc j u hu)⟩⟩
set_option maxRecDepth 100000 in
set_option maxHeartbeats 2000000 in
theorem later_law (a b : List Act) (A B : Option Addr) (ca cb : Nat) (w : World) (ha : Rd w w.heap.size 3 A a.length ca (flatA a)) (hb : Rd w w.heap.size 3 B b.length cb (flatA b)) (hca : a.length ≤ maxLen) (hcb : b.length ≤ maxLen)
    (hsort : ∀ (base g n c : Nat) (xs : Ps) (w : World), Row base g n c w xs → 0 < n → n ≤ 1000 → Calls Try.prog 35 #[.slice (some ⟨g, 0, none⟩) n c, .func (.func 36) #[] #[]] w
      (Turned base g n c (fun ys => Stable xs ys) w)) :
    Calls Try.prog 7 #[.slice A a.length ca, .slice B b.length cb] w fun e w' => e = .returned (.bool true) ∧ Below w.heap.size w w' := by
  unfold maxLen at hca hcb
  have HA := Lib.hid ha
  have HB := Lib.hid hb
  have HSO := Lib.hid hsort
  clear ha hb hsort
  obtain ⟨na, hna⟩ : ∃ n, n = a.length := ⟨_, rfl⟩
  obtain ⟨nb, hnb⟩ : ∃ n, n = b.length := ⟨_, rfl⟩
  rw [← hna] at hca HA ⊢
  rw [← hnb] at hcb HB ⊢
  have HNA := Lib.hid hna
  have HNB := Lib.hid hnb
  clear hna hnb
  by_cases hbig : na ≤ 60 ∧ nb ≤ 60
  · obtain ⟨h1, h2⟩ := hbig
    have f1 : decide ((60 : Int) < na) = false := by simp; omega
    have f2 : decide ((60 : Int) < nb) = false := by simp; omega
    -- the contracts, at whatever world
    have HPA := Lib.hid fun (W : World) (c : Nat) (A : Option Addr) (hr : Rd W W.heap.size 3 A na c (flatA a)) => (by
      have := puts_any a A c W (by rw [← HNA.out]; exact hr) (by rw [← HNA.out]; omega)
      rwa [← HNA.out] at this : Calls Try.prog 16 #[.slice A na c] W (NewRow 29 3 (flatA (pts a)) na W))
    have HPB := Lib.hid fun (W : World) (c : Nat) (A : Option Addr) (hr : Rd W W.heap.size 3 A nb c (flatA b)) => (by
      have := puts_any b A c W (by rw [← HNB.out]; exact hr) (by rw [← HNB.out]; omega)
      rwa [← HNB.out] at this : Calls Try.prog 16 #[.slice A nb c] W (NewRow 29 3 (flatA (pts b)) nb W))
    have HQA := Lib.hid fun (W : World) (c : Nat) (A : Option Addr) (hr : Rd W W.heap.size 3 A na c (flatA (pts a))) => (by
      have := pairs_any (pts a) A c W (by rw [pts_len, ← HNA.out]; exact hr) (by rw [pts_len, ← HNA.out]; omega)
      rwa [pts_len, ← HNA.out, prs_pts] at this : Calls Try.prog 15 #[.slice A na c] W (NewRow 60 2 (flat (prs a)) na W))
    have HQB := Lib.hid fun (W : World) (c : Nat) (A : Option Addr) (hr : Rd W W.heap.size 3 A nb c (flatA (pts b))) => (by
      have := pairs_any (pts b) A c W (by rw [pts_len, ← HNB.out]; exact hr) (by rw [pts_len, ← HNB.out]; omega)
      rwa [pts_len, ← HNB.out, prs_pts] at this : Calls Try.prog 15 #[.slice A nb c] W (NewRow 60 2 (flat (prs b)) nb W))
    have HFA := Lib.hid fun (W : World) (c : Nat) (A : Option Addr) (hr : Rd W W.heap.size 2 A na c (flat (prs a))) => (by
      have := of_all (prs a) A c W (by rw [prs_len, ← HNA.out]; exact hr) (by rw [prs_len, ← HNA.out]; omega) (fun h0 base g c' W' hrow => HSO.out base g _ c' (prs a) W' hrow h0 (by rw [prs_len, ← HNA.out]; omega))
      rwa [prs_len, ← HNA.out] at this : Calls Try.prog 14 #[.slice A na c] W fun e w' => ∃ m, OfIs ltS (prs a) m ∧ m.length ≤ na ∧ NewMap m W e w')
    have HFB := Lib.hid fun (W : World) (c : Nat) (A : Option Addr) (hr : Rd W W.heap.size 2 A nb c (flat (prs b))) => (by
      have := of_all (prs b) A c W (by rw [prs_len, ← HNB.out]; exact hr) (by rw [prs_len, ← HNB.out]; omega) (fun h0 base g c' W' hrow => HSO.out base g _ c' (prs b) W' hrow h0 (by rw [prs_len, ← HNB.out]; omega))
      rwa [prs_len, ← HNB.out] at this : Calls Try.prog 14 #[.slice A nb c] W fun e w' => ∃ m, OfIs ltS (prs b) m ∧ m.length ≤ nb ∧ NewMap m W e w')
    go_enter Try.func7, Try.ntmps7
    go_wp2_with (go_at_call 9; refine (SortS.awake_any _).mono ?_; rintro e w1 ⟨rfl, hb1⟩)
    have HB1 := Lib.hid hb1
    have r2 := HPA.out w1 ca A (HA.out.later hb1)
    refine r2.mono ?_
    rintro e w2 ⟨A2, c2, rfl, hown2, hb2⟩
    have HB2 := Lib.hid (hb1.trans (hb2.mono hb1.size))
    have HO2 := Lib.hid hown2
    have z01 := hb1.size
    have z12 := hb2.size
    clear r2 hb1 hb2 hown2
    go_wp2_with fail
    have r3 := HPB.out w2 cb B (HB.out.later HB2.out)
    refine r3.mono ?_
    rintro e w3 ⟨A3, c3, rfl, hown3, hb3⟩
    have HB3 := Lib.hid (HB2.out.trans (hb3.mono HB2.out.size))
    have HO2b := Lib.hid (HO2.out.later hb3)
    have HO3 := Lib.hid hown3
    have z23 := hb3.size
    clear r3 hb3 hown3
    go_wp2_with fail
    have r4 := HQA.out w3 c2 A2 HO2b.out.rd
    refine r4.mono ?_
    rintro e w4 ⟨A4, c4, rfl, hown4, hb4⟩
    have HO4 := Lib.hid hown4
    have HB4 := Lib.hid hb4
    clear r4 hown4 hb4
    go_wp2_with fail
    have r5 := HFA.out w4 c4 A4 HO4.out.rd
    refine r5.mono ?_
    rintro e w5 ⟨ma, hma, hmal, A5, c5, rfl, hown5, hb5⟩
    have HMA := Lib.hid hma
    have HO5 := Lib.hid hown5
    have HB5 := Lib.hid (HB4.out.trans (hb5.mono HB4.out.size))
    clear r5 hma hown5 hb5
    go_wp2_with fail
    have r6 := HQB.out w5 c3 A3 (HO3.out.rd.later HB5.out)
    refine r6.mono ?_
    rintro e w6 ⟨A6, c6, rfl, hown6, hb6⟩
    have HO6 := Lib.hid hown6
    have HB6 := Lib.hid (HB5.out.trans (hb6.mono HB5.out.size))
    have HO5b := Lib.hid (HO5.out.rd.later hb6)
    clear r6 hown6 hb6
    go_wp2_with fail
    have r7 := HFB.out w6 c6 A6 HO6.out.rd
    refine r7.mono ?_
    rintro e w7 ⟨mb, hmb, hmbl, A7, c7, rfl, hown7, hb7⟩
    have HMB := Lib.hid hmb
    have HO7 := Lib.hid hown7
    have HB7 := Lib.hid (HB6.out.trans (hb7.mono HB6.out.size))
    have HO5c := Lib.hid (HO5b.out.later hb7)
    clear r7 hmb hown7 hb7
    go_wp2_with fail
    have r8 := merge_nil ma mb A5 A7 c5 c7 w7 HO5c.out HO7.out.rd (by omega) (by omega)
    refine r8.mono ?_
    rintro e w8 ⟨A8, c8, rfl, hown8, hb8⟩
    obtain ⟨M, hM⟩ : ∃ M, M = mrg (fun _ v => v) ma mb := ⟨_, rfl⟩
    rw [← hM] at hown8 ⊢
    have HM := Lib.hid hM
    have HO8 := Lib.hid hown8.rb
    have HB8 := Lib.hid (HB7.out.trans (hb8.mono HB7.out.size))
    have z78 := hb8.size
    clear r8 hown8 hb8 hM
    go_wp2_with fail
    obtain ⟨s, hs⟩ : ∃ s, s = w8.heap.size := ⟨_, rfl⟩
    obtain ⟨wx, hwx⟩ : ∃ wx, wx = w8.alloc (.cells #[.slice A8 M.length c8] 26) := ⟨_, rfl⟩
    rw [← hwx, ← hs]
    have x0 : wx.cell? ⟨s, 0, none⟩ = some (.slice A8 M.length c8) := by rw [hwx, hs]; go_simp
    have hsx : s < wx.heap.size := World.block_lt_of_cell? wx _ x0
    have hBx : Below w8.heap.size w8 wx := by rw [hwx]; exact (Below.refl _ _).alloc (Nat.le_refl _) _
    have hBd : Below wx.heap.size wx wx.drew := (Below.refl _ _).drew
    have hB3d : Below w3.heap.size w3 wx.drew := (HB8.out.trans (hBx.mono HB8.out.size)).trans (hBd.mono (by have := HB8.out.size; have := hBx.size; omega))
    have z3d := hB3d.size
    have zd : wx.drew.heap.size = wx.heap.size := rfl
    have ho2x := HO2b.out.later hB3d
    have hr3x := HO3.out.rd.later hB3d
    obtain ⟨A9, c9, w9, hrun, ho9, hg9⟩ := run_appA wx.drew w1.heap.size (by omega) (by rw [pts_len]; exact HNA.out.symm) ho2x (by rw [pts_len]; exact HNB.out.symm) hr3x (by omega)
    have hk : ∀ k, (Value.slice A2 na c2).ownBlock = some k → w1.heap.size ≤ k ∧ k < w2.heap.size := own_lt HO2.out
    have h78 : w2.heap.size ≤ w7.heap.size := by have := HB7.out.size; omega
    have h8s : w7.heap.size ≤ s := by rw [hs]; exact z78
    have hrm : Rd w9 w9.heap.size 2 A8 M.length c8 (flat M) := rd_grown ((HO8.out.later hBx).later hBd) hg9 (fun k hk' => by have := (hk k hk').2; omega)
    have x9 : w9.cell? ⟨s, 0, none⟩ = some (.slice A8 M.length c8) := (World.cell?_of_block (a := ⟨s, 0, none⟩) (hg9.block s (by simpa using hsx) (fun e => by have := (hk s e.symm).2; omega))).trans x0
    have hB9 : Below w.heap.size w w9 := by
      refine Below.grown (HB3.out.trans (hB3d.mono (by omega))) hg9 (by omega) (fun k hk' => ?_)
      have := (hk k hk').1
      omega
    have hrep : RepH (pts a ++ pts b) M := by
      rw [HM.out]
      exact RepH.later (RepH.of HMA.out) (RepH.of HMB.out)
    have hlen : (pts a ++ pts b).length = na + nb := by rw [List.length_append, pts_len, pts_len, HNA.out, HNB.out]
    have hML : M.length ≤ 1000 := by
      rw [HM.out]
      have := mrg_len (fun _ v => v) _ ma mb (Nat.le_refl _)
      omega
    have hI := is_any (pts a ++ pts b) M A8 A9 c8 c9 w9 hML (by rw [hlen]; omega) hrm (by rw [hlen]; exact ho9.rd) hrep
    rw [hlen] at hI
    have Hrun := Lib.hid hrun
    have HI := Lib.hid hI
    have HB9 := Lib.hid hB9
    clear hrun hI hB9 hrep hlen ho9 hg9 hrm ho2x hr3x hB3d hBd hBx hk hwx hs z3d zd
    go_region_held3 (fun W => W.cell? ⟨s, 0, none⟩ = some (.slice A8 M.length c8)) (go_keep)
      (first
        | (go_at_call 12; refine HI.out.mono ?_; rintro e w10 ⟨rfl, hb10⟩; (have x10 : w10.cell? ⟨s, 0, none⟩ = some (.slice A8 M.length c8) := (hb10.cell (p := ⟨s, 0, none⟩) (World.block_lt_of_cell? w9 _ x9)).trans x9))
        | (refine upon_append _ _ _ rfl rfl rfl Hrun.out ?_))
    go_wp2
    go_ret
    exact ⟨rfl, HB9.out.trans (hb10.mono HB9.out.size)⟩
  · have hg : decide ((60 : Int) < na) = true ∨ (decide ((60 : Int) < na) = false ∧ decide ((60 : Int) < nb) = true) := by
      by_cases g1 : na ≤ 60
      · refine .inr ⟨by simp; omega, ?_⟩
        have g2 : ¬ nb ≤ 60 := fun h => hbig ⟨g1, h⟩
        simp; omega
      · exact .inl (by simp; omega)
    clear hbig
    rcases hg with g1 | ⟨g1, g2⟩
    all_goals
      go_enter Try.func7, Try.ntmps7
      go_wp2_with (first | (go_at_call 9; have tok : True := trivial; refine (SortS.awake_any w).mono ?_; rintro e w1 ⟨rfl, hb1⟩) | (go_at_call 9; refine (SortS.awake_any w1).mono ?_; rintro e w2 ⟨rfl, hb2⟩))
      go_ret
      exact ⟨rfl, hb1.trans (hb2.mono hb1.size)⟩
end SortS
end Go.Proofs.Ytolfockpiioncaa
