/- sorted.Of of no pairs; SortedOf, by the contract of the sort. -/
import Derived.Test.YtolfockpiioncaaPairs
namespace Go.Proofs.Ytolfockpiioncaa
open Go.RowKit
namespace SortS
set_option maxRecDepth 100000 in
theorem stable_none (A : Option Addr) (c : Nat) (w : World) :
    Calls Try.prog 46 #[.slice A 0 c, .int .i64 0, .func (.func 36) #[] #[]] w fun e w' => e = .returned (.tuple #[]) ∧ w = w' := by
  have HI := fun v f W => insert_none v f 0 W (by omega)
  go_enter Try.func46, Try.ntmps46
  go_wp2
  refine wp_loop_rounds 1 ?_
  rw [rounds_succ]
  go_wp2_with (go_at_call 52; refine (HI _ _ _).mono ?_; rintro e w2 ⟨rfl, rfl⟩)
  refine wp_loop_rounds 1 ?_
  rw [rounds_succ]
  go_wp2
  go_end0
  exact ⟨rfl, rfl⟩
set_option maxRecDepth 100000 in
theorem sort_none (A : Option Addr) (c : Nat) (w : World) :
    Calls Try.prog 35 #[.slice A 0 c, .func (.func 36) #[] #[]] w fun e w' => e = .returned (.tuple #[]) ∧ w = w' := by
  go_enter Try.func35, Try.ntmps35
  go_wp2_with (go_at_call 46; refine (stable_none _ _ _).mono ?_; rintro e w2 ⟨rfl, rfl⟩)
  go_end0
  exact ⟨rfl, rfl⟩
theorem sort_zero (n : Nat) (hn : n = 0) (A : Option Addr) (c : Nat) (w : World) :
    Calls Try.prog 35 #[.slice A n c, .func (.func 36) #[] #[]] w fun e w' => e = .returned (.tuple #[]) ∧ w = w' := by
  subst hn
  exact sort_none A c w
set_option maxRecDepth 100000 in
set_option maxHeartbeats 1000000 in
theorem of_zero (n : Nat) (hn0 : n = 0) (A : Option Addr) (c : Nat) (w : World) (hr : Rd w w.heap.size 2 A n c []) :
    Calls Try.prog 14 #[.slice A n c] w fun e w' => ∃ m, OfIs ltS [] m ∧ m.length ≤ n ∧ NewMap m w e w' := by
  have HR := Lib.hid hr
  have HN := Lib.hid hn0
  have hn : n ≤ 1000 := by omega
  have hlt : ¬ ((0 : Int) < n) := by omega
  have hltd : decide ((0 : Int) < n) = false := by simp; omega
  clear hr hn0
  obtain ⟨i0, hi0, hz0, hz1, hz2⟩ := info_parts info
  go_enter Try.func14, Try.ntmps14
  go_wp2_with (go_at_call 34; refine (clone_any n [] A c _ hn ((HR.out.alloc (Nat.le_refl _) _).more (by simp))).mono ?_; rintro e w1 ⟨A1, c1, rfl, hown, hb1⟩)
  have hres1 : w1.cell? ⟨w.heap.size, 0, none⟩ = some (.slice none 0 0) := (hb1.cell (p := ⟨w.heap.size, 0, none⟩) (by simp)).trans (by go_simp)
  have hfrz1 : w1.frozen? ⟨w.heap.size, 0, none⟩ = false := (hb1.frozen (p := ⟨w.heap.size, 0, none⟩) (by simp)).trans (by go_simp)
  have hB1 : Below w.heap.size w w1 := ((Below.refl _ _).alloc (Nat.le_refl _) _).trans (hb1.mono (by simp))
  have hz2' : w.heap.size < w1.heap.size := World.block_lt_of_cell? w1 ⟨w.heap.size, 0, none⟩ hres1
  clear hown hb1
  refine (sort_zero n HN.out A1 c1 w1).mono ?_
  rintro e w2 ⟨rfl, rfl⟩
  have hm48 : i0.bytes * n ≤ 281474976710656 := by rw [hz2]; omega
  have hm63 : n ≤ maxLen := by simp only [maxLen]; omega
  go_wp2_with (at_make; refine wpList_make_own _ rfl _ _ _ rfl w1.heap.size 60 i0 _ 2 Try.underlying24 hi0 hz0 hz1 .i64 .i64 _ n rfl rfl rfl hm48 hm63 (Nat.le_refl _) ?_; intro w3 hout hg3)
  have hB3 : Below w1.heap.size w1 w3 := (Below.refl _ _).grown hg3 (Nat.le_refl _) (by intro k hk; cases hk)
  clear hg3
  have k0 : w3.cell? ⟨w.heap.size, 0, none⟩ = some (.slice none 0 0) := (hB3.cell (p := ⟨w.heap.size, 0, none⟩) hz2').trans hres1
  have k1 : w3.frozen? ⟨w.heap.size, 0, none⟩ = false := (hB3.frozen (p := ⟨w.heap.size, 0, none⟩) hz2').trans hfrz1
  have hown4 : Own w3 w1.heap.size 60 2 (some ⟨w1.heap.size, 0, none⟩) 0 n [] := ⟨hout, by intro u hu; simp at hu⟩
  clear hout
  refine wp_loop_rounds 1 ?_
  rw [rounds_succ]
  go_wp2
  refine bodyPost_ret (v := .agg #[.slice (some ⟨w1.heap.size, 0, none⟩) 0 n]) (by simp [results, Try.results14, go_sem, k0]) rfl ⟨[], ⟨fun i j hi => by simp at hi, fun p => by simp⟩, Nat.zero_le _, some ⟨w1.heap.size, 0, none⟩, n, rfl, ?_, ?_⟩
  · have h1 := (hown4.set_below (a := ⟨w.heap.size, 0, none⟩) hz2' (.slice (some ⟨w1.heap.size, 0, none⟩) 0 n)).mono hB1.size
    simpa [flat, flat2] using h1
  · exact (hB1.trans (hB3.mono (by omega))).setCell (p := ⟨w.heap.size, 0, none⟩) (Nat.le_refl _) _
/-- a map of pairs, of however many -/
theorem of_all (xs : Ps) (A : Option Addr) (c : Nat) (w : World) (hr : Rd w w.heap.size 2 A xs.length c (flat xs)) (hn : xs.length ≤ 1000)
    (hsort : 0 < xs.length → ∀ base g c' W, Row base g xs.length c' W xs → Calls Try.prog 35 #[.slice (some ⟨g, 0, none⟩) xs.length c', .func (.func 36) #[] #[]] W
      (Turned base g xs.length c' (fun ys => Stable xs ys) W)) :
    Calls Try.prog 14 #[.slice A xs.length c] w fun e w' => ∃ m, OfIs ltS xs m ∧ m.length ≤ xs.length ∧ NewMap m w e w' := by
  by_cases h0 : 0 < xs.length
  · exact of_any xs.length xs A c w rfl hr h0 hn (hsort h0)
  · obtain rfl : xs = [] := List.eq_nil_of_length_eq_zero (by omega)
    exact of_zero _ rfl A c w hr
set_option maxRecDepth 100000 in
set_option maxHeartbeats 1000000 in
theorem of_law (h : List Act) (t : ByteArray) (n : Int) (H : Option Addr) (d : Nat) (w : World) (hh : Rd w w.heap.size 3 H h.length d (flatA h)) (hc : h.length ≤ maxLen)
    (hsort : ∀ (base g n c : Nat) (xs : Ps) (w : World), Row base g n c w xs → 0 < n → n ≤ 1000 → Calls Try.prog 35 #[.slice (some ⟨g, 0, none⟩) n c, .func (.func 36) #[] #[]] w
      (Turned base g n c (fun ys => Stable xs ys) w)) :
    Calls Try.prog 4 #[.slice H h.length d, .string t, .int .i64 n] w fun e w' => e = .returned (.bool true) ∧ Below w.heap.size w w' := by
  unfold maxLen at hc
  by_cases hbig : h.length ≤ 100
  · have h100 : decide ((100 : Int) < h.length) = false := by simp; omega
    have HH := Lib.hid hh
    have HSO := Lib.hid hsort
    clear hh hsort
    go_enter Try.func4, Try.ntmps4
    go_wp2_with (go_at_call 9; refine (SortS.awake_any _).mono ?_; rintro e w1 ⟨rfl, hb1⟩)
    have hpl : (prs h).length = h.length := by simp [prs]
    have htl : (pts h).length = h.length := by simp [pts]
    have hof : ∀ A c W, Rd W W.heap.size 2 A h.length c (flat (prs h)) → Calls Try.prog 14 #[.slice A h.length c] W fun e w' => ∃ m, OfIs ltS (prs h) m ∧ m.length ≤ h.length ∧ NewMap m W e w' := by
      intro A c W hr
      have := of_all (prs h) A c W (by rw [hpl]; exact hr) (by omega) (fun h0 base g c' W' hrow => HSO.out base g _ c' (prs h) W' hrow h0 (by omega))
      rwa [hpl] at this
    refine (pairs_any h H d w1 ((HH.out.below hb1).more hb1.size) (by omega)).mono ?_
    rintro e w2 ⟨A2, c2, rfl, hown2, hb2⟩
    have hOF := hof A2 c2 w2 hown2.rd
    go_wp2_with (go_at_call 14; refine hOF.mono ?_; rintro e w3 ⟨m, hm, hml, A3, c3, rfl, hown3, hb3⟩)
    have HM := Lib.hid (RepH.of hm)
    clear hm hof hOF hown2
    have hB2 : Below w.heap.size w w2 := hb1.trans (hb2.mono hb1.size)
    have hB3 : Below w.heap.size w w3 := hB2.trans (hb3.mono hB2.size)
    have HR3 := Lib.hid (hown3.rd)
    obtain ⟨sm, hsm⟩ : ∃ sm, sm = w3.heap.size := ⟨_, rfl⟩
    obtain ⟨wx, hwx⟩ : ∃ wx, wx = w3.alloc (.cells #[.slice A3 m.length c3] 26) := ⟨_, rfl⟩
    rw [← hwx, ← hsm]
    have c0 : wx.cell? ⟨sm, 0, none⟩ = some (.slice A3 m.length c3) := by rw [hwx, hsm]; go_simp
    have hBx : Below w.heap.size w wx := by rw [hwx]; exact hB3.alloc hB3.size _
    have hB3x : Below w3.heap.size w3 wx := by rw [hwx]; exact (Below.refl _ _).alloc (Nat.le_refl _) _
    have hRm : Rd wx wx.heap.size 2 A3 m.length c3 (flat m) := (HR3.out.below hB3x).more hB3x.size
    have hgx : sm < wx.heap.size := World.block_lt_of_cell? wx ⟨sm, 0, none⟩ c0
    have hRh : Rd wx wx.heap.size 3 H h.length d (flatA h) := (HH.out.below hBx).more hBx.size
    have hP : ∀ W, Below wx.heap.size wx W → Calls Try.prog 16 #[.slice H h.length d] W (NewRow 29 3 (flatA (pts h)) h.length W) := by
      intro W hW
      exact puts_any h H d W (hRh.later hW) (by omega)
    have hI : ∀ A c W, Below wx.heap.size wx W → Rd W W.heap.size 3 A h.length c (flatA (pts h)) → Calls Try.prog 12 #[.agg #[.slice A3 m.length c3], .slice A h.length c] W fun e w' => e = .returned (.bool true) ∧ Below W.heap.size W w' := by
      intro A c W hW hr
      have := is_any (pts h) m A3 A c3 c W (by omega) (by omega) (hRm.later hW) (by rw [htl]; exact hr) HM.out
      rwa [htl] at this
    have hT : ∀ A c W, Below wx.heap.size wx W → Rd W W.heap.size 3 A h.length c (flatA (pts h)) → Calls Try.prog 13 #[.agg #[.slice A3 m.length c3], .slice A h.length c, .string t, .int .i64 n] W fun e w' => e = .returned (.bool true) ∧ Below W.heap.size W w' := by
      intro A c W hW hr
      have := tells_any (pts h) m t n A3 A c3 c W (by omega) (by omega) (hRm.later hW) (by rw [htl]; exact hr) HM.out
      rwa [htl] at this
    have HP := Lib.hid hP
    have HI := Lib.hid hI
    have HT := Lib.hid hT
    have HBX := Lib.hid hBx
    clear hP hI hT hwx hsm hRm hRh hB3x hBx
    go_region_held3 (fun W => W.cell? ⟨sm, 0, none⟩ = some (.slice A3 m.length c3)) (go_keep)
      (first
      | (go_at_call 16; refine (HP.out wx.drew (Below.refl _ _).drew).mono ?_; rintro e w4 ⟨A4, c4, rfl, hown4, hb4⟩; (have hb4' : Below wx.heap.size wx w4 := (Below.refl _ _).drew.trans (hb4.mono (Nat.le_refl _))); (have i4 : w4.cell? ⟨sm, 0, none⟩ = some (.slice A3 m.length c3) := (hb4'.cell (p := ⟨sm, 0, none⟩) hgx).trans c0); (have hi4 := HI.out A4 c4 w4 hb4' hown4.rd); clear hown4)
      | (go_at_call 12; refine hi4.mono ?_; rintro e w5 ⟨rfl, hb5⟩; (have hb5' : Below wx.heap.size wx w5 := hb4'.trans (hb5.mono hb4'.size)); (have i5 : w5.cell? ⟨sm, 0, none⟩ = some (.slice A3 m.length c3) := (hb5'.cell (p := ⟨sm, 0, none⟩) hgx).trans c0))
      | (go_at_call 16; refine (HP.out w5 hb5').mono ?_; rintro e w6 ⟨A6, c6, rfl, hown6, hb6⟩; (have hb6' : Below wx.heap.size wx w6 := hb5'.trans (hb6.mono hb5'.size)); (have i6 : w6.cell? ⟨sm, 0, none⟩ = some (.slice A3 m.length c3) := (hb6'.cell (p := ⟨sm, 0, none⟩) hgx).trans c0); (have ht6 := HT.out A6 c6 w6 hb6' hown6.rd); clear hown6)
      | (go_at_call 13; refine ht6.mono ?_; rintro e w7 ⟨rfl, hb7⟩; (have hb7' : Below wx.heap.size wx w7 := hb6'.trans (hb7.mono hb6'.size)); (have i7 : w7.cell? ⟨sm, 0, none⟩ = some (.slice A3 m.length c3) := (hb7'.cell (p := ⟨sm, 0, none⟩) hgx).trans c0)))
    go_wp2
    go_ret
    exact ⟨rfl, HBX.out.trans (hb7'.mono HBX.out.size)⟩
  · have h100 : decide ((100 : Int) < h.length) = true := by simp; omega
    go_enter Try.func4, Try.ntmps4
    go_wp2_with (first | (go_at_call 9; have tok : True := trivial; refine (SortS.awake_any w).mono ?_; rintro e w1 ⟨rfl, hb1⟩) | (go_at_call 9; refine (SortS.awake_any w1).mono ?_; rintro e w2 ⟨rfl, hb2⟩))
    go_ret
    exact ⟨rfl, hb1.trans (hb2.mono hb1.size)⟩
end SortS
end Go.Proofs.Ytolfockpiioncaa
