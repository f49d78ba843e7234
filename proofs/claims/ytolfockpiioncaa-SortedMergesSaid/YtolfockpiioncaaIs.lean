/- 'is': a map that has what some acts made. -/
import Derived.Test.YtolfockpiioncaaRef3
namespace Go.Proofs.Ytolfockpiioncaa
open Go.RowKit
namespace SortS
/-- the map has what the acts made -/
def RepH (h : List Act) (l : Ps) : Prop := Up ltS l ∧ ∀ p, p ∈ l ↔ valueOf h p.1 = some p.2
theorem pw_uniq {ks ms : List ByteArray} (h1 : ks.Pairwise ltS) (h2 : ms.Pairwise ltS) (h : ∀ k, k ∈ ks ↔ k ∈ ms) : ks = ms := by
  have e : ks.map (fun k => (k, ())) = ms.map (fun k => (k, ())) := by
    refine up_uniq tot_str ((up_pair _).2 (List.pairwise_map.2 h1)) ((up_pair _).2 (List.pairwise_map.2 h2)) fun p => ?_
    obtain ⟨k, u⟩ := p
    simp [h]
  have := congrArg (List.map Prod.fst) e
  simpa [List.map_map, Function.comp_def] using this
theorem keys_eq {h : List Act} {l : Ps} {ks : List ByteArray} (hk : Ref1.KeysIs h ks) (hl : RepH h l) : ks = l.map Prod.fst := by
  refine pw_uniq hk.1 (List.pairwise_map.2 ((up_pair l).1 hl.1)) fun k => ?_
  rw [hk.2 k, List.mem_map]
  constructor
  · intro hv
    obtain ⟨v, hv⟩ := Option.isSome_iff_exists.1 hv
    exact ⟨(k, v), (hl.2 (k, v)).2 hv, rfl⟩
  · rintro ⟨p, hp, rfl⟩
    rw [(hl.2 p).1 hp]; rfl

set_option maxRecDepth 100000 in
set_option maxHeartbeats 1000000 in
theorem is_any (h : List Act) (l : Ps) (A H : Option Addr) (c d : Nat) (w : World) (hn : l.length ≤ 1000) (hhn : h.length ≤ 1000) (hr : Rd w w.heap.size 2 A l.length c (flat l)) (hh : Rd w w.heap.size 3 H h.length d (flatA h)) (hrep : RepH h l) :
    Calls Try.prog 12 #[.agg #[.slice A l.length c], .slice H h.length d] w fun e w' => e = .returned (.bool true) ∧ Below w.heap.size w w' := by
  have HR := Lib.hid hr
  have HH := Lib.hid hh
  have HREP := Lib.hid hrep
  clear hr hh hrep
  go_enter Try.func12, Try.ntmps12
  go_wp2_with fail
  refine (Ref1.keys_any h H d _ ((HH.out.alloc (Nat.le_refl _) _).more (by simp)) hhn).mono ?_
  rintro e w1 ⟨ks, hks, A1, c1, rfl, hown1, hb1⟩
  obtain rfl := keys_eq hks HREP.out
  have hkl : (l.map Prod.fst).length = l.length := List.length_map _
  rw [hkl] at hown1 ⊢
  have hbox1 : w1.cell? ⟨w.heap.size, 0, none⟩ = some (.slice A l.length c) := (hb1.cell (p := ⟨w.heap.size, 0, none⟩) (by simp)).trans (by go_simp)
  have hB1 : Below w.heap.size w w1 := ((Below.refl _ _).alloc (Nat.le_refl _) _).trans (hb1.mono (by simp))
  have HO1 := Lib.hid hown1.rd
  have hz1 : w.heap.size < w1.heap.size := by have := hb1.size; simp at this; omega
  clear hks hown1 hb1 hkl
  go_wp2_with (first
    | (go_at_call 24; refine (all_any l A c _ hn ((HR.out.below hB1).more hB1.size)).mono ?_; rintro e w2 ⟨A2, c2, rfl, hown2, hb2⟩; (have hbox2 : w2.cell? ⟨w.heap.size, 0, none⟩ = some (.slice A l.length c) := (hb2.cell (p := ⟨w.heap.size, 0, none⟩) hz1).trans hbox1))
    | (go_at_call 26; refine (len_any _ _ _ w2).mono ?_; rintro e w3 ⟨rfl, hb3⟩))
  have hB2 : Below w.heap.size w w2 := hB1.trans (hb2.mono hB1.size)
  have hB3 : Below w.heap.size w w3 := hB2.trans (hb3.mono hB2.size)
  have HO2 := Lib.hid (hown2.rd.later hb3)
  have HO3 := Lib.hid ((HO1.out.later hb2).later hb3)
  clear hown2 hbox2 hbox1
  go_loopw [28] (fun q wr => ∃ k : Nat, q = .int .i64 k ∧ k ≤ l.length ∧ Below w3.heap.size w3 wr) (fun q _ => (l.length - intOf q).toNat)
  case atStart => exact ⟨0, rfl, Nat.zero_le _, Below.refl _ _⟩
  case round =>
    obtain ⟨k, rfl, hk, hB⟩ := hrel
    obtain ⟨wx, rfl⟩ : ∃ wx : World, wx = wr := ⟨_, rfl⟩
    by_cases hlt : k < l.length
    · obtain ⟨g1, o1, rfl, hg1, hc1⟩ := HO3.out.at_ (by omega)
      obtain ⟨g2, o2, rfl, hg2, hc2⟩ := HO2.out.at_ (by omega)
      obtain ⟨⟨pk, pv⟩, hp⟩ : ∃ p, p = l[k] := ⟨_, rfl⟩
      have k1 : wx.cell? ⟨g1, o1 + k, none⟩ = some (.string pk) := (hB.cell (p := ⟨g1, o1 + k, none⟩) hg1).trans (hc1 k _ (by simp [hlt, ← hp]))
      have k2 : wx.cell? ⟨g2, o2 + k * 2, none⟩ = some (.string pk) := (hB.cell (p := ⟨g2, o2 + k * 2, none⟩) hg2).trans (by rw [hc2 _ _ (flat2_fst kc vc l k hlt), ← hp]; rfl)
      have k3 : wx.cell? ⟨g2, o2 + k * 2 + 1, none⟩ = some (.int .i64 pv) := (hB.cell (p := ⟨g2, o2 + k * 2 + 1, none⟩) hg2).trans (by rw [Nat.add_assoc, hc2 _ _ (flat2_snd kc vc l k hlt), ← hp]; rfl)
      have hBB : Below w.heap.size w wx := hB3.trans (hB.mono hB3.size)
      have hv : valueOf h pk = some pv := (HREP.out.2 (pk, pv)).1 (by rw [hp]; exact List.getElem_mem hlt)
      have HV0 := Ref1.value_any h pk H d wx ((HH.out.below hBB).more hBB.size) (by omega)
      rw [hv] at HV0
      unfold valV at HV0
      dsimp only [Option.getD, Option.isSome] at HV0
      have HV := Lib.hid HV0
      have hk1 : (k : Int) < l.length := by omega
      have hg1' : g1 < wx.heap.size := Nat.lt_of_lt_of_le hg1 hB.size
      have hg2' : g2 < wx.heap.size := Nat.lt_of_lt_of_le hg2 hB.size
      clear hc1 hc2 hp hv HV0
      go_wp2_with (go_at_call 25; refine HV.out.mono ?_; rintro e w5 ⟨rfl, hb5⟩)
      have j1 : w5.cell? ⟨g1, o1 + k, none⟩ = some (.string pk) := (hb5.cell (p := ⟨g1, o1 + k, none⟩) hg1').trans k1
      have j2 : w5.cell? ⟨g2, o2 + k * 2, none⟩ = some (.string pk) := (hb5.cell (p := ⟨g2, o2 + k * 2, none⟩) hg2').trans k2
      have j3 : w5.cell? ⟨g2, o2 + k * 2 + 1, none⟩ = some (.int .i64 pv) := (hb5.cell (p := ⟨g2, o2 + k * 2 + 1, none⟩) hg2').trans k3
      have hg15 : g1 < w5.heap.size := Nat.lt_of_lt_of_le hg1' hb5.size
      have hg25 : g2 < w5.heap.size := Nat.lt_of_lt_of_le hg2' hb5.size
      clear k1 k2 k3
      go_region_held3 (fun W => W.cell? ⟨g1, o1 + k, none⟩ = some (.string pk) ∧ W.cell? ⟨g2, o2 + k * 2, none⟩ = some (.string pk) ∧ W.cell? ⟨g2, o2 + k * 2 + 1, none⟩ = some (.int .i64 pv)) (go_keep)
        (first | (go_at_call 27; refine (pair_any _ _ w5.drew).mono ?_; rintro e w6 ⟨rfl, hb6⟩; (have i1 : w6.cell? ⟨g1, o1 + k, none⟩ = some (.string pk) := (hb6.cell (p := ⟨g1, o1 + k, none⟩) hg15).trans j1); (have i2 : w6.cell? ⟨g2, o2 + k * 2, none⟩ = some (.string pk) := (hb6.cell (p := ⟨g2, o2 + k * 2, none⟩) hg25).trans j2); (have i3 : w6.cell? ⟨g2, o2 + k * 2 + 1, none⟩ = some (.int .i64 pv) := (hb6.cell (p := ⟨g2, o2 + k * 2 + 1, none⟩) hg25).trans j3)))
      go_wp2
      go_roundw
      case rel => exact ⟨k + 1, by go_num, by omega, (hB.trans (hb5.mono hB.size)).drew.trans (hb6.mono (by have := hB.size; have := hb5.size; simp; omega))⟩
      case measure => simp [intOf]; omega
    · obtain rfl : k = l.length := by omega
      go_wp2
      go_ret
      exact ⟨rfl, hB3.trans (hB.mono hB3.size)⟩
end SortS
end Go.Proofs.Ytolfockpiioncaa
