/- The law SortedPlays: what the walk says. -/
import Derived.Test.YtolfockpiioncaaTells
import Derived.Deep.RegionLaw
namespace Go.Proofs.Ytolfockpiioncaa
open Go.RowKit
theorem own_ne {w : World} {b1 b2 : Nat} {e1 e2 : TypeId} {s1 s2 n1 n2 : Nat} {v1 v2 : Value} {x1 x2 : List Value} (h1 : w.ownsRow b1 e1 s1 v1 n1 x1) (h2 : w.ownsRow b2 e2 s2 v2 n2 x2) (hne : e1 ≠ e2) : v1.ownBlock = none ∨ v1.ownBlock ≠ v2.ownBlock := by
  rcases h1.2 with ⟨rfl, _⟩ | ⟨g1, _, cur1, rfl, _, hg1, _⟩
  · exact .inl rfl
  · right
    rcases h2.2 with ⟨rfl, _⟩ | ⟨g2, _, cur2, rfl, _, hg2, _⟩
    · simp [Value.ownBlock]
    · intro e
      have e' : g1 = g2 := by simpa [Value.ownBlock] using e
      subst e'
      rw [hg1] at hg2
      injection hg2 with hg2
      injection hg2 with _ ht
      exact hne ht
theorem Own.later {w w' : World} {base : Nat} {e : TypeId} {sz n c : Nat} {A : Option Addr} {xs : List Value} (h : Own w base e sz A n c xs) (hb : Below w.heap.size w w') : Own w' base e sz A n c xs :=
  ⟨h.row.kept (row := none) ⟨hb.os, hb.tape, hb.output, hb.size, fun k hk _ => hb.block k hk⟩ (by cases h2 : Value.ownBlock (.slice A n c) <;> simp), h.one⟩
theorem Own.grown {w w' : World} {base : Nat} {e : TypeId} {sz n c : Nat} {A : Option Addr} {xs : List Value} (h : Own w base e sz A n c xs) {row : Option Nat} (hg : w.grownBy w' row) (hne : Value.ownBlock (.slice A n c) = none ∨ Value.ownBlock (.slice A n c) ≠ row) : Own w' base e sz A n c xs :=
  ⟨h.row.kept hg hne, h.one⟩
namespace SortS
theorem RepH.start : RepH [] [] := ⟨fun i j hi => by simp at hi, fun p => by simp [valueOf_nil]⟩
theorem RepH.put {h : List Act} {l l' : Ps} {a : Act} (hr : RepH h l) (hg : a.gone = false) (hp : PutIs ltS l a.key a.v l') : RepH (h ++ [a]) l' := by
  refine ⟨hp.1, fun p => ?_⟩
  rw [hp.2.2 p, valueOf_snoc, hg]
  obtain ⟨k, v⟩ := p
  by_cases e : a.key = k
  · subst e
    simp only [if_true, Bool.false_eq_true, if_false, Prod.mk.injEq, true_and, ne_eq, not_true_eq_false, and_false, or_false, Option.some.injEq]
    exact eq_comm
  · rw [if_neg e, ← hr.2 (k, v)]
    simp only [Prod.mk.injEq, ne_eq]
    constructor
    · rintro (⟨h1, _⟩ | ⟨h1, _⟩)
      · exact (e h1.symm).elim
      · exact h1
    · intro h1
      exact .inr ⟨h1, fun h2 => e h2.symm⟩
theorem RepH.del {h : List Act} {l l' : Ps} {a : Act} (hr : RepH h l) (hg : a.gone = true) (hp : DelIs ltS l a.key l') : RepH (h ++ [a]) l' := by
  refine ⟨hp.1, fun p => ?_⟩
  rw [hp.2.2 p, valueOf_snoc, hg]
  obtain ⟨k, v⟩ := p
  by_cases e : a.key = k
  · subst e
    simp
  · rw [if_neg e, ← hr.2 (k, v)]
    exact ⟨fun h => h.1, fun h => ⟨h, fun h2 => e h2.symm⟩⟩

/-- a map as it lies: its pairs, its slice -/
structure Lay where
  l : Ps
  A : Option Addr
  c : Nat
def Lay.cell (m : Lay) : Value := .slice m.A m.l.length m.c
theorem infoM : (Try.prog.info? 26).map (fun i => (i.zero, i.size, i.bytes)) = some (some (.agg #[.slice none 0 0]), 1, 24) := by kernel_rfl
theorem infoA : (Try.prog.info? 29).map (fun i => (i.zero, i.size, i.bytes)) = some (some (.agg #[.string ByteArray.empty, .int .i64 0, .bool false]), 3, 32) := by kernel_rfl
/-- the maps so far: each has what its acts made -/
structure Maps (w : World) (lo : Nat) (h : List Act) (L : List Lay) : Prop where
  rep : ∀ (i : Nat) (hi : i < L.length), RepH (h.take i) L[i].l ∧ L[i].l.length ≤ i ∧ Own w lo 60 2 L[i].A L[i].l.length L[i].c (flat L[i].l)

/-- a round: the new map put behind the others -/
theorem round_maps {wr w2 : World} {s k : Nat} {h : List Act} {L : List Lay} {l' : Ps} {A3 : Option Addr} {c3 : Nat} {v : Value} (hs : s < wr.heap.size) (hm : wr.ownsRow (s + 1) 26 1 v (k + 1) (L.map Lay.cell)) (hL : L.length = k + 1) (hM : Maps wr (s + 1) h L)
    (hk : k ≤ 40) (hrep : RepH (h.take (k + 1)) l') (hlen : l'.length ≤ k + 1) (hown : Own w2 wr.heap.size 60 2 A3 l'.length c3 (flat l')) (hb : Below wr.heap.size wr w2) {u0 : Value} (hcell : w2.cell? ⟨s, 0, none⟩ = some u0) (hfr : w2.frozen? ⟨s, 0, none⟩ = false) (q : Nat) (hq : w2.heap.size = q) :
    ∃ v' w4, (Builtin.append_ #[27, 27] 27 #[v, .slice (some ⟨q, 0, none⟩) 1 1]).run Try.prog ((w2.setCell ⟨s, 0, none⟩ (.slice A3 l'.length c3)).alloc (.cells #[.slice A3 l'.length c3] 26)) = .ok v' w4 ∧
      w4.ownsRow (s + 1) 26 1 v' (k + 2) ((L ++ [(⟨l', A3, c3⟩ : Lay)]).map Lay.cell) ∧ Maps w4 (s + 1) h (L ++ [(⟨l', A3, c3⟩ : Lay)]) ∧ w4.cell? ⟨s, 0, none⟩ = some (.slice A3 l'.length c3) ∧ w4.frozen? ⟨s, 0, none⟩ = false ∧ Below s wr w4 := by
  subst hq
  obtain ⟨i0, hi0, hz0, hz1, hz2⟩ := info_parts infoM
  have hgb : wr.grownBy (w2.setCell ⟨s, 0, none⟩ (.slice A3 l'.length c3)) (some s) := gb_set (gb_later (gb_refl _ _) hb) _ _
  have hv : Value.ownBlock v = none ∨ Value.ownBlock v ≠ some s := by
    right; intro e; have := (hm.lt s e).1; omega
  have hm1 := hm.kept hgb hv
  have hm2 := hm1.alloc (.cells #[.slice A3 l'.length c3] 26)
  have hsz : w2.heap.size ≥ wr.heap.size := hb.size
  have hW : (w2.setCell ⟨s, 0, none⟩ (.slice A3 l'.length c3)).heap.size = w2.heap.size := by simp
  obtain ⟨v', w4, h1, h2, h3, h4⟩ := run_app (P := Try.prog) ((w2.setCell ⟨s, 0, none⟩ (.slice A3 l'.length c3)).alloc (.cells #[.slice A3 l'.length c3] 26)) (s + 1) 27 27 26 i0 _ 1 24 Try.underlying27 hi0 hz0 hz1 hz2 rfl (by omega)
    hm2 (B := w2.heap.size + 1) (A := some ⟨w2.heap.size, 0, none⟩) (m := 1) (c := 1) (news := [.slice A3 l'.length c3])
    ⟨rfl, by omega, by intro u hu; simp only [List.mem_cons, List.not_mem_nil, or_false] at hu; subst hu; rfl, fun _ => ⟨_, _, rfl, by omega, fun j u hu => by
      rw [Nat.zero_add, ← hW, cell_of_row _ _ j _ _ (0, 0) (heap_alloc_new _ _)]
      simpa using hu⟩⟩ (by omega) (by omega) (by simp; omega)
  have hgb2 : wr.grownBy ((w2.setCell ⟨s, 0, none⟩ (.slice A3 l'.length c3)).alloc (.cells #[.slice A3 l'.length c3] 26)) (some s) :=
    ⟨hgb.os, hgb.tape, hgb.output, Nat.le_trans hgb.size (by simp), fun i hi hne => (Below.heap_alloc _ _ i (Nat.lt_of_lt_of_le hi hgb.size)).trans (hgb.block i hi hne)⟩
  have hslot : (w2.setCell ⟨s, 0, none⟩ (.slice A3 l'.length c3)).cell? ⟨s, 0, none⟩ = some (.slice A3 l'.length c3) := by go_simp
  have hslot2 : (w2.setCell ⟨s, 0, none⟩ (.slice A3 l'.length c3)).frozen? ⟨s, 0, none⟩ = false := by go_simp
  have hsne : some s ≠ v.ownBlock := by intro e; have := (hm.lt s e.symm).1; omega
  have hkeep : ∀ {A : Option Addr} {n c : Nat} {xs : List Value}, Own wr (s + 1) 60 2 A n c xs → Own w4 (s + 1) 60 2 A n c xs := by
    intro A n c xs ho
    have e1 : Own ((w2.setCell ⟨s, 0, none⟩ (.slice A3 l'.length c3)).alloc (.cells #[.slice A3 l'.length c3] 26)) (s + 1) 60 2 A n c xs :=
      ho.grown hgb2 (.inr (by intro e; have := (ho.row.lt s e).1; omega))
    exact e1.grown h3 (own_ne e1.row hm2 (by decide))
  refine ⟨v', w4, h1, by simpa [Lay.cell] using h2, ⟨fun i hi => ?_⟩, ?_, ?_, ?_⟩
  · by_cases hik : i < L.length
    · obtain ⟨r1, r2, r3⟩ := hM.rep i hik
      rw [List.getElem_append_left hik]
      exact ⟨r1, r2, hkeep r3⟩
    · have e : i = k + 1 := by simp at hi; omega
      subst e
      rw [List.getElem_append_right (by omega)]
      simp only [hL, Nat.sub_self, List.getElem_cons_zero]
      refine ⟨hrep, hlen, ?_⟩
      have e0 : Own w2 (s + 1) 60 2 A3 l'.length c3 (flat l') := hown.mono (by omega)
      have e1 := e0.set_below (a := ⟨s, 0, none⟩) (by simp) (.slice A3 l'.length c3)
      have e2 : Own ((w2.setCell ⟨s, 0, none⟩ (.slice A3 l'.length c3)).alloc (.cells #[.slice A3 l'.length c3] 26)) (s + 1) 60 2 A3 l'.length c3 (flat l') := ⟨e1.row.alloc _, e1.one⟩
      exact e2.grown h3 (own_ne e2.row hm2 (by decide))
  · rw [World.cell?_of_block (h3.block s (by simp; omega) hsne), World.cell?_alloc_lt _ _ _ (by simp; omega)]
    exact hslot
  · rw [World.frozen?_of_block (h3.block s (by simp; omega) hsne), World.frozen?_of_block (Below.heap_alloc _ _ s (by simp; omega))]
    exact hslot2
  · have b1 : Below s wr w2 := hb.mono (by omega)
    exact ((b1.setCell (p := ⟨s, 0, none⟩) (Nat.le_refl _) _).alloc (by simp; omega) _).grown h3 (by simp; omega) (fun j hj => by have := (hm.lt j hj).1; omega)

set_option maxRecDepth 100000 in
set_option maxHeartbeats 2000000 in
theorem plays_any (h : List Act) (t : ByteArray) (n : Int) (H : Option Addr) (d : Nat) (w : World) (hh : Rd w w.heap.size 3 H h.length d (flatA h)) (hc : h.length ≤ maxLen) :
    Calls Try.prog 3 #[.slice H h.length d, .string t, .int .i64 n] w fun e w' => e = .returned (.bool true) ∧ Below w.heap.size w w' := by
  unfold maxLen at hc
  by_cases hbig : h.length ≤ 40
  · have h40 : decide ((40 : Int) < h.length) = false := by simp; omega
    have HH := Lib.hid hh
    clear hh
    go_enter Try.func3, Try.ntmps3
    go_wp2_with (go_at_call 9; refine (SortS.awake_any _).mono ?_; rintro e w1 ⟨rfl, hb1⟩)
    obtain ⟨s, hs⟩ : ∃ s, s = w1.heap.size := ⟨_, rfl⟩
    rw [← hs]
    have HS := Lib.hid hs
    clear hs
    go_loopw [8, 23] (fun v q wr => ∃ (k : Nat) (L : List Lay) (l : Ps) (A2 : Option Addr) (c2 : Nat), q = .int .i64 k ∧ k ≤ h.length ∧ L.length = k + 1 ∧ L[k]? = some ⟨l, A2, c2⟩ ∧ wr.ownsRow (s + 1) 26 1 v (k + 1) (L.map Lay.cell) ∧ Below w1.heap.size w1 wr ∧ s < wr.heap.size ∧
      wr.cell? ⟨s, 0, none⟩ = some (.slice A2 l.length c2) ∧ wr.frozen? ⟨s, 0, none⟩ = false ∧ Hid (Maps wr (s + 1) h L)) (fun _ q _ => (h.length - intOf q).toNat)
    case atStart =>
      refine ⟨0, [⟨[], none, 0⟩], [], none, 0, rfl, Nat.zero_le _, rfl, rfl, ?_, ((Below.refl _ _).alloc (Nat.le_refl _) _).alloc (by simp) _, by rw [HS.out]; simp; omega, by rw [HS.out]; go_simp, by rw [HS.out]; go_simp, ⟨fun i hi => ?_⟩⟩
      · have h1 := World.ownsRow_lit (base := s + 1) (e := 26) (size := 1) (w1.alloc (.cells #[.slice none 0 0] 26)) #[.slice none 0 0] 1 (by rw [HS.out]; simp) (by simp [maxLen]) rfl
        simpa [HS.out, Lay.cell] using h1
      · have e : i = 0 := by simp at hi; exact hi
        subst e
        exact ⟨by simpa using RepH.start, Nat.le_refl _, ⟨World.ownsRow_nil _ _ _ _, by simp [flat, flat2]⟩⟩
    case round =>
      obtain ⟨k, L, l, A2, c2, rfl, hk, hLk, hLl, hmaps, hB, hsz, hmc, hmf, hM⟩ := hrel
      obtain ⟨A8, c8, rfl, _⟩ := Own.of_row hmaps (by intro u hu; obtain ⟨z, _, rfl⟩ := List.mem_map.1 hu; rfl)
      by_cases hlt : k < h.length
      · obtain ⟨b, o, rfl, hbb, hcc⟩ := HH.out.at_ (by omega)
        have hBB : Below w.heap.size w wr := hb1.trans (hB.mono hb1.size)
        obtain ⟨f0, f1, f2⟩ := flatA_at h k hlt
        obtain ⟨⟨ak, av, ag⟩, ha⟩ : ∃ a, a = h[k] := ⟨_, rfl⟩
        rw [← ha] at f0 f1 f2
        have k0 : wr.cell? ⟨b, o + k * 3, none⟩ = some (.string ak) := (hBB.cell (p := ⟨b, o + k * 3, none⟩) hbb).trans (hcc _ _ f0)
        have k1 : wr.cell? ⟨b, o + k * 3 + 1, none⟩ = some (.int .i64 av) := (hBB.cell (p := ⟨b, o + k * 3 + 1, none⟩) hbb).trans (hcc _ _ f1)
        have k2 : wr.cell? ⟨b, o + k * 3 + 2, none⟩ = some (.bool ag) := (hBB.cell (p := ⟨b, o + k * 3 + 2, none⟩) hbb).trans (hcc _ _ f2)
        have hki : (k : Int) < h.length := by omega
        have hLk' : k < L.length := by omega
        have hLe : L[k] = ⟨l, A2, c2⟩ := by rw [List.getElem?_eq_getElem hLk'] at hLl; injection hLl
        obtain ⟨r1, r2, r3⟩ := hM.rep k hLk'
        rw [hLe] at r1 r2 r3
        have HR1 := Lib.hid r1
        have htake : h.take (k + 1) = h.take k ++ [⟨ak, av, ag⟩] := by rw [List.take_succ_eq_append_getElem hlt, ha]
        have HT := Lib.hid htake
        have HR3 := Lib.hid r3.rd
        have hl1 : l.length ≤ 1000 := by dsimp only at r2; omega
        have HM := Lib.hid hM
        clear f0 f1 f2 ha hcc r1 r3 hLl hLe htake hM
        have hM := HM
        clear HM
        cases ag
        · have HC := Lib.hid (put_any l ak av A2 c2 wr.drew hl1 HR3.out.drew HR1.out.1)
          go_wp2
          go_region_law (go_simp; go_at_call 11; refine HC.out.mono ?_; rintro e w2 ⟨l', hpi, A3, c3, rfl, hown3, hb3⟩; (have hb4 : Below wr.heap.size wr w2 := (Below.refl _ _).drew.trans (hb3.mono (by simp))); (have i0 : w2.cell? ⟨s, 0, none⟩ = some (.slice A2 l.length c2) := (hb4.cell (p := ⟨s, 0, none⟩) hsz).trans hmc); (have i1 : w2.frozen? ⟨s, 0, none⟩ = false := (hb4.frozen (p := ⟨s, 0, none⟩) hsz).trans hmf))
          all_goals
            obtain ⟨v', w4, hrun, hm', hM', hc', hf', hb'⟩ := round_maps hsz hmaps hLk hM.out (by omega) (by rw [HT.out]; exact HR1.out.put rfl hpi) (by have := hpi.2.1; omega) hown3 hb4 i0 i1 w2.heap.size rfl
            have Hrun := Lib.hid hrun
            have HM' := Lib.hid hM'
            have HB4 := Lib.hid (hB.trans (hb'.mono (by rw [HS.out]; exact Nat.le_refl _)))
            have hsz4 : s < w4.heap.size := World.block_lt_of_cell? w4 ⟨s, 0, none⟩ hc'
            clear hrun hM' hmc hmf
            go_wp2_with (at_builtin; refine Lib.wpList_append_run _ rfl _ _ _ _ rfl _ _ rfl rfl _ _ Hrun.out ?_)
            go_roundw
            case rel => exact ⟨k + 1, L ++ [⟨l', A3, c3⟩], l', A3, c3, by go_num, by omega, by simp [hLk], by rw [List.getElem?_append_right (by omega)]; simp [hLk], by simpa using hm', HB4.out, hsz4, hc', hf', HM'⟩
            case measure => simp [intOf]; omega
        · have HC := Lib.hid (del_any l ak A2 c2 wr.drew hl1 HR3.out.drew HR1.out.1)
          go_wp2
          go_region_law (go_simp; go_at_call 10; refine HC.out.mono ?_; rintro e w2 ⟨l', hpi, A3, c3, rfl, hown3, hb3⟩; (have hb4 : Below wr.heap.size wr w2 := (Below.refl _ _).drew.trans (hb3.mono (by simp))); (have i0 : w2.cell? ⟨s, 0, none⟩ = some (.slice A2 l.length c2) := (hb4.cell (p := ⟨s, 0, none⟩) hsz).trans hmc); (have i1 : w2.frozen? ⟨s, 0, none⟩ = false := (hb4.frozen (p := ⟨s, 0, none⟩) hsz).trans hmf))
          all_goals
            obtain ⟨v', w4, hrun, hm', hM', hc', hf', hb'⟩ := round_maps hsz hmaps hLk hM.out (by omega) (by rw [HT.out]; exact HR1.out.del rfl hpi) (by have := hpi.2.1; omega) hown3 hb4 i0 i1 w2.heap.size rfl
            have Hrun := Lib.hid hrun
            have HM' := Lib.hid hM'
            have HB4 := Lib.hid (hB.trans (hb'.mono (by rw [HS.out]; exact Nat.le_refl _)))
            have hsz4 : s < w4.heap.size := World.block_lt_of_cell? w4 ⟨s, 0, none⟩ hc'
            clear hrun hM' hmc hmf
            go_wp2_with (at_builtin; refine Lib.wpList_append_run _ rfl _ _ _ _ rfl _ _ rfl rfl _ _ Hrun.out ?_)
            go_roundw
            case rel => exact ⟨k + 1, L ++ [⟨l', A3, c3⟩], l', A3, c3, by go_num, by omega, by simp [hLk], by rw [List.getElem?_append_right (by omega)]; simp [hLk], by simpa using hm', HB4.out, hsz4, hc', hf', HM'⟩
            case measure => simp [intOf]; omega
      · obtain rfl : k = h.length := by omega
        obtain ⟨gm, rfl⟩ : ∃ g, A8 = some ⟨g, 0, none⟩ := by
          rcases hmaps.2 with ⟨hv, _⟩ | ⟨g, _, _, hv, _⟩
          · cases hv
          · injection hv with hv; exact ⟨g, hv⟩
        have hgm : gm < wr.heap.size := (hmaps.lt gm rfl).2
        have hBB : Below w.heap.size w wr := hb1.trans (hB.mono hb1.size)
        have hcells : Hid (∀ (i : Nat) (hi : i < L.length), wr.cell? ⟨gm, i, none⟩ = some (.slice L[i].A L[i].l.length L[i].c)) := by
          intro i hi
          rw [hmaps.cellAt i (by omega), List.getElem?_map, List.getElem?_eq_getElem hi]
          rfl
        obtain ⟨i0, hi0, hz0, hz1, hz2⟩ := info_parts infoA
        clear hmc hmf hLl hmaps hk
        go_wp2
        obtain ⟨wo, rfl⟩ : ∃ wo : World, wo = wr := ⟨_, rfl⟩
        go_loopw [57] (fun q wx => ∃ k : Nat, q = .int .i64 k ∧ k ≤ h.length + 1 ∧ Below wo.heap.size wo wx) (fun q _ => (h.length + 1 - intOf q).toNat)
        case atStart => exact ⟨0, rfl, Nat.zero_le _, Below.refl _ _⟩
        case round =>
          obtain ⟨k, rfl, hk, hB2⟩ := hrel
          obtain ⟨wx, rfl⟩ : ∃ wx : World, wx = wr := ⟨_, rfl⟩
          by_cases hlt : k < h.length + 1
          · have hLk' : k < L.length := by omega
            obtain ⟨r1, r2, r3⟩ := hM.out.rep k hLk'
            have c0 := (hB2.cell (p := ⟨gm, k, none⟩) hgm).trans (hcells.out k hLk')
            obtain ⟨⟨l, A2, c2⟩, hLe⟩ : ∃ M, M = L[k] := ⟨_, rfl⟩
            rw [← hLe] at r1 r2 r3 c0
            dsimp only at r1 r2 r3 c0
            have hBx : Below w.heap.size w wx := hBB.trans (hB2.mono hBB.size)
            have hlen : (h.take k).length = k := by rw [List.length_take]; omega
            have hRd3 : Rd wx wx.heap.size 3 H k d (flatA (h.take k)) := by rw [flatA_take]; exact ((HH.out.below hBx).more hBx.size).to_ (by omega)
            have hRd2 : Rd wx wx.heap.size 2 A2 l.length c2 (flat l) := (r3.later hB2).rd
            have hcut1 := fun W => run_cut_to (P := Try.prog) 22 29 3 Try.underlying22 hi0 hz1 H h.length d k (by have := HH.out.cap; omega) W
            have hI : ∀ W, Below wx.heap.size wx W → Calls Try.prog 12 #[.agg #[.slice A2 l.length c2], .slice H k d] W fun e w' => e = .returned (.bool true) ∧ Below W.heap.size W w' := by
              intro W hW
              have := is_any (h.take k) l A2 H c2 d W (by omega) (by omega) (hRd2.later hW) (by rw [hlen]; exact hRd3.later hW) r1
              rwa [hlen] at this
            have hT : ∀ W, Below wx.heap.size wx W → Calls Try.prog 13 #[.agg #[.slice A2 l.length c2], .slice H k d, .string t, .int .i64 n] W fun e w' => e = .returned (.bool true) ∧ Below W.heap.size W w' := by
              intro W hW
              have := tells_any (h.take k) l t n A2 H c2 d W (by omega) (by omega) (hRd2.later hW) (by rw [hlen]; exact hRd3.later hW) r1
              rwa [hlen] at this
            have HI := Lib.hid hI
            have HTl := Lib.hid hT
            have hgm2 : gm < wx.heap.size := Nat.lt_of_lt_of_le hgm hB2.size
            have hki : (k : Int) < (h.length : Int) + 1 := by omega
            have hkd : (k : Int) ≤ (d : Int) := by have := HH.out.cap; omega
            clear r1 r2 r3 hLe hlen hRd2 hRd3 hI hT
            go_wp2
            go_region_held3 (fun W => W.cell? ⟨gm, k, none⟩ = some (.slice A2 l.length c2)) (go_keep)
              (first
              | (go_at_call 12; refine (HI.out wx.drew (Below.refl _ _).drew).mono ?_; rintro e w3 ⟨rfl, hb3⟩; (have c3' : w3.cell? ⟨gm, k, none⟩ = some (.slice A2 l.length c2) := (hb3.cell (p := ⟨gm, k, none⟩) hgm2).trans c0); (have hb3' : Below wx.heap.size wx w3 := (Below.refl _ _).drew.trans (hb3.mono (Nat.le_refl _))); (have hgm3 : gm < w3.heap.size := Nat.lt_of_lt_of_le hgm2 hb3'.size))
              | (go_at_call 13; refine (HTl.out w3 hb3').mono ?_; rintro e w4 ⟨rfl, hb4⟩; (have c4' : w4.cell? ⟨gm, k, none⟩ = some (.slice A2 l.length c2) := (hb4.cell (p := ⟨gm, k, none⟩) hgm3).trans c3')))
            go_wp2
            go_roundw
            case rel => exact ⟨k + 1, by go_num, by omega, hB2.trans ((hb3'.trans (hb4.mono hb3'.size)).mono hB2.size)⟩
            case measure => simp [intOf]; omega
          · obtain rfl : k = h.length + 1 := by omega
            go_wp2
            go_ret
            exact ⟨rfl, hBB.trans (hB2.mono hBB.size)⟩
  · have h40 : decide ((40 : Int) < h.length) = true := by simp; omega
    go_enter Try.func3, Try.ntmps3
    go_wp2_with (first
      | (go_at_call 9; refine (SortS.awake_any w).mono ?_; rintro e w1 ⟨rfl, hb1⟩)
      | (go_at_call 9; refine (SortS.awake_any w1).mono ?_; rintro e w2 ⟨rfl, hb2⟩))
    go_ret
    exact ⟨rfl, hb1.trans (hb2.mono hb1.size)⟩
end SortS
end Go.Proofs.Ytolfockpiioncaa
