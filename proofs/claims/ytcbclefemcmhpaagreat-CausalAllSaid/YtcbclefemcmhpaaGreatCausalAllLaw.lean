/- CausalAll: a law of layer 9, walked, and proved. -/
import Derived.Test.YtcbclefemcmhpaaGreatG00
import Derived.Test.YtcbclefemcmhpaaGreatG120
import Derived.Test.YtcbclefemcmhpaaGreatCauKit
import Derived.Test.YtcbclefemcmhpaaGreatCauAll
import Derived.Test.YtcbclefemcmhpaaGreatCauRefJoin
import Derived.Test.YtcbclefemcmhpaaGreatCauOwnRef
open Go.ChangeShapes Go.WideShapes Go.ChangeAt Go.RowKit
namespace Go.Proofs.YtcbclefemcmhpaaGreat
namespace lawCausalAll
open Tr Cx Cs Sp Rw Classical
set_option maxRecDepth 100000 in
theorem cau_cells {H : Type} {enc : TypeId × Value → H} {W : World} {m : Nat} {cs : List Value} {y : DataW H × List MemPlace} (hy : DataW.trod enc Tryz.prog W 0 (fun _ => true) true m 29 cs = some y) : ∃ a b c : SV, cs = [.slice a.A a.n a.c, .slice b.A b.n b.c, .slice c.A c.n c.c] := by
 obtain ⟨f0, f1, hT, t0, o0, t1, o1⟩ : ∃ f0 f1 : Field, Tryz.prog.underlying 29 = some (.struct #[f0, f1]) ∧ f0.type = 25 ∧ f0.offset = 0 ∧ f1.type = 27 ∧ f1.offset = 2 := ⟨_, _, Tryz.underlying29, rfl, rfl, rfl, rfl⟩
 obtain ⟨xs, n, rfl, rfl, hlen, hxl, hfs⟩ := DataW.trod_struct hT hy
 have hc3 : Tryz.prog.cellsOf 29 = 3 := by kernel_rfl
 have hc2 : Tryz.prog.cellsOf 25 = 2 := by kernel_rfl
 have hc1 : Tryz.prog.cellsOf 27 = 1 := by kernel_rfl
 rw [hc3] at hlen
 obtain ⟨c0, c1, c2, rfl⟩ : ∃ c0 c1 c2, cs = [c0, c1, c2] := by
  match cs, hlen with
  | [c0, c1, c2], _ => exact ⟨_, _, _, rfl⟩
 have h0 := hfs 0 f0 rfl
 have h1 := hfs 1 f1 rfl
 rw [t0, o0, hc2, List.getElem?_eq_getElem (by rw [hxl]; simp)] at h0
 rw [t1, o1, hc1, List.getElem?_eq_getElem (by rw [hxl]; simp)] at h1
 simp at h0 h1
 have hsl : ∀ {t e : TypeId} {fuel : Nat} {v : Value} {x : DataW H × List MemPlace}, Tryz.prog.underlying t = some (.slice e) → DataW.trod enc Tryz.prog W 0 (fun _ => true) true fuel t [v] = some x → ∃ s : SV, v = .slice s.A s.n s.c := by
  intro t e fuel v x ht h
  rcases DataW.trod_slice ht h with ⟨e, _⟩ | ⟨a, len, cap, _, _, _, _, e, _⟩
  ·exact ⟨⟨none, 0, 0⟩, by simpa using e⟩
  ·exact ⟨⟨some a, len, cap⟩, by simpa using e⟩
 obtain ⟨s2, rfl⟩ := hsl Tryz.underlying27 h1
 obtain ⟨g0, g1, hT2, u0, p0, u1, p1⟩ : ∃ g0 g1 : Field, Tryz.prog.underlying 25 = some (.struct #[g0, g1]) ∧ g0.type = 22 ∧ g0.offset = 0 ∧ g1.type = 23 ∧ g1.offset = 1 := ⟨_, _, Tryz.underlying25, rfl, rfl, rfl, rfl⟩
 obtain ⟨y0, y1, n2, _, _, k0, k1⟩ := trod_struct2 hT2 h0
 have hcE : Tryz.prog.cellsOf 22 = 1 := by kernel_rfl
 have hcK : Tryz.prog.cellsOf 23 = 1 := by kernel_rfl
 rw [u0, p0, hcE] at k0
 rw [u1, p1, hcK] at k1
 simp at k0 k1
 obtain ⟨s0, rfl⟩ := hsl Tryz.underlying22 k0
 obtain ⟨s1, rfl⟩ := hsl Tryz.underlying23 k1
 exact ⟨s0, s1, s2, rfl⟩
theorem kept_low {l : List (Addr × Value)} {w0 w w' : World} {B : Nat} (h : Kept l w0 w) (hb : Below B w w') (hlt : ∀ x ∈ l, x.1.block < B) (hB : w0.heap.size ≤ B) (hs : w.heap.size ≤ w'.heap.size) : Kept l w0 w' :=
 ⟨h.1.trans (hb.mono hB), fun x hx => ⟨Nat.lt_of_lt_of_le (h.2 x hx).1 hs, (hb.cell (p := x.1) (hlt x hx)).trans (h.2 x hx).2⟩⟩
theorem rd_one (w : World) (p : CP) : Rd (w.alloc (.cells #[.slice p.e.A p.e.n p.e.c, .slice p.d.A p.d.n p.d.c, .slice p.c.A p.c.n p.c.c] 29)) (w.heap.size + 1) 3 (some ⟨w.heap.size, 0, none⟩) 1 1 ([p].flatMap cpV) :=
 ⟨rfl, Nat.le_refl _, fun u hu => cpV_one p u (by simpa using hu), fun _ => ⟨_, _, rfl, by omega, fun j u hu => by
  rw [Nat.zero_add, cell_of_row _ _ j _ _ (0, 0) (heap_alloc_new _ _)]
  simpa [cpV] using hu⟩⟩
set_option maxRecDepth 100000 in
theorem push_cau {w : World} {base n c : Nat} {A : Option Addr} {l : List CP} (h : Own w base 29 3 A n c (l.flatMap cpV)) (hb : base ≤ w.heap.size) (p : CP) (hn : n ≤ 1000) :
  ∃ A' c' w', (Builtin.append_ #[39, 39] 39 #[.slice A n c, .slice (some ⟨w.heap.size, 0, none⟩) 1 1]).run Tryz.prog (w.alloc (.cells #[.slice p.e.A p.e.n p.e.c, .slice p.d.A p.d.n p.d.c, .slice p.c.A p.c.n p.c.c] 29)) = .ok (.slice A' (n + 1) c') w' ∧ Own w' base 29 3 A' (n + 1) c' ((l ++ [p]).flatMap cpV) ∧ Below base w w' ∧ w.heap.size ≤ w'.heap.size ∧ ∀ b, b < w.heap.size → (Value.slice A n c).ownBlock ≠ some b → w'.heap[b]? = w.heap[b]? ∧ (Value.slice A' (n + 1) c').ownBlock ≠ some b := by
 obtain ⟨i0, hi0, hz0, hz1, hz2⟩ := info_of infoC
 obtain ⟨W, hW⟩ : ∃ W, W = w.alloc (.cells #[.slice p.e.A p.e.n p.e.c, .slice p.d.A p.d.n p.d.c, .slice p.c.A p.c.n p.c.c] 29) := ⟨_, rfl⟩
 have hal : Below w.heap.size w W := by rw [hW]; exact (Below.refl _ _).alloc (Nat.le_refl _) _
 have hsz : W.heap.size = w.heap.size + 1 := by rw [hW]; simp
 have hone := rd_one w p
 rw [← hW] at hone ⊢
 obtain ⟨v', w', r1, r2, r3, r4⟩ := run_app (P := Tryz.prog) W base 39 39 29 i0 _ 3 72 Tryz.underlying39 hi0 hz0 hz1 hz2 rfl (by omega) (own_later h hal).row hone (by omega) (by omega) (by omega)
 have e1 : (l ++ [p]).flatMap cpV = l.flatMap cpV ++ [p].flatMap cpV := by simp
 rw [← e1] at r2
 obtain ⟨A', c', rfl, ho⟩ := Own.of_row r2 (fun u hu => by
  obtain ⟨x, _, hu⟩ := List.mem_flatMap.1 hu
  exact cpV_one x u hu)
 refine ⟨A', c', w', r1, ho, (hal.mono hb).trans ((Below.refl base W).grown r3 (by omega) (fun k hk => (h.row.lt k hk).1)), Nat.le_trans (by omega) r3.size, fun b hlt hne => ⟨?_, fun he => ?_⟩⟩
 ·rw [r3.block b (by omega) (fun e => hne e.symm)]
  exact hal.block b hlt
 ·rcases r4 with r4 | r4
  ·exact hne (r4.symm.trans he)
  ·have h3 : some b = some W.heap.size := he.symm.trans r4
   injection h3 with h3
   omega
theorem caus_of_trod {H : Type} {enc : TypeId × Value → H} {W : World} {A : Option Addr} {len cap fuel : Nat} {x : DataW H × List MemPlace}
  (h : DataW.trod enc Tryz.prog W 0 (fun _ => true) true fuel 39 (Value.slice A len cap).cells.toList = some x) (hw : ∀ m ∈ x.1.weights Tryz.prog 39, m ≤ reachBytes) :
  ∃ ps : List CP, RowP W A len cap ps ∧ ∀ p ∈ ps, LenT reachBytes p.k.1 := by
 obtain ⟨s, f, e, hfl, hel, _, hrd, _⟩ := row_of_trod (sz := 3) Tryz.underlying39 (by kernel_rfl) (by omega) (fun n cs y _ hy u hu => by
  obtain ⟨m, _, hl, _⟩ : ∃ m : Nat, True ∧ cs.length = 3 ∧ True := by
   obtain ⟨xs, n, _, _, hlen, _, _⟩ := DataW.trod_struct Tryz.underlying29 hy
   have hc3 : Tryz.prog.cellsOf 29 = 3 := by kernel_rfl
   exact ⟨0, trivial, by rw [← hc3]; exact hlen, trivial⟩
  obtain ⟨q0, q1, q2, rfl⟩ := cau_cells hy
  simp at hu
  rcases hu with rfl | rfl | rfl <;> rfl) h
 simp [Value.cells] at e
 obtain ⟨e1, e2, e3⟩ := e
 subst e1; subst e2; subst e3
 have hex : ∀ i, ∃ p : CP, i < s.n → f i = cpV p ∧ RdP W p ∧ LenT reachBytes p.k.1 := by
  intro i
  by_cases hi : i < s.n
  ·obtain ⟨m, y, hm, hy, hwy⟩ := hel i hi
   obtain ⟨p, h1, h2, h3⟩ := cau_of_trod hy (fun q hq => hw q (hwy q hq))
   exact ⟨p, fun _ => ⟨h1, h2, h3⟩⟩
  ·exact ⟨⟨noneK, ⟨none, 0, 0⟩, ⟨none, 0, 0⟩, ⟨none, 0, 0⟩⟩, fun h => absurd h hi⟩
 obtain ⟨pf, hpf⟩ := Classical.axiomOfChoice hex
 have hmem : ∀ p ∈ (List.range s.n).map pf, RdP W p ∧ LenT reachBytes p.k.1 := fun p hp => by
  obtain ⟨i, hi, rfl⟩ := List.mem_map.1 hp
  exact (hpf i (List.mem_range.1 hi)).2
 refine ⟨(List.range s.n).map pf, ⟨?_, by simp, fun p hp => (hmem p hp).1⟩, fun p hp => (hmem p hp).2⟩
 have e : ((List.range s.n).map pf).flatMap cpV = (List.range s.n).flatMap f := by
  rw [List.flatMap_map]
  unfold List.flatMap
  congr 1
  exact List.map_congr_left fun i hi => ((hpf i (List.mem_range.1 hi)).1).symm
 rw [e]
 exact hrd
/-- what holds at the loop's head -/
def InvA (ps : List CP) (gw : Nat) (v1 w : World) (k : Nat) (Ab : Option Addr) (cb : Nat) (bad : Bool) (wr : World) : Prop := ∃ (m : Nat) (kw : K) (We Wk Wc : Option Addr) (we1 we2 wk1 wk2 wc1 wc2 : Nat), m ≤ k ∧ Hid (Own wr (gw + 1) 29 3 Ab k cb ((ps.reverse.take k).flatMap cpV)) ∧ Hid (bad = !((ps.take k).all fun p => rightKB p.k)) ∧ Hid (bad = false → m = k) ∧ Hid (AllJ ((ps.take m).map CP.k) kw ∧ nodes kw.1 ≤ 40 * m ∧ kw.2.length ≤ 40 * m) ∧ Hid (NoC wr (fun b => b ≠ gw ∧ (Value.slice Ab k cb).ownBlock ≠ some b) ⟨kw, ⟨We, we1, we2⟩, ⟨Wk, wk1, wk2⟩, ⟨Wc, wc1, wc2⟩⟩) ∧ Hid (Kept [(⟨gw, 0, none⟩, .slice We we1 we2), (⟨gw, 1, none⟩, .slice Wk wk1 wk2), (⟨gw, 2, none⟩, .slice Wc wc1 wc2)] w wr) ∧ Hid (Free gw wr) ∧ Hid (∀ (j : Nat) (h : j < ps.length), j < k → nodes ps[j].k.1 ≤ 40 ∧ ps[j].c.n ≤ 40) ∧ Hid (Below v1.heap.size v1 wr)
set_option maxRecDepth 100000 in
set_option maxHeartbeats 4000000 in
theorem walk_any (ps : List CP) (n : Nat) (A : Option Addr) (c : Nat) (w : World) (hr : RowP w A n c ps) (hl : ∀ p ∈ ps, LenT reachBytes p.k.1) :
  Calls Tryz.prog 9 #[.slice A n c] w fun e w' => e = .returned (.bool true) ∧ Below w.heap.size w w' := by
 have HRW := Lib.hid hr
 have HLT := Lib.hid hl
 have HLN : Hid (ps.length = n) := hr.len
 clear hr hl
 go_enter Tryz.func9, Tryz.ntmps9
 go_wp2_with fail
 refine (awake_any w).mono ?_
 rintro e v1 ⟨rfl, hb9⟩
 have HRW := Lib.hid (HRW.out.later hb9)
 have HB1 := Lib.hid hb9
 clear hb9
 by_cases hn8 : n ≤ 8
 ·have f8 : decide ((8 : Int) < (n : Int)) = false := decide_eq_false (by omega)
  obtain ⟨gw, hgw⟩ : ∃ g, g = v1.heap.size := ⟨_, rfl⟩
  obtain ⟨v2, hv2⟩ : ∃ W, W = v1.alloc (.cells #[.slice none 0 0, .slice none 0 0, .slice none 0 0] 29) := ⟨_, rfl⟩
  have hb9 : Below v1.heap.size v1 v2 := by rw [hv2]; exact Dt.box_below _ _ _
  have hvw : v1.heap.size ≤ gw := by omega
  have HKw : Hid (Kept [(⟨gw, 0, none⟩, .slice none 0 0), (⟨gw, 1, none⟩, .slice none 0 0), (⟨gw, 2, none⟩, .slice none 0 0)] w v2) := (((Kept.nil_of (HB1.out.trans (hb9.mono HB1.out.size))).cons_of (by rw [hv2, hgw]; go_simp)).cons_of (by rw [hv2, hgw]; go_simp)).cons_of (by rw [hv2, hgw]; go_simp)
  have HFw : Hid (Free gw v2) := ⟨by rw [hv2, hgw]; simp, fun j => by rw [hv2, hgw]; go_simp⟩
  have HBV := Lib.hid hb9
  have Hgw := Lib.hid hgw
  have Hv2 := Lib.hid hv2
  clear hb9 hgw hv2
  go_wp2_with fail
  rw [← Hgw.out, ← Hv2.out]
  go_loopw [4, 5, 21] (fun s4 s5 i wr => ∃ (k : Nat) (Ab : Option Addr) (cb : Nat) (bad : Bool), k ≤ n ∧ s4 = .slice Ab k cb ∧ s5 = .bool bad ∧ i = .int .i64 k ∧ Hid (InvA ps gw v1 w k Ab cb bad wr)) (fun _ _ i _ => n - (intOf i).toNat)
  case atStart => exact ⟨0, none, 0, false, by omega, rfl, rfl, rfl, 0, noneK, none, none, none, 0, 0, 0, 0, 0, 0, by omega, ⟨World.ownsRow_nil _ _ _ _, by simp⟩, rfl, fun _ => rfl, ⟨AllJ.nil, by show nodes none_ ≤ _; rw [nodes_none]; omega, Nat.zero_le _⟩, ⟨RdO.none _ _ _ _ _ _, rfl, RO.nil _ _ _ _ _⟩, HKw.out, HFw.out, fun j _ h => absurd h (by omega), HBV.out⟩
  case round =>
   clear HKw HFw HBV
   obtain ⟨k, Ab, cb, bad, hk, rfl, rfl, rfl, hinv⟩ := hrel
   obtain ⟨m, kw, We, Wk, Wc, we1, we2, wk1, wk2, wc1, wc2, hmk, HOB, HBD, HMK, HAL, HNC, HKw, HFw, HSZ, HBV⟩ := hinv.out
   clear hinv
   by_cases hlt : k < n
   ·have hkl : k < ps.length := by rw [HLN.out]; exact hlt
    have hql : n - 1 - k < ps.length := by rw [HLN.out]; omega
    obtain ⟨b, o, hAe, hb, hc⟩ := HRW.out.at_ (by omega)
    obtain ⟨x0, x1, x2⟩ := hc k hkl
    obtain ⟨y0, y1, y2⟩ := hc (n - 1 - k) hql
    have hrp := HRW.out.each _ (List.getElem_mem hkl)
    have hrq := HRW.out.each _ (List.getElem_mem hql)
    have hlp := HLT.out _ (List.getElem_mem hkl)
    obtain ⟨p, hp⟩ : ∃ p, p = ps[k] := ⟨_, rfl⟩
    obtain ⟨q, hq⟩ : ∃ q, q = ps[n - 1 - k] := ⟨_, rfl⟩
    rw [← hp] at x0 x1 x2 hrp hlp
    rw [← hq] at y0 y1 y2 hrq
    have HQ9 : Hid (ps.reverse.take (k + 1) = ps.reverse.take k ++ [q]) := by
     unfold Hid
     rw [List.take_succ_eq_append_getElem (by rw [List.length_reverse]; exact hkl), List.getElem_reverse]
     congr 2
     rw [hq]
     congr 1
     have := HLN.out
     omega
    obtain ⟨⟨t, cs⟩, ⟨Ae, ne, ce⟩, ⟨Ak, nk, ck⟩, ⟨Ca, na, ca9⟩⟩ := p
    obtain ⟨kq, ⟨Fe, fe1, fe2⟩, ⟨Fk, fk1, fk2⟩, ⟨Fc, fc1, fc2⟩⟩ := q
    dsimp only at x0 x1 x2 y0 y1 y2
    subst hAe
    have HP := Lib.hid hp
    have HPR := Lib.hid hrp
    have HLP := Lib.hid hlp
    have HE1 : Hid (Kept [(⟨b, o + k * 3, none⟩, .slice Ae ne ce), (⟨b, o + k * 3 + 1, none⟩, .slice Ak nk ck), (⟨b, o + k * 3 + 2, none⟩, .slice Ca na ca9)] v1 v1) := (((Kept.nil v1).cons_of x2).cons_of x1).cons_of x0
    have HR1 : Hid (Kept [(⟨b, o + (n - 1 - k) * 3, none⟩, .slice Fe fe1 fe2), (⟨b, o + (n - 1 - k) * 3 + 1, none⟩, .slice Fk fk1 fk2), (⟨b, o + (n - 1 - k) * 3 + 2, none⟩, .slice Fc fc1 fc2)] v1 v1) := (((Kept.nil v1).cons_of y2).cons_of y1).cons_of y0
    have hw1 : IntKind.i64.wrap ((n : Int) - 1) = (n : Int) - 1 := by rw [IntKind.wrap_i64]; omega
    have hw2 : IntKind.i64.wrap ((n : Int) - 1 - (k : Int)) = ((n - 1 - k : Nat) : Int) := by rw [IntKind.wrap_i64]; omega
    clear hc hp hq hrp hrq hlp x0 x1 x2 y0 y1 y2
    have x0 := (HE1.out.later HBV.out).c0
    have x1 := (HE1.out.later HBV.out).c1
    have x2 := (HE1.out.later HBV.out).c2
    obtain ⟨g3, hg3⟩ : ∃ g, g = wr.heap.size := ⟨_, rfl⟩
    obtain ⟨v3, hv3⟩ : ∃ W, W = wr.alloc (.cells #[.slice Ae ne ce, .slice Ak nk ck, .slice Ca na ca9] 29) := ⟨_, rfl⟩
    have hb9 : Below wr.heap.size wr v3 := by rw [hv3]; exact Dt.box_below _ _ _
    have HCP : Hid (CellsP v3 g3 [⟨(t, cs), ⟨Ae, ne, ce⟩, ⟨Ak, nk, ck⟩, ⟨Ca, na, ca9⟩⟩]) := by
     intro k hk
     simp at hk
     obtain rfl : k = 0 := by omega
     refine ⟨?_, ?_, ?_⟩ <;> (rw [hv3, hg3]; go_simp)
    have Hg3 := Lib.hid hg3
    have Hv3 := Lib.hid hv3
    clear hg3 hv3
    have HKw := Lib.hid (HKw.out.later hb9)
    have HFw := Lib.hid (HFw.out.later hb9)
    have HOB := Lib.hid (own_later HOB.out hb9)
    have HNC := Lib.hid (HNC.out.later hb9)
    have HBV := Lib.hid (HBV.out.trans (hb9.mono HBV.out.size))
    clear hb9
    have HPS : Hid (∀ p ∈ ([⟨(t, cs), ⟨Ae, ne, ce⟩, ⟨Ak, nk, ck⟩, ⟨Ca, na, ca9⟩⟩] : List CP), RdP v3 p) := by
     intro p hp
     simp at hp
     subst hp
     exact HPR.out.later HBV.out
    have HSM := Lib.hid (small_any9 [⟨(t, cs), ⟨Ae, ne, ce⟩, ⟨Ak, nk, ck⟩, ⟨Ca, na, ca9⟩⟩] 1 g3 1 v3 rfl (by omega) HCP.out HPS.out (fun p hp => by simp at hp; subst hp; exact HLP.out))
    clear HCP HPS
    go_wp2_with fail
    rw [← Hg3.out, ← Hv3.out]
    refine HSM.out.mono ?_
    rintro e v4 ⟨sb, rfl, hsm, hb9⟩
    have HKw := Lib.hid (HKw.out.later hb9)
    have HFw := Lib.hid (HFw.out.later hb9)
    have HOB := Lib.hid (own_later HOB.out hb9)
    have HNC := Lib.hid (HNC.out.later hb9)
    have HBV := Lib.hid (HBV.out.trans (hb9.mono HBV.out.size))
    clear hb9 x0 x1 x2 HSM
    cases sb with
    | false =>
     clear hsm
     go_wp2_with fail
     go_ret
     exact ⟨rfl, HKw.out.below⟩
    | true =>
     have HQS := Lib.hid (hsm rfl _ (List.mem_singleton.2 rfl))
     clear hsm
     have hq40 : nodes t ≤ 40 := HQS.out.1
     have hn40 : na ≤ 40 := HQS.out.2
     have HSM2 : Hid (∀ (j : Nat) (h : j < ps.length), j < k + 1 → nodes ps[j].k.1 ≤ 40 ∧ ps[j].c.n ≤ 40) := fun j hj hl => by
      by_cases e : j < k
      ·exact HSZ.out j hj e
      ·obtain rfl : j = k := by omega
       rw [← HP.out]
       exact HQS.out
     have y0 := (HR1.out.later HBV.out).c0
     have y1 := (HR1.out.later HBV.out).c1
     have y2 := (HR1.out.later HBV.out).c2
     obtain ⟨Ab6, cb6, w6, h1, h2, h3, h4, h5⟩ := push_cau HOB.out (by have := HFw.out.1; omega) ⟨kq, ⟨Fe, fe1, fe2⟩, ⟨Fk, fk1, fk2⟩, ⟨Fc, fc1, fc2⟩⟩ (by omega)
     dsimp only at h1
     have Hrun := Lib.hid h1
     have HOB6 : Hid (Own w6 (gw + 1) 29 3 Ab6 (k + 1) cb6 ((ps.reverse.take (k + 1)).flatMap cpV)) := by
      unfold Hid
      rw [HQ9.out]
      exact h2
     have HNC6 : Hid (NoC w6 (fun b => b ≠ gw ∧ (Value.slice Ab6 (k + 1) cb6).ownBlock ≠ some b) ⟨kw, ⟨We, we1, we2⟩, ⟨Wk, wk1, wk2⟩, ⟨Wc, wc1, wc2⟩⟩) := (((HNC.out.mono (ok' := fun b => (b ≠ gw ∧ (Value.slice Ab k cb).ownBlock ≠ some b) ∧ (Value.slice Ab6 (k + 1) cb6).ownBlock ≠ some b) (fun b hb hlt => ⟨hb, (h5 b hlt hb.2).2⟩)).keep h4 (fun b hb hlt => (h5 b hlt hb.1.2).1))).mono (fun b hb _ => ⟨hb.1.1, hb.2⟩)
     have HKw6 : Hid (Kept [(⟨gw, 0, none⟩, .slice We we1 we2), (⟨gw, 1, none⟩, .slice Wk wk1 wk2), (⟨gw, 2, none⟩, .slice Wc wc1 wc2)] w w6) := kept_low HKw.out h3 (fun x hx => by simp at hx; rcases hx with rfl | rfl | rfl <;> (dsimp only; omega)) (by have := HB1.out.size; omega) h4
     have HFw6 : Hid (Free gw w6) := ⟨Nat.lt_of_lt_of_le HFw.out.1 h4, fun j => (h3.frozen (p := ⟨gw, j, none⟩) (Nat.lt_succ_self gw)).trans (HFw.out.2 j)⟩
     have HBV6 : Hid (Below v1.heap.size v1 w6) := HBV.out.trans (h3.mono (by omega))
     clear h1 h2 h3 h4 h5
     clear HOB HNC HKw HFw HBV
     have HOB := HOB6
     have HNC := HNC6
     have HKw := HKw6
     have HFw := HFw6
     have HBV := HBV6
     clear HOB6 HNC6 HKw6 HFw6 HBV6
     have x0 := (HE1.out.later HBV.out).c0
     have x1 := (HE1.out.later HBV.out).c1
     have x2 := (HE1.out.later HBV.out).c2
     have HTK : Hid ((ps.take (k + 1)).all (fun p => rightKB p.k) = ((ps.take k).all (fun p => rightKB p.k) && rightKB (t, cs))) := by
      unfold Hid
      rw [List.take_succ_eq_append_getElem hkl, List.all_append, ← HP.out]
      simp
     cases bad with
     | true =>
      have HBD2 : Hid (true = !((ps.take (k + 1)).all fun p => rightKB p.k)) := by
       unfold Hid
       have h := HBD.out
       rw [HTK.out]
       cases h2 : (ps.take k).all (fun p => rightKB p.k) with
       | false => rfl
       | true => rw [h2] at h; cases h
      have HM2 : Hid (true = false → m = k + 1) := fun h => by cases h
      go_wp2_with (at_builtin; refine Lib.wpList_append_run _ rfl _ _ _ _ rfl _ _ rfl rfl _ _ Hrun.out ?_)
      go_roundw
      case rel => exact ⟨k + 1, Ab6, cb6, true, by omega, rfl, rfl, by go_num, m, kw, We, Wk, Wc, we1, we2, wk1, wk2, wc1, wc2, by omega, HOB.out, HBD2.out, HM2.out, HAL.out, HNC.out, HKw.out, HFw.out, HSM2.out, HBV.out⟩
      case measure => simp [intOf]; omega
     | false =>
      obtain rfl : m = k := HMK.out rfl
      have hak : (ps.take m).all (fun p => rightKB p.k) = true := by
       have h := HBD.out
       cases h2 : (ps.take m).all (fun p => rightKB p.k) with
       | true => rfl
       | false => rw [h2] at h; cases h
      obtain ⟨y, hy⟩ : ∃ y, rightKB (t, cs) = y := ⟨_, rfl⟩
      have HBD2 : Hid ((!y) = !((ps.take (m + 1)).all fun p => rightKB p.k)) := by
       unfold Hid
       rw [HTK.out, hak, hy]
       cases y <;> rfl
      have HY := Lib.hid hy
      clear hak
      obtain ⟨g7, hg7⟩ : ∃ g, g = w6.heap.size := ⟨_, rfl⟩
      obtain ⟨v7, hv7⟩ : ∃ W, W = w6.alloc (.cells #[.slice Ae ne ce, .slice Ak nk ck, .slice Ca na ca9] 29) := ⟨_, rfl⟩
      have hb9 : Below w6.heap.size w6 v7 := by rw [hv7]; exact Dt.box_below _ _ _
      have HCP : Hid (CellsP v7 g7 [⟨(t, cs), ⟨Ae, ne, ce⟩, ⟨Ak, nk, ck⟩, ⟨Ca, na, ca9⟩⟩]) := by
       intro k hk
       simp at hk
       obtain rfl : k = 0 := by omega
       refine ⟨?_, ?_, ?_⟩ <;> (rw [hv7, hg7]; go_simp)
      have Hg7 := Lib.hid hg7
      have Hv7 := Lib.hid hv7
      clear hg7 hv7
      have HKw := Lib.hid (HKw.out.later hb9)
      have HFw := Lib.hid (HFw.out.later hb9)
      have HOB := Lib.hid (own_later HOB.out hb9)
      have HNC := Lib.hid (HNC.out.later hb9)
      have HBV := Lib.hid (HBV.out.trans (hb9.mono HBV.out.size))
      clear hb9
      have HPS : Hid (∀ p ∈ ([⟨(t, cs), ⟨Ae, ne, ce⟩, ⟨Ak, nk, ck⟩, ⟨Ca, na, ca9⟩⟩] : List CP), RdP v7 p) := by
       intro p hp
       simp at hp
       subst hp
       exact HPR.out.later HBV.out
      have HRT := Lib.hid (right_any9 [⟨(t, cs), ⟨Ae, ne, ce⟩, ⟨Ak, nk, ck⟩, ⟨Ca, na, ca9⟩⟩] 1 g7 1 v7 rfl (by omega) HCP.out HPS.out (fun p hp => by simp at hp; subst hp; exact ⟨by show nodes t ≤ 200; omega, by show na ≤ 1000; omega⟩) y (by rw [← hy]; simp))
      clear HCP HPS hy
      go_wp2_with (at_builtin; refine Lib.wpList_append_run _ rfl _ _ _ _ rfl _ _ rfl rfl _ _ Hrun.out ?_)
      rw [← Hg7.out, ← Hv7.out]
      refine HRT.out.mono ?_
      rintro e v8 ⟨rfl, hb9⟩
      have HKw := Lib.hid (HKw.out.later hb9)
      have HFw := Lib.hid (HFw.out.later hb9)
      have HOB := Lib.hid (own_later HOB.out hb9)
      have HNC := Lib.hid (HNC.out.later hb9)
      have HBV := Lib.hid (HBV.out.trans (hb9.mono HBV.out.size))
      clear hb9 HRT x0 x1 x2 y0 y1 y2
      cases y with
      | false =>
       have HM2 : Hid (true = false → m = m + 1) := fun h => by cases h
       go_wp2_with fail
       go_roundw
       case rel => exact ⟨m + 1, Ab6, cb6, true, by omega, rfl, rfl, by go_num, m, kw, We, Wk, Wc, we1, we2, wk1, wk2, wc1, wc2, by omega, HOB.out, HBD2.out, HM2.out, HAL.out, HNC.out, HKw.out, HFw.out, HSM2.out, HBV.out⟩
       case measure => simp [intOf]; omega
      | true =>
       have HKP := Lib.hid (rightKB_iff.1 HY.out)
       obtain ⟨ku, hJu, hLu⟩ : ∃ x : K, IsJ kw (t, cs) x ∧ x.2.length ≤ kw.2.length + cs.length := by
        have hpr := HPR.out.later HBV.out
        have hnr := HNC.out.rd
        have h1 := HAL.out.2.2
        have h2 := hnr.len
        have h3 := hpr.len
        dsimp only at h2 h3
        obtain ⟨e, w', xs, q, A', c', _, g1, g2, g3, _⟩ := Cs.Calls.some (unionC_any kw.2 cs wc1 na Wc Ca wc2 ca9 v8 h2 h3 (by omega) (by omega) hnr.ctx hpr.ctx HAL.out.1.right.ctx HKP.out.ctx)
        exact ⟨(joinT 5 kw.2 cs kw.1 t, xs), ⟨rfl, g2.out⟩, by have h4 := g1.out; show xs.length ≤ _; omega⟩
       have HJU := Lib.hid (And.intro hJu hLu)
       clear hJu hLu
       go_wp2_with fail
       refine wp_region_held_drew (S := fun W => W.cell? ⟨b, o + m * 3, none⟩ = some (.slice Ae ne ce) ∧ W.cell? ⟨b, o + m * 3 + 1, none⟩ = some (.slice Ak nk ck) ∧ W.cell? ⟨b, o + m * 3 + 2, none⟩ = some (.slice Ca na ca9)) (by kernel_rfl) (by have h9 := HE1.out.later HBV.out.drew; exact ⟨h9.c0, h9.c1, h9.c2⟩) (fun hHeld => ?_)
       obtain ⟨v9, hv9⟩ : ∃ v, v = v8.drew := ⟨_, rfl⟩
       have hb9 : Below v8.heap.size v8 v9 := by rw [hv9]; exact (Below.refl _ _).drew
       have HKw := Lib.hid (HKw.out.later hb9)
       have HFw := Lib.hid (HFw.out.later hb9)
       have HOB := Lib.hid (own_later HOB.out hb9)
       have HNC := Lib.hid (HNC.out.later hb9)
       have HBV := Lib.hid (HBV.out.trans (hb9.mono HBV.out.size))
       rw [← hv9] at hHeld ⊢
       have z0 := HKw.out.c0
       have z1 := HKw.out.c1
       have z2 := HKw.out.c2
       clear hv9 hb9
       refine Tk 1 55 ?_
       refine Tk 2 56 ?_
       refine Tk 3 57 ?_
       refine Tk 4 58 ?_
       refine wpAnyH_ready (rs := [0]) (by kernel_rfl) (by simp) ?_
       refine AllReadyH.cons (o := ⟨some 54, _, _, _, _, _⟩) rfl (fun K hK => ?_) AllReadyH.nil
       go_simp
       refine hK.out _ _ ?_ (fun hHeld2 => ?_)
       ·exact hHeld
       clear hK K hHeld
       have hHeld := hHeld2
       clear hHeld2
       try simp only [Act.put, List.setIfInBounds_toArray, List.set_cons_zero, List.set_cons_succ]
       refine wpAnyH_ready (rs := [5]) (by kernel_rfl) (by simp) ?_
       refine AllReadyH.cons (o := ⟨some 59, _, _, _, _, _⟩) rfl (fun K hK => ?_) AllReadyH.nil
       go_simp
       (go_at_call 20; refine (refjoinK_own kw.1 t kw.2 cs ku.2 We Wk Wc Ae Ak Ca we1 wk1 we2 wk2 wc1 wc2 ne nk ce ck na ca9 _ v9 (by have h1 := HAL.out.2.1; omega) HNC.out.rd.len (by have h1 := HAL.out.2.2; have h2 := HNC.out.rd.len; dsimp only at h2; omega) HNC.out.rd.tree HNC.out.rd.ctx (by omega) HPR.out.len (by omega) (HPR.out.later HBV.out).tree (HPR.out.later HBV.out).ctx HAL.out.1.right HKP.out HJU.out.1.ctx rfl (by have h1 := HJU.out.2; have h2 := HAL.out.2.2; have h3 := HPR.out.len; dsimp only at h3; omega)).mono ?_)
       rintro e v10 ⟨Xe, xe1, xe2, Xk, xk1, xk2, Xc, xc1, xc2, rfl, how, hb9⟩
       have HNX : Hid (NoC v10 (fun b => b ≠ gw ∧ (Value.slice Ab6 (m + 1) cb6).ownBlock ≠ some b) ⟨ku, ⟨Xe, xe1, xe2⟩, ⟨Xk, xk1, xk2⟩, ⟨Xc, xc1, xc2⟩⟩) := by
        have h := NoC.of_own how (ok := fun b => b ≠ gw ∧ (Value.slice Ab6 (m + 1) cb6).ownBlock ≠ some b) (fun b hb _ => ⟨by have := HFw.out.1; omega, fun e => by have := (HOB.out.row.lt b e).2; omega⟩)
        rw [← HJU.out.1.tree] at h
        exact h
       have HKw := Lib.hid (HKw.out.later hb9)
       have HFw := Lib.hid (HFw.out.later hb9)
       have HOB := Lib.hid (own_later HOB.out hb9)
       have HNC := Lib.hid (HNC.out.later hb9)
       have HBV := Lib.hid (HBV.out.trans (hb9.mono HBV.out.size))
       clear hb9 how
       have z0 := HKw.out.c0
       have z1 := HKw.out.c1
       have z2 := HKw.out.c2
       have m0 := HFw.out.2 0
       have m1 := HFw.out.2 1
       have m2 := HFw.out.2 2
       refine hK.out _ _ ?_ (fun hHeld2 => ?_)
       ·have h9 := HE1.out.later HBV.out; exact ⟨h9.c0, h9.c1, h9.c2⟩
       clear hK K hHeld
       have hHeld := hHeld2
       clear hHeld2
       try simp only [Act.put, List.setIfInBounds_toArray, List.set_cons_zero, List.set_cons_succ]
       refine wpAnyH_ready (rs := [6]) (by kernel_rfl) (by simp) ?_
       refine AllReadyH.cons (o := ⟨none, _, _, _, _, _⟩) rfl (fun K hK => ?_) AllReadyH.nil
       go_simp
       refine hK.out _ _ ?_ (fun hHeld2 => ?_)
       ·(try dsimp only)
        have h9 := ((((HE1.out.later HBV.out).set (a := ⟨gw, 0, none⟩) hvw (fun x hx => by simp at hx; rcases hx with rfl | rfl | rfl <;> (dsimp only; omega)) (.slice Xe xe1 xe2)).set (a := ⟨gw, 1, none⟩) hvw (fun x hx => by simp at hx; rcases hx with rfl | rfl | rfl <;> (dsimp only; omega)) (.slice Xk xk1 xk2)).set (a := ⟨gw, 2, none⟩) hvw (fun x hx => by simp at hx; rcases hx with rfl | rfl | rfl <;> (dsimp only; omega)) (.slice Xc xc1 xc2))
        exact ⟨h9.c0, h9.c1, h9.c2⟩
       clear hK K hHeld
       have hHeld := hHeld2
       clear hHeld2
       try simp only [Act.put, List.setIfInBounds_toArray, List.set_cons_zero, List.set_cons_succ]
       refine wpAnyH_done (by kernel_rfl) ?_ _
       clear hHeld
       obtain ⟨W9, hW9⟩ : ∃ W, W = ((v10.setCell ⟨gw, 0, none⟩ (.slice Xe xe1 xe2)).setCell ⟨gw, 1, none⟩ (.slice Xk xk1 xk2)).setCell ⟨gw, 2, none⟩ (.slice Xc xc1 xc2) := ⟨_, rfl⟩
       have hk9 : ∀ b, b ≠ gw → W9.heap[b]? = v10.heap[b]? := fun b hb => by
        rw [hW9]
        exact ((Below.heap_setCell _ ⟨gw, 2, none⟩ _ b (fun e => hb e)).trans (Below.heap_setCell _ ⟨gw, 1, none⟩ _ b (fun e => hb e))).trans (Below.heap_setCell _ ⟨gw, 0, none⟩ _ b (fun e => hb e))
       have hs9 : v10.heap.size ≤ W9.heap.size := by rw [hW9]; simp [World.setCell]
       have HB9 : Hid (Below v1.heap.size v1 W9) := by
        unfold Hid
        rw [hW9]
        exact ((HBV.out.setCell (p := ⟨gw, 0, none⟩) hvw _).setCell (p := ⟨gw, 1, none⟩) hvw _).setCell (p := ⟨gw, 2, none⟩) hvw _
       have HKX : Hid (Kept [(⟨gw, 0, none⟩, .slice Xe xe1 xe2), (⟨gw, 1, none⟩, .slice Xk xk1 xk2), (⟨gw, 2, none⟩, .slice Xc xc1 xc2)] w W9) := (((Kept.nil_of (HB1.out.trans (HB9.out.mono HB1.out.size))).cons_of (by rw [hW9]; go_simp)).cons_of (by rw [hW9]; go_simp)).cons_of (by rw [hW9]; go_simp)
       have HNX9 := Lib.hid (HNX.out.keep hs9 (fun b hb _ => hk9 b hb.1))
       have HFX : Hid (Free gw W9) := ⟨Nat.lt_of_lt_of_le HFw.out.1 hs9, fun j => by rw [hW9, World.frozen?_setCell, World.frozen?_setCell, World.frozen?_setCell]; exact HFw.out.2 j⟩
       have HOX : Hid (Own W9 (gw + 1) 29 3 Ab6 (m + 1) cb6 ((ps.reverse.take (m + 1)).flatMap cpV)) := by
        unfold Hid
        rw [hW9]
        exact ((HOB.out.set_below (a := ⟨gw, 0, none⟩) (Nat.lt_succ_self gw) _).set_below (a := ⟨gw, 1, none⟩) (Nat.lt_succ_self gw) _).set_below (a := ⟨gw, 2, none⟩) (Nat.lt_succ_self gw) _
       have HALX : Hid (AllJ ((ps.take (m + 1)).map CP.k) ku ∧ nodes ku.1 ≤ 40 * (m + 1) ∧ ku.2.length ≤ 40 * (m + 1)) := by
        have h1 := HAL.out
        have h2 := joinT_nodes 5 kw.2 cs kw.1 t
        have h3 := HPR.out.len
        have h4 := HJU.out.2
        dsimp only at h3
        refine ⟨?_, ?_, by omega⟩
        ·rw [List.take_succ_eq_append_getElem hkl, List.map_append, ← HP.out]
         exact h1.1.snoc HKP.out HJU.out.1
        ·rw [HJU.out.1.tree]
         show nodes (joinT 5 kw.2 cs kw.1 t) ≤ _
         omega
       have HM2 : Hid (false = false → m + 1 = m + 1) := fun _ => rfl
       clear z0 z1 z2 m0 m1 m2 hk9 hs9
       rw [← hW9]
       clear hW9
       go_wp2_with fail
       go_roundw
       case rel => exact ⟨m + 1, Ab6, cb6, false, by omega, rfl, rfl, by go_num, m + 1, ku, Xe, Xk, Xc, xe1, xe2, xk1, xk2, xc1, xc2, by omega, HOX.out, HBD2.out, HM2.out, HALX.out, HNX9.out, HKX.out, HFX.out, HSM2.out, HB9.out⟩
       case measure => simp [intOf]; omega
   ·obtain rfl : k = n := by omega
    have hall9 : ∀ p ∈ ps, nodes p.k.1 ≤ 40 ∧ p.c.n ≤ 40 := fun p hp => by
     obtain ⟨j, hj, rfl⟩ := List.getElem_of_mem hp
     exact HSZ.out j hj (by rw [← HLN.out]; exact hj)
    have HS9 := Lib.hid hall9
    have htk : ps.take k = ps := List.take_of_length_le (by rw [HLN.out]; exact Nat.le_refl _)
    have htr : ps.reverse.take k = ps.reverse := List.take_of_length_le (by rw [List.length_reverse, HLN.out]; exact Nat.le_refl _)
    rw [htk] at HBD
    rw [htr] at HOB
    have HTK := Lib.hid htk
    clear hall9 htk htr
    have HJ1 := Lib.hid (joinAllE_any k ps A c wr (by omega) (HRW.out.later HBV.out) HS9.out)
    go_wp2_with fail
    refine HJ1.out.mono ?_
    rintro e v3 ⟨kx, zx, hx1, hx2, Xe, xe1, xe2, Xk, xk1, xk2, Xc, xc1, xc2, rfl, how, hb9⟩
    have HX1 := Lib.hid (And.intro hx1 hx2)
    have Rx := Lib.hid (RdP.of_own how)
    have HROW : Hid (RowP wr Ab k cb ps.reverse) := ⟨HOB.out.rd, by rw [List.length_reverse, HLN.out], fun p hp => (HRW.out.later HBV.out).each p (List.mem_reverse.1 hp)⟩
    have HROW := Lib.hid (HROW.out.later hb9)
    have HKw := Lib.hid (HKw.out.later hb9)
    have HFw := Lib.hid (HFw.out.later hb9)
    have HOB := Lib.hid (own_later HOB.out hb9)
    have HNC := Lib.hid (HNC.out.later hb9)
    have HBV := Lib.hid (HBV.out.trans (hb9.mono HBV.out.size))
    clear hx1 hx2 how HJ1 hb9
    obtain ⟨gx, hgx⟩ : ∃ g, g = v3.heap.size := ⟨_, rfl⟩
    obtain ⟨v4, hv4⟩ : ∃ W, W = v3.alloc (.cells #[.slice Xe xe1 xe2, .slice Xk xk1 xk2, .slice Xc xc1 xc2] 29) := ⟨_, rfl⟩
    have hb9 : Below v3.heap.size v3 v4 := by rw [hv4]; exact Dt.box_below _ _ _
    have e0 : v4.cell? ⟨gx, 0, none⟩ = some (.slice Xe xe1 xe2) := by rw [hv4, hgx]; go_simp
    have e1 : v4.cell? ⟨gx, 1, none⟩ = some (.slice Xk xk1 xk2) := by rw [hv4, hgx]; go_simp
    have e2 : v4.cell? ⟨gx, 2, none⟩ = some (.slice Xc xc1 xc2) := by rw [hv4, hgx]; go_simp
    have Rx := Lib.hid (Rx.out.later hb9)
    have HROW := Lib.hid (HROW.out.later hb9)
    have HKw := Lib.hid (HKw.out.later hb9)
    have HFw := Lib.hid (HFw.out.later hb9)
    have HOB := Lib.hid (own_later HOB.out hb9)
    have HNC := Lib.hid (HNC.out.later hb9)
    have HBV := Lib.hid (HBV.out.trans (hb9.mono HBV.out.size))
    have HKc := Lib.hid (((HKw.out.cons_of e2).cons_of e1).cons_of e0)
    have Hgx := Lib.hid hgx
    have Hv4 := Lib.hid hv4
    clear hgx hv4 hb9 e0 e1 e2
    have HJ2 := Lib.hid (joinAllE_any k ps.reverse Ab cb v4 (by omega) HROW.out (fun p hp => HS9.out p (List.mem_reverse.1 hp)))
    go_wp2_with fail
    rw [← Hgx.out, ← Hv4.out]
    refine HJ2.out.mono ?_
    rintro e v5 ⟨ky, zy, hy1, hy2, Ye, ye1, ye2, Yk, yk1, yk2, Yc, yc1, yc2, rfl, how, hb9⟩
    have HY1 := Lib.hid (And.intro hy1 hy2)
    have Ry := Lib.hid (RdP.of_own how)
    have Rx := Lib.hid (Rx.out.later hb9)
    have HNC := Lib.hid (HNC.out.later hb9)
    have HKc := Lib.hid (HKc.out.later hb9)
    clear hy1 hy2 how HJ2 hb9
    obtain ⟨gy, hgy⟩ : ∃ g, g = v5.heap.size := ⟨_, rfl⟩
    obtain ⟨v6, hv6⟩ : ∃ W, W = v5.alloc (.cells #[.slice Ye ye1 ye2, .slice Yk yk1 yk2, .slice Yc yc1 yc2] 29) := ⟨_, rfl⟩
    have hb9 : Below v5.heap.size v5 v6 := by rw [hv6]; exact Dt.box_below _ _ _
    have e0 : v6.cell? ⟨gy, 0, none⟩ = some (.slice Ye ye1 ye2) := by rw [hv6, hgy]; go_simp
    have e1 : v6.cell? ⟨gy, 1, none⟩ = some (.slice Yk yk1 yk2) := by rw [hv6, hgy]; go_simp
    have e2 : v6.cell? ⟨gy, 2, none⟩ = some (.slice Yc yc1 yc2) := by rw [hv6, hgy]; go_simp
    have Rx := Lib.hid (Rx.out.later hb9)
    have Ry := Lib.hid (Ry.out.later hb9)
    have HNC := Lib.hid (HNC.out.later hb9)
    have HKc := Lib.hid (((((HKc.out.later hb9).cons_of e2).cons_of e1).cons_of e0))
    have Hgy := Lib.hid hgy
    have Hv6 := Lib.hid hv6
    clear hgy hv6 hb9 e0 e1 e2
    have c0 := HKc.out.c0
    have c1 := HKc.out.c1
    have c2 := HKc.out.c2
    have c3 := HKc.out.c3
    have c4 := HKc.out.c4
    have c5 := HKc.out.c5
    have c6 := HKc.out.c6
    have c7 := HKc.out.c7
    have c8 := HKc.out.tail.tail.tail.tail.tail.tail.tail.tail.c0
    rw [Hv6.out] at c0 c1 c2 c3 c4 c5 c6 c7 c8
    rw [Hgy.out] at c0 c1 c2
    cases bad with
    | true =>
     have hno : ¬ ∀ p ∈ ps, RK p.k := fun h => by
      have h1 := HBD.out
      rw [show ps.all (fun p => rightKB p.k) = true from List.all_eq_true.2 fun p hp => rightKB_iff.2 (h p hp)] at h1
      cases h1
     obtain ⟨rfl, rfl⟩ := HX1.out.2 hno
     obtain ⟨rfl, rfl⟩ := HY1.out.2 fun h => hno fun p hp => h p (List.mem_reverse.2 hp)
     clear hno
     have HS1 := Lib.hid (refsameK_any noneK.1 none_ noneK.2 [] Xe Xk Xc none none none xe1 xk1 xe2 xk2 xc1 xc2 0 0 0 0 0 0 v6 true (decide_eq_true rfl) (by show nodes none_ ≤ _; rw [nodes_none]; omega) Rx.out.len (by have h := Rx.out.len; have h2 : noneK.2.length = 0 := rfl; dsimp only at h; omega) Rx.out.tree Rx.out.ctx rfl (RdP.zero _).tree (RdP.zero _).ctx)
     go_wp2_with fail
     rw [← Hgy.out, ← Hv6.out]
     refine HS1.out.mono ?_
     rintro e v7 ⟨rfl, hb9⟩
     have Ry := Lib.hid (Ry.out.later hb9)
     have HNC := Lib.hid (HNC.out.later hb9)
     have HKc := Lib.hid (HKc.out.later hb9)
     clear hb9 c0 c1 c2 c3 c4 c5 c6 c7 c8 HS1
     have c0 := HKc.out.c0
     have c1 := HKc.out.c1
     have c2 := HKc.out.c2
     have c3 := HKc.out.c3
     have c4 := HKc.out.c4
     have c5 := HKc.out.c5
     have c6 := HKc.out.c6
     have c7 := HKc.out.c7
     have c8 := HKc.out.tail.tail.tail.tail.tail.tail.tail.tail.c0
     have HS2 := Lib.hid (refsameK_any noneK.1 none_ noneK.2 [] Ye Yk Yc none none none ye1 yk1 ye2 yk2 yc1 yc2 0 0 0 0 0 0 v7 true (decide_eq_true rfl) (by show nodes none_ ≤ _; rw [nodes_none]; omega) Ry.out.len (by have h := Ry.out.len; have h2 : noneK.2.length = 0 := rfl; dsimp only at h; omega) Ry.out.tree Ry.out.ctx rfl (RdP.zero _).tree (RdP.zero _).ctx)
     go_wp2_with fail
     refine HS2.out.mono ?_
     rintro e v8 ⟨rfl, hb9⟩
     have HKc := Lib.hid (HKc.out.later hb9)
     clear hb9 c0 c1 c2 c3 c4 c5 c6 c7 c8
     go_wp2_with fail
     go_ret
     exact ⟨by first | rfl | simp, HKc.out.below⟩
    | false =>
     have hall : ∀ p ∈ ps, RK p.k := fun p hp => by
      have h1 := HBD.out
      have h2 : ps.all (fun p => rightKB p.k) = true := by
       cases h3 : ps.all (fun p => rightKB p.k) with
       | true => rfl
       | false => rw [h3] at h1; cases h1
      exact rightKB_iff.1 (List.all_eq_true.1 h2 p hp)
     obtain rfl : m = k := HMK.out rfl
     rw [HTK.out] at HAL
     obtain ⟨rfl, hjx, hnx, hlx⟩ := HX1.out.1 hall
     obtain ⟨rfl, hjy, hny, hly⟩ := HY1.out.1 fun p hp => hall p (List.mem_reverse.1 hp)
     obtain rfl : kx = kw := hjx.eq HAL.out.1
     obtain rfl : ky = kx := by
      have h := HAL.out.1.reverse
      rw [← List.map_reverse] at h
      exact hjy.eq h
     have HNL := Lib.hid (And.intro hnx hlx)
     clear hall hjx hjy hnx hlx hny hly
     have HS1 := Lib.hid (refsameK_any ky.1 ky.1 ky.2 ky.2 Xe Xk Xc We Wk Wc xe1 xk1 xe2 xk2 xc1 xc2 we1 wk1 we2 wk2 wc1 wc2 v6 true (decide_eq_true rfl) (by have := HNL.out.1; omega) Rx.out.len (by have h := Rx.out.len; have h2 := HNL.out.2; dsimp only at h; omega) Rx.out.tree Rx.out.ctx HNC.out.rd.len HNC.out.rd.tree HNC.out.rd.ctx)
     go_wp2_with fail
     rw [← Hgy.out, ← Hv6.out]
     refine HS1.out.mono ?_
     rintro e v7 ⟨rfl, hb9⟩
     have Ry := Lib.hid (Ry.out.later hb9)
     have HNC := Lib.hid (HNC.out.later hb9)
     have HKc := Lib.hid (HKc.out.later hb9)
     clear hb9 c0 c1 c2 c3 c4 c5 c6 c7 c8 HS1
     have c0 := HKc.out.c0
     have c1 := HKc.out.c1
     have c2 := HKc.out.c2
     have c3 := HKc.out.c3
     have c4 := HKc.out.c4
     have c5 := HKc.out.c5
     have c6 := HKc.out.c6
     have c7 := HKc.out.c7
     have c8 := HKc.out.tail.tail.tail.tail.tail.tail.tail.tail.c0
     have HS2 := Lib.hid (refsameK_any ky.1 ky.1 ky.2 ky.2 Ye Yk Yc We Wk Wc ye1 yk1 ye2 yk2 yc1 yc2 we1 wk1 we2 wk2 wc1 wc2 v7 true (decide_eq_true rfl) (by have := HNL.out.1; omega) Ry.out.len (by have h := Ry.out.len; have h2 := HNL.out.2; dsimp only at h; omega) Ry.out.tree Ry.out.ctx HNC.out.rd.len HNC.out.rd.tree HNC.out.rd.ctx)
     go_wp2_with fail
     refine HS2.out.mono ?_
     rintro e v8 ⟨rfl, hb9⟩
     have HKc := Lib.hid (HKc.out.later hb9)
     clear hb9 c0 c1 c2 c3 c4 c5 c6 c7 c8
     go_wp2_with fail
     go_ret
     exact ⟨by first | rfl | simp, HKc.out.below⟩
 ·have f8 : decide ((8 : Int) < (n : Int)) = true := decide_eq_true (by omega)
  go_wp2_with fail
  refine (awake_any _).mono ?_
  rintro e v9 ⟨rfl, hb9⟩
  have HB1 := Lib.hid (HB1.out.trans (hb9.mono HB1.out.size))
  clear hb9
  go_wp2_with fail
  go_ret
  exact ⟨rfl, HB1.out⟩
set_option maxRecDepth 100000 in
theorem lifted (os : Os) (started : os.Started) (H : Type) (enc : TypeId × Value → H) :
  ReturnsInHanded {} Tryz.checked os 9 .any (Rows.causalAllSpec.pre6 enc Tryz.prog Tryz.f9 Rows.causalAllRow.domain false) (Rows.causalAllSpec.post enc Tryz.prog Tryz.f9 false true false false) := by
 refine returnsInHanded_of_change_sized (C := Tryz.checked) own started (by kernel_rfl) Tryz.func9
  (ChangeSpec.witness6 (enc := enc) (C := Tryz.checked) false ⟨#[], #[.slice none 0 0], []⟩ 8 (by kernel_rfl) (by kernel_rfl) (by kernel_rfl) (by kernel_rfl)) ?_
 intro W base args ds gs before hval0 hW _ hsz0 _
 have hval : ∀ (j : Nat) t v, Tryz.f9.params[j]? = some t → args[j]? = some v → Value.okWide Tryz.prog W .any base t v := hval0
 have hW' := hW
 obtain ⟨p, q, hA0, hV, rfl, hfz, hnd⟩ := hW
 have hA : DataW.TrodAll enc Tryz.prog W 0 (fun _ => true) true Tryz.f9.params.toList args.toList ds p := hA0
 rw [Tryz.params9] at hA hval
 obtain ⟨v0, d0, rfl, rfl, h0⟩ := trodAll_one hA
 obtain ⟨rfl, rfl⟩ := trodVars_none hV
 have hsz : (DataW.weightsEach Tryz.prog (39 :: _) (d0 :: _)).all (· ≤ reachBytes) = true := hsz0
 obtain ⟨hw0, hsz⟩ := Tr.weights_head hsz
 obtain ⟨a0, len0, cap0, rfl⟩ := okWide_slice Tryz.underlying39 (hval 0 39 v0 rfl rfl)
 obtain ⟨fuel0, hf0⟩ := h0
 obtain ⟨ps, hr, hl⟩ := caus_of_trod hf0 hw0
 refine (walk_any ps len0 a0 cap0 W hr hl).mono fun e W' ⟨he, hb⟩ => ?_
 subst he
 exact ⟨_, rfl, law_post hW' (by kernel_rfl) rfl rfl rfl hb⟩
theorem proved : Rows.CausalAllSaid :=
 OpenClaim.holds_of_wide 9 Tryz.f9 rfl rfl rfl rfl rfl rfl rfl ⟨rfl, rfl, rfl, rfl, rfl⟩ rfl rfl rfl rfl rfl (by kernel_rfl) Tryz.func9 (by kernel_rfl)
  (of_decide_eq_true (by kernel_rfl)) (by unfold Func.isWrapper; first | (rw [if_pos (by decide +kernel)]; kernel_rfl) | (rw [if_neg (by decide +kernel)]; exact ⟨rfl, rfl⟩))
  (fun os started H enc _ => lifted os started H enc)
#print axioms proved
end lawCausalAll
end Go.Proofs.YtcbclefemcmhpaaGreat
