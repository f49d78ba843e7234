/- Trees: wrapped in keys: the document's. -/
import Derived.Test.YtbfcbfadfnaebaaTreeBuild
import Derived.Test.YtbfcbfadfnaebaaTreeDeep
import Derived.Test.YtbfcbfadfnaebaaTreeWrap
namespace Go.Proofs.Ytbfcbfadfnaebaa
open Go.ChangeShapes Go.WideShapes Go.ChangeAt Go.RowKit
namespace Tr
open Sp Rw
/-- more texts are appended to a row of the call's own -/
theorem add_path (Y : World) (base : Nat) {A3 : Option Addr} {n c3 : Nat} {p : List ByteArray} (h : Own Y base 9 1 A3 n c3 (strs p)) (hbs : base ≤ Y.heap.size) {B m : Nat} {A : Option Addr} {c : Nat} {p2 : List ByteArray} (hr : Rd Y B 1 A m c (strs p2)) (hn : n + m ≤ 800000) :
    ∃ A4 c4 w4, (Builtin.append_ #[39, 39] 39 #[.slice A3 n c3, .slice A m c]).run Try.prog Y = .ok (.slice A4 (n + m) c4) w4 ∧ Own w4 base 9 1 A4 (n + m) c4 (strs (p ++ p2)) ∧ Below base Y w4 := by
  obtain ⟨i0, hi0, hz0, hz1, hz2⟩ := info_of infoS
  obtain ⟨v', w', r1, r2, r3, _⟩ := run_app (P := Try.prog) Y base 39 39 9 i0 _ 1 16 Try.underlying39 hi0 hz0 hz1 hz2 rfl (by omega) h.row hr (by omega) (by omega) hbs
  have e : strs p ++ strs p2 = strs (p ++ p2) := by simp [strs]
  rw [e] at r2
  obtain ⟨A', c', rfl, ho⟩ := Own.of_row r2 (strs_one _)
  exact ⟨A', c', w', r1, ho, (Below.refl base Y).grown r3 hbs (fun k hk => (h.row.lt k hk).1)⟩
theorem depth_path : ∀ {d : Nat} {t : T}, RightT d t → ∀ y ∈ leaves t, y.1.length ≤ d
  | d + 1, .mk es ks, h, y, hy => by
    rw [leaves_mk] at hy
    rcases List.mem_append.1 hy with hy | hy
    · obtain ⟨e, _, rfl⟩ := List.mem_map.1 hy
      simp
    · obtain ⟨k, hk, hy⟩ := List.mem_flatMap.1 hy
      obtain ⟨z, hz, rfl⟩ := List.mem_map.1 hy
      have := depth_path (h.2.2.2 k hk).2.2 z hz
      simp
      omega
theorem nodes_wrap2 (t : T) : ∀ p : List ByteArray, nodes (wrapT t p) = nodes t + p.length
  | [] => rfl
  | k :: p => by
    unfold wrapT
    rw [nodes_mk, List.map_cons, List.map_nil, List.sum_cons, List.sum_nil, nodes_wrap2 t p]
    simp
    omega
set_option maxRecDepth 100000 in
set_option maxHeartbeats 4000000 in
theorem refwrap_any (t : T) (Ae Ak : Option Addr) (ne nk ce ck : Nat) (l : List ByteArray) (A : Option Addr) (n c : Nat) (w : World) (hl9 : l.length = n) (hn9 : n ≤ 1000) (hrl : Rd w w.heap.size 1 A n c (strs l)) (hz : rightB 5 t = true) (hn : nodes t ≤ 1000) (hr : RdT w w.heap.size t ⟨Ae, ne, ce⟩ ⟨Ak, nk, ck⟩) :
    Calls Try.prog 26 #[.agg #[.slice Ae ne ce, .slice Ak nk ck], .slice A n c] w (TreeErr (wrapR t l) (wrapE t l) w) := by
  obtain ⟨u, hu⟩ : ∃ u, wrapR t l = u := ⟨_, rfl⟩
  obtain ⟨x, hx⟩ : ∃ x, wrapE t l = x := ⟨_, rfl⟩
  rw [hu, hx]
  unfold wrapR at hu
  rw [hx] at hu
  unfold wrapE at hx
  rw [hl9, hz, Bool.not_true, Bool.false_or] at hx
  have HT := Lib.hid (rightB_iff.1 hz)
  have HX := Lib.hid hx
  have HU := Lib.hid hu
  have HL9 := Lib.hid hl9
  have HRL := Lib.hid hrl
  have HN := Lib.hid hn
  have HR := Lib.hid hr
  have hn5 : n ≤ 1000 := hn9
  clear hx hu hl9 hrl hn hr hz hn9
  obtain ⟨g, hg⟩ : ∃ g, g = w.heap.size := ⟨_, rfl⟩
  have HK := Lib.hid (tree_box w Ae Ak ne nk ce ck)
  rw [← hg] at HK
  obtain ⟨W0, hW0⟩ : ∃ W, W = w.alloc (.cells #[.slice Ae ne ce, .slice Ak nk ck] 25) := ⟨_, rfl⟩
  rw [← hW0] at HK
  have HG := Lib.hid hg
  have HW0 := Lib.hid hW0
  have k0 := HK.out.c0
  have k1 := HK.out.c1
  clear hg hW0
  obtain ⟨q, hq⟩ : ∃ q, q = W0.heap.size := ⟨_, rfl⟩
  obtain ⟨W1, hW1⟩ : ∃ W, W = W0.alloc (.cells #[.slice none 0 0, .slice none 0 0] 25) := ⟨_, rfl⟩
  have hb1 : Below W0.heap.size W0 W1 := by rw [hW1]; exact Dt.box_below _ _ _
  have q0 : W1.cell? ⟨q, 0, none⟩ = some (.slice none 0 0) := by rw [hW1, hq]; go_simp
  have q1 : W1.cell? ⟨q, 1, none⟩ = some (.slice none 0 0) := by rw [hW1, hq]; go_simp
  have HFQ : Hid (Free q W1) := ⟨by rw [hW1, hq]; simp, fun j => by rw [hW1, hq]; go_simp⟩
  have HFG : Hid (Free g W1) := (show Free g W0 from ⟨World.block_lt_of_cell? W0 _ HK.out.c0, fun j => by rw [HW0.out, HG.out]; go_simp⟩).later hb1
  have HKB := Lib.hid (((HK.out.later hb1).cons_of q1).cons_of q0)
  have HQ : Hid (q = g + 1) := by unfold Hid; rw [hq, HW0.out, HG.out]; simp
  have hgW : g < W0.heap.size := World.block_lt_of_cell? W0 _ HK.out.c0
  have hgq : g ≠ q := by omega
  have hgq2 : ¬ q = g := by omega
  have hwg : w.heap.size ≤ g := by have := HG.out; omega
  have hwq : w.heap.size ≤ q := by omega
  have HW1 := Lib.hid hW1
  have HBq : Hid (Below w.heap.size w W1) := HKB.out.below
  clear hq hW1 hb1 q0 q1 k0 k1
  go_enter Try.func26, Try.ntmps26
  go_wp2_with fail
  rw [← HG.out, ← HW0.out, ← HQ.out, ← HW1.out]
  go_loopw [12] (fun i wr => ∃ (k : Nat), k ≤ n ∧ i = .int .i64 k ∧ W1 = wr ∧ Hid (∀ (j : Nat) (h : j < l.length), j < k → keyB l[j] = true)) (fun i _ => n - (intOf i).toNat)
  case atStart => exact ⟨0, by omega, by first | rfl | trivial, by first | rfl | trivial, fun j _ h => absurd h (by omega)⟩
  case round =>
    obtain ⟨k, hk, rfl, rfl, HOKS⟩ := hrel
    by_cases hlt : k < n
    · have hkl : k < l.length := by rw [HL9.out]; exact hlt
      obtain ⟨b, o, rfl, hb, hc⟩ := HRL.out.at_ (by omega)
      obtain ⟨y, hy⟩ : ∃ y, y = l[k] := ⟨_, rfl⟩
      have cy := (HKB.out.below.cell (p := ⟨b, o + k, none⟩) hb).trans (hc k (.string y) (by rw [hy]; simp [strs, hkl]))
      obtain ⟨kb, hkb⟩ : ∃ z, keyB y = z := ⟨_, rfl⟩
      have HKY := Lib.hid (refkey_any y W1)
      rw [hkb] at HKY
      have HY := Lib.hid hy
      have HKBB := Lib.hid hkb
      clear hc hy hkb
      cases kb with
      | false =>
        have hbd : badB l = true := by
          cases h : badB l with
          | true => rfl
          | false =>
            have h1 := badB_iff.1 h l[k] (List.getElem_mem hkl)
            rw [← HY.out] at h1
            exact absurd h1 (keyB_no HKBB.out)
        have hx := HX.out
        rw [if_pos hbd] at hx
        subst hx
        have hu := HU.out
        rw [if_neg (by simp)] at hu
        subst hu
        clear hbd
        go_wp2_with fail
        refine HKY.out.mono ?_
        rintro e w2 ⟨rfl, rfl⟩
        have z0 := HKB.out.c0
        have z1 := HKB.out.c1
        have m0 := HFQ.out.2 0
        have m1 := HFQ.out.2 1
        obtain ⟨w9, hw9⟩ : ∃ W, W = (W1.setCell ⟨q, 0, none⟩ (.slice none 0 0)).setCell ⟨q, 1, none⟩ (.slice none 0 0) := ⟨_, rfl⟩
        have HB9 : Hid (Below w.heap.size w w9) := by unfold Hid; rw [hw9]; exact (HKB.out.below.setCell (p := ⟨q, 0, none⟩) hwq _).setCell (p := ⟨q, 1, none⟩) hwq _
        have j0 : w9.cell? ⟨q, 0, none⟩ = some (.slice none 0 0) := by rw [hw9]; go_simp
        have j1 : w9.cell? ⟨q, 1, none⟩ = some (.slice none 0 0) := by rw [hw9]; go_simp
        have HW9 := Lib.hid hw9
        clear hw9
        go_wp2_with fail
        rw [← HW9.out]
        refine bodyPost_ret (v := .tuple #[.agg #[.slice none 0 0, .slice none 0 0], .int .i64 1]) (by simp [results, Try.results26, go_sem, j0, j1]) rfl ⟨none, 0, 0, none, 0, 0, rfl, RdO.none _ _ _ _ _ _, HB9.out⟩
      | true =>
        have HOK2 : Hid (∀ (j : Nat) (h : j < l.length), j < k + 1 → keyB l[j] = true) := fun j h hj => by
          by_cases e : j < k
          · exact HOKS.out j h e
          · obtain rfl : j = k := by omega
            rw [← HY.out]; exact HKBB.out
        go_wp2_with fail
        refine HKY.out.mono ?_
        rintro e w2 ⟨rfl, rfl⟩
        go_wp2_with fail
        go_roundw
        case rel => exact ⟨k + 1, by omega, by go_num, by first | rfl | trivial, HOK2.out⟩
        case measure => simp [intOf]; omega
    · obtain rfl : n = k := by omega
      have hkeys : ∀ y ∈ l, KeyOk y := fun y hy => by
        obtain ⟨j, hj, rfl⟩ := List.getElem_of_mem hy
        exact keyB_iff.1 (HOKS.out j hj (by rw [← HL9.out]; exact hj))
      have HKEYS := Lib.hid hkeys
      have hbd : badB l = false := badB_iff.2 hkeys
      have hx := HX.out
      rw [hbd, if_neg (by simp)] at hx
      have HX := Lib.hid hx
      clear hkeys hbd hx
      have k2 := HKB.out.c2
      have k3 := HKB.out.c3
      go_wp2_with fail
      refine (leaves_any t Ae Ak ne nk ce ck W1 (by have := HN.out; omega) (RdT.more HKB.out.below.size _ (RdT.below HR.out HKB.out.below))).mono ?_
      rintro e w2 ⟨A2, c2, rfl, hl2, hb2⟩
      obtain ⟨m2, hm2⟩ : ∃ z, z = (leaves t).length := ⟨_, rfl⟩
      rw [← hm2] at hl2 ⊢
      have HL2 := Lib.hid hl2
      have HK2 := Lib.hid (HKB.out.later hb2)
      have HFQ2 := Lib.hid (HFQ.out.later hb2)
      have hm25 : m2 ≤ 1000 := by rw [hm2]; exact Nat.le_trans (leaves_nodes t) HN.out
      have HM2 := Lib.hid hm2
      clear hl2 hb2 hm2 k2 k3
      by_cases h5 : 5 < n
      · have f5 : decide ((5 : Int) < (n : Int)) = true := decide_eq_true (by omega)
        have hx := HX.out
        rw [if_pos h5] at hx
        subst hx
        have hu := HU.out
        rw [if_neg (by simp)] at hu
        subst hu
        have z0 := HK2.out.c0
        have z1 := HK2.out.c1
        have m0 := HFQ2.out.2 0
        have m1 := HFQ2.out.2 1
        obtain ⟨w9, hw9⟩ : ∃ W, W = (w2.setCell ⟨q, 0, none⟩ (.slice none 0 0)).setCell ⟨q, 1, none⟩ (.slice none 0 0) := ⟨_, rfl⟩
        have HB9 : Hid (Below w.heap.size w w9) := by unfold Hid; rw [hw9]; exact (HK2.out.below.setCell (p := ⟨q, 0, none⟩) hwq _).setCell (p := ⟨q, 1, none⟩) hwq _
        have j0 : w9.cell? ⟨q, 0, none⟩ = some (.slice none 0 0) := by rw [hw9]; go_simp
        have j1 : w9.cell? ⟨q, 1, none⟩ = some (.slice none 0 0) := by rw [hw9]; go_simp
        have HW9 := Lib.hid hw9
        clear hw9
        go_wp2_with fail
        rw [← HW9.out]
        refine bodyPost_ret (v := .tuple #[.agg #[.slice none 0 0, .slice none 0 0], .int .i64 10]) (by simp [results, Try.results26, go_sem, j0, j1]) rfl ⟨none, 0, 0, none, 0, 0, rfl, RdO.none _ _ _ _ _ _, HB9.out⟩
      · have f5 : decide ((5 : Int) < (n : Int)) = false := decide_eq_false (by omega)
        have hx := HX.out
        rw [if_neg h5] at hx
        by_cases he : t.es = [] ∧ t.ks = []
        · rw [if_pos he] at hx
          subst hx
          have hu := HU.out
          rw [if_neg (fun h => h.2 he)] at hu
          subst hu
          have ht : t = none_ := by rw [← T.eta t, he.1, he.2]; rfl
          have hm0 : m2 = 0 := by rw [HM2.out, ht, leaves_none]; rfl
          subst hm0
          have HV : Hid (pre l (leaves t) = leaves none_ ∧ RightT 5 none_ ∧ nodes none_ ≤ 100000) := ⟨by rw [ht, leaves_none]; rfl, RightT.none (d := 4), by unfold none_; rw [nodes_mk]; simp⟩
          clear ht he
          have HDL : Hid (∀ y ∈ leaves t, y.1.length ≤ 5) := fun y hy => depth_path HT.out y hy
          have HBQ := Lib.hid HK2.out.below
          go_wp2_with fail
          go_loopw [8, 44] (fun s i wr => ∃ (k : Nat) (Ax : Option Addr) (cx : Nat) (lr : List (SV × E)), k ≤ 0 ∧ i = .int .i64 k ∧ s = .slice Ax k cx ∧ Hid (LfRow wr w2.heap.size 69 Ax k cx ((pre l (leaves t)).take k) lr) ∧ Hid (Below w2.heap.size w2 wr)) (fun _ i _ => 0 - (intOf i).toNat)
          case atStart => exact ⟨0, none, 0, [], by omega, by first | rfl | trivial, by first | rfl | trivial, by unfold Hid; simpa using LfRow.nil w2 w2.heap.size 69, Below.refl _ _⟩
          case round =>
            obtain ⟨k, Ax, cx, lr, hk, rfl, rfl, HLR, HBW⟩ := hrel
            by_cases hlt : k < 0
            · exact absurd hlt (by omega)
            · obtain rfl : k = 0 := by omega
              have hlf := HLR.out.rd
              rw [List.take_of_length_le (by unfold pre; rw [List.length_map, ← HM2.out]; omega), HV.out.1] at hlf
              have HKW := Lib.hid (HK2.out.later HBW.out)
              have HFQW := Lib.hid (HFQ2.out.later HBW.out)
              have HBU := Lib.hid (build_any 5 (none_) HV.out.2.1 Ax _ cx wr HV.out.2.2 hlf)
              clear hlf
              go_wp2_with fail
              refine HBU.out.mono ?_
              rintro e w5 ⟨Ae9, ne9, ce9, Ak9, nk9, ck9, rfl, hro, hb5⟩
              have HK5 := Lib.hid (HKW.out.later hb5)
              have HFQ5 := Lib.hid (HFQW.out.later hb5)
              have HRO5 : Hid (RdO w5 (fun b => w.heap.size ≤ b ∧ b ≠ q) (none_) ⟨Ae9, ne9, ce9⟩ ⟨Ak9, nk9, ck9⟩) := RdO.mono (fun b hb _ => ⟨Nat.le_trans HKW.out.below.size hb, fun e => by have := HFQW.out.1; omega⟩) _ hro
              have k0 := HK5.out.c0
              have k1 := HK5.out.c1
              have m0 := HFQ5.out.2 0
              have m1 := HFQ5.out.2 1
              clear hro hb5
              obtain ⟨w9, hw9⟩ : ∃ W, W = (w5.setCell ⟨q, 0, none⟩ (.slice Ae9 ne9 ce9)).setCell ⟨q, 1, none⟩ (.slice Ak9 nk9 ck9) := ⟨_, rfl⟩
              have HT9 : Hid (RdO w9 (fun b => w.heap.size ≤ b) (none_) ⟨Ae9, ne9, ce9⟩ ⟨Ak9, nk9, ck9⟩) := by
                unfold Hid
                rw [hw9]
                refine RdO.mono (fun b hb _ => hb.1) _ (RdO.keep (ok := fun b => w.heap.size ≤ b ∧ b ≠ q) (by simp [World.setCell]) (fun b hb hlt => ?_) _ HRO5.out)
                exact (Below.heap_setCell _ ⟨q, 1, none⟩ _ b (fun e => hb.2 e)).trans (Below.heap_setCell _ ⟨q, 0, none⟩ _ b (fun e => hb.2 e))
              have HB9 : Hid (Below w.heap.size w w9) := by unfold Hid; rw [hw9]; exact (HK5.out.below.setCell (p := ⟨q, 0, none⟩) hwq _).setCell (p := ⟨q, 1, none⟩) hwq _
              have j0 : w9.cell? ⟨q, 0, none⟩ = some (.slice Ae9 ne9 ce9) := by rw [hw9]; go_simp
              have j1 : w9.cell? ⟨q, 1, none⟩ = some (.slice Ak9 nk9 ck9) := by rw [hw9]; go_simp
              have HW9 := Lib.hid hw9
              clear hw9
              go_wp2_with fail
              rw [← HW9.out]
              refine bodyPost_ret (v := .tuple #[.agg #[.slice Ae9 ne9 ce9, .slice Ak9 nk9 ck9], .int .i64 0]) (by simp [results, Try.results26, go_sem, j0, j1]) rfl ⟨Ae9, ne9, ce9, Ak9, nk9, ck9, rfl, HT9.out, HB9.out⟩
        · rw [if_neg he] at hx
          have hmp : 0 < m2 := by rw [HM2.out]; exact List.length_pos_iff.2 (leaves_some HT.out he)
          have fm : decide ((0 : Int) < (m2 : Int)) = true := decide_eq_true (by omega)
          have hdl := deep_levels HT.out he
          have hlv := levels_le HT.out
          have hdp := deep_any (leaves t) m2 A2 c2 w2 (by omega) (fun y hy => by have h1 := (le_deep (leaves t) (1 + y.1.length)).2 (.inr ⟨y, hy, Nat.le_refl _⟩); omega) HL2.out
          rw [hdl] at hdp
          obtain ⟨lv, hlv2⟩ : ∃ z, z = levels t := ⟨_, rfl⟩
          rw [← hlv2] at hdp hx hlv
          have HDP := Lib.hid hdp
          have HLV := Lib.hid hlv2
          have fw : IntKind.i64.wrap ((lv : Int) + (n : Int)) = ((lv + n : Nat) : Int) := by rw [IntKind.wrap_i64]; omega
          clear hdl hdp hlv2
          by_cases h6 : 5 < lv + n
          · have f6 : decide ((5 : Int) < ((lv + n : Nat) : Int)) = true := decide_eq_true (by omega)
            rw [if_pos h6] at hx
            subst hx
            have hu := HU.out
            rw [if_neg (by simp)] at hu
            subst hu
            go_wp2_with fail
            refine HDP.out.mono ?_
            rintro e w3 ⟨rfl, rfl⟩
            have z0 := HK2.out.c0
            have z1 := HK2.out.c1
            have m0 := HFQ2.out.2 0
            have m1 := HFQ2.out.2 1
            obtain ⟨w9, hw9⟩ : ∃ W, W = (w2.setCell ⟨q, 0, none⟩ (.slice none 0 0)).setCell ⟨q, 1, none⟩ (.slice none 0 0) := ⟨_, rfl⟩
            have HB9 : Hid (Below w.heap.size w w9) := by unfold Hid; rw [hw9]; exact (HK2.out.below.setCell (p := ⟨q, 0, none⟩) hwq _).setCell (p := ⟨q, 1, none⟩) hwq _
            have j0 : w9.cell? ⟨q, 0, none⟩ = some (.slice none 0 0) := by rw [hw9]; go_simp
            have j1 : w9.cell? ⟨q, 1, none⟩ = some (.slice none 0 0) := by rw [hw9]; go_simp
            have HW9 := Lib.hid hw9
            clear hw9
            go_wp2_with fail
            rw [← HW9.out]
            refine bodyPost_ret (v := .tuple #[.agg #[.slice none 0 0, .slice none 0 0], .int .i64 10]) (by simp [results, Try.results26, go_sem, j0, j1]) rfl ⟨none, 0, 0, none, 0, 0, rfl, RdO.none _ _ _ _ _ _, HB9.out⟩
          · have f6 : decide ((5 : Int) < ((lv + n : Nat) : Int)) = false := decide_eq_false (by omega)
            rw [if_neg h6] at hx
            subst hx
            have hu := HU.out
            rw [if_pos ⟨rfl, he⟩] at hu
            have HV : Hid (pre l (leaves t) = leaves (wrapT t l) ∧ RightT 5 (wrapT t l) ∧ nodes (wrapT t l) ≤ 100000) := ⟨by rw [leaves_wrap]; rfl, (RightT.wrap (right_levels HT.out) he HKEYS.out).le (by rw [← HLV.out, HL9.out]; omega), by rw [nodes_wrap2, HL9.out]; have := HN.out; omega⟩
            rw [hu] at HV
            clear hu
            go_wp2_with fail
            refine HDP.out.mono ?_
            rintro e w3 ⟨rfl, rfl⟩
            have HDL : Hid (∀ y ∈ leaves t, y.1.length ≤ 5) := fun y hy => depth_path HT.out y hy
            have HBQ := Lib.hid HK2.out.below
            go_wp2_with fail
            go_loopw [8, 44] (fun s i wr => ∃ (k : Nat) (Ax : Option Addr) (cx : Nat) (lr : List (SV × E)), k ≤ m2 ∧ i = .int .i64 k ∧ s = .slice Ax k cx ∧ Hid (LfRow wr w2.heap.size 69 Ax k cx ((pre l (leaves t)).take k) lr) ∧ Hid (Below w2.heap.size w2 wr)) (fun _ i _ => m2 - (intOf i).toNat)
            case atStart => exact ⟨0, none, 0, [], by omega, by first | rfl | trivial, by first | rfl | trivial, by unfold Hid; simpa using LfRow.nil w2 w2.heap.size 69, Below.refl _ _⟩
            case round =>
              obtain ⟨k, Ax, cx, lr, hk, rfl, rfl, HLR, HBW⟩ := hrel
              by_cases hlt : k < m2
              · have hkl : k < (leaves t).length := by rw [← HM2.out]; exact hlt
                obtain ⟨b, o, rfl, hb, hc⟩ := LfRd.at_ HL2.out (by omega)
                obtain ⟨⟨Ap, np, cp⟩, c0, c1, c2', c3', c4', hpl, hpx⟩ := hc k hkl
                dsimp only at c0 hpl hpx
                have c0 := (HBW.out.cell (p := ⟨b, o + k * 5, none⟩) hb).trans c0
                have c1 := (HBW.out.cell (p := ⟨b, o + k * 5 + 1, none⟩) hb).trans c1
                have c2' := (HBW.out.cell (p := ⟨b, o + k * 5 + 2, none⟩) hb).trans c2'
                have c3' := (HBW.out.cell (p := ⟨b, o + k * 5 + 3, none⟩) hb).trans c3'
                have c4' := (HBW.out.cell (p := ⟨b, o + k * 5 + 4, none⟩) hb).trans c4'
                have hnp : np ≤ 100000 := by rw [← hpl]; have h1 := HDL.out _ (List.getElem_mem hkl); omega
                have htk : (pre l (leaves t)).take (k + 1) = (pre l (leaves t)).take k ++ [(l ++ ((leaves t)[k]).1, ((leaves t)[k]).2)] := by
                  have h1 : k < (pre l (leaves t)).length := by unfold pre; rw [List.length_map]; exact hkl
                  rw [List.take_succ_eq_append_getElem h1]
                  have h2 : (pre l (leaves t))[k] = (l ++ ((leaves t)[k]).1, ((leaves t)[k]).2) := by unfold pre; exact List.getElem_map ..
                  rw [h2]
                obtain ⟨lf, hlf⟩ : ∃ z, z = (leaves t)[k] := ⟨_, rfl⟩
                rw [← hlf] at c1 c2' c3' c4' hpl hpx htk
                obtain ⟨pa, ea, en, et, ev⟩ := lf
                dsimp only at c1 c2' c3' c4' hpl hpx htk
                have HTK := Lib.hid htk
                have hdz : wr.drew.heap.size = wr.heap.size := rfl
                have hbE : Below wr.heap.size wr (wr.drew.alloc (.cells #[] 9)) := ((Below.refl _ wr).drew).alloc (Nat.le_refl _) _
                have hbw0 := HBQ.out.trans (HBW.out.mono HBQ.out.size)
                have hpd : Rd wr wr.heap.size 1 A n c (strs l) := (HRL.out.below hbw0).more hbw0.size
                obtain ⟨A3, c3, w3, r3, ho3, hb3, _⟩ := mk_path (wr.drew.alloc (.cells #[] 9)) wr.heap.size wr.heap.size (by have h := heap_alloc_new wr.drew (.cells #[] 9); simpa [hdz] using h) (by omega) (by first | (simp [hdz]; done) | (simp [hdz]; omega)) ((hpd.below hbE).more hbE.size) (by omega)
                have hbw3 : Below wr.heap.size wr w3 := hbE.trans hb3
                have hbx3 : Below w2.heap.size w2 w3 := HBW.out.trans (hbw3.mono HBW.out.size)
                obtain ⟨A4, c4, w4, r4, ho4, hb4⟩ := add_path w3 wr.heap.size ho3 hbw3.size ((hpx.rd.below hbx3).more hbx3.size) (by omega)
                have hbw4 : Below wr.heap.size wr w4 := hbw3.trans hb4
                have hlen : (l ++ pa).length = n + np := by rw [List.length_append, HL9.out, hpl]
                have hrx : RX w4 (fun b => (Value.slice Ax k cx).ownBlock ≠ some b) 1 A4 (n + np) c4 (strs (l ++ pa)) := by
                  refine ⟨ho4.rd.len, ho4.rd.cap, strs_one _, fun hn => ?_⟩
                  obtain ⟨q', eq, q1, q2, _, q4⟩ := Sp.Own.place ho4 hn
                  refine ⟨q', 0, eq, fun e => ?_, q2, fun j u hu => by rw [Nat.zero_add]; exact q4 j u hu⟩
                  have := (HLR.out.own.row.lt q' e).2
                  omega
                obtain ⟨A6, c6, w6, r6, HLR6, hb6, _⟩ := LfRow.push (e := ⟨ea, en, et, ev⟩) (s := ⟨A4, n + np, c4⟩) (HLR.out.later hbw4) (Nat.le_trans HBW.out.size hbw4.size) hlen hrx (by omega)
                dsimp only at r6
                have HLR7 : Hid (LfRow w6 w2.heap.size 69 A6 (k + 1) c6 ((pre l (leaves t)).take (k + 1)) (lr ++ [(⟨A4, n + np, c4⟩, ⟨ea, en, et, ev⟩)])) := by unfold Hid; rw [HTK.out]; exact HLR6
                have hbx4 : Below w2.heap.size w2 w4 := HBW.out.trans (hbw4.mono HBW.out.size)
                have HB7 : Hid (Below w2.heap.size w2 w6) := hbx4.trans hb6
                have hbl : b < wr.heap.size := World.block_lt_of_cell? wr _ c0
                have HS3 := Lib.hid (And.intro ((hbw3.cell (p := ⟨b, o + k * 5, none⟩) hbl).trans c0) (And.intro ((hbw3.cell (p := ⟨b, o + k * 5 + 1, none⟩) hbl).trans c1) (And.intro ((hbw3.cell (p := ⟨b, o + k * 5 + 2, none⟩) hbl).trans c2') (And.intro ((hbw3.cell (p := ⟨b, o + k * 5 + 3, none⟩) hbl).trans c3') ((hbw3.cell (p := ⟨b, o + k * 5 + 4, none⟩) hbl).trans c4')))))
                have e0 := (hbw4.cell (p := ⟨b, o + k * 5, none⟩) hbl).trans c0
                have e1 := (hbw4.cell (p := ⟨b, o + k * 5 + 1, none⟩) hbl).trans c1
                have e2 := (hbw4.cell (p := ⟨b, o + k * 5 + 2, none⟩) hbl).trans c2'
                have e3 := (hbw4.cell (p := ⟨b, o + k * 5 + 3, none⟩) hbl).trans c3'
                have e4 := (hbw4.cell (p := ⟨b, o + k * 5 + 4, none⟩) hbl).trans c4'
                have hbl4 : b < w4.heap.size := Nat.lt_of_lt_of_le hbl hbw4.size
                have HS4 := Lib.hid (And.intro e0 (And.intro e1 (And.intro e2 (And.intro e3 e4))))
                have HS6 := Lib.hid (And.intro ((hb6.cell (p := ⟨b, o + k * 5, none⟩) hb).trans e0) (And.intro ((hb6.cell (p := ⟨b, o + k * 5 + 1, none⟩) hb).trans e1) (And.intro ((hb6.cell (p := ⟨b, o + k * 5 + 2, none⟩) hb).trans e2) (And.intro ((hb6.cell (p := ⟨b, o + k * 5 + 3, none⟩) hb).trans e3) ((hb6.cell (p := ⟨b, o + k * 5 + 4, none⟩) hb).trans e4)))))
                have HX3 := Lib.hid r3
                have HX4 := Lib.hid r4
                have HX6 := Lib.hid r6
                clear hc hlf hpl hpx htk hdz hbE hbw0 hpd r3 ho3 hb3 hbw3 hbx3 r4 ho4 hb4 hbw4 hlen hrx r6 HLR6 hb6 hbx4 e0 e1 e2 e3 e4
                go_wp2_with fail
                refine wp_region_held_drew (S := fun W => W.cell? ⟨b, o + k * 5, none⟩ = some (.slice Ap np cp) ∧ W.cell? ⟨b, o + k * 5 + 1, none⟩ = some (.int .i64 ea) ∧ W.cell? ⟨b, o + k * 5 + 2, none⟩ = some (.int .i64 en) ∧ W.cell? ⟨b, o + k * 5 + 3, none⟩ = some (.string et) ∧ W.cell? ⟨b, o + k * 5 + 4, none⟩ = some (.int .i64 ev)) (by kernel_rfl) (by go_keep) (fun hHeld => ?_)
                refine wpAnyH_take (i := 0) (oi := ⟨some 47, _, _, _, _, _⟩) (v := ?_) rfl (by kernel_rfl) (by kernel_rfl) (by kernel_rfl) (fun _ _ _ h => h) (Or.inl ⟨by kernel_rfl, ?_⟩) (by assumption) ?_
                rotate_left
                (intro wz hSw; (try dsimp only at hSw); go_simp; try with_reducible rfl)
                try simp only [Act.put, List.setIfInBounds_toArray, List.set_cons_zero, List.set_cons_succ]
                refine wpAnyH_take (i := 2) (oi := ⟨some 49, _, _, _, _, _⟩) (v := ?_) rfl (by kernel_rfl) (by kernel_rfl) (by kernel_rfl) (fun _ _ _ h => h) (Or.inl ⟨by kernel_rfl, ?_⟩) (by assumption) ?_
                rotate_left
                (intro wz hSw; (try dsimp only at hSw); go_simp; try with_reducible rfl)
                try simp only [Act.put, List.setIfInBounds_toArray, List.set_cons_zero, List.set_cons_succ]
                refine wpAnyH_take (i := 4) (oi := ⟨some 51, _, _, _, _, _⟩) (v := ?_) rfl (by kernel_rfl) (by kernel_rfl) (by kernel_rfl) (fun _ _ _ h => h) (Or.inl ⟨by kernel_rfl, ?_⟩) (by assumption) ?_
                rotate_left
                (intro wz hSw; (try dsimp only at hSw); go_simp; try with_reducible rfl)
                try simp only [Act.put, List.setIfInBounds_toArray, List.set_cons_zero, List.set_cons_succ]
                refine wpAnyH_take (i := 5) (oi := ⟨some 52, _, _, _, _, _⟩) (v := ?_) rfl (by kernel_rfl) (by kernel_rfl) (by kernel_rfl) (fun _ _ _ h => h) (Or.inl ⟨by kernel_rfl, ?_⟩) (by assumption) ?_
                rotate_left
                (intro wz hSw; (try dsimp only at hSw); go_simp; try with_reducible rfl)
                try simp only [Act.put, List.setIfInBounds_toArray, List.set_cons_zero, List.set_cons_succ]
                refine wpAnyH_take (i := 6) (oi := ⟨some 53, _, _, _, _, _⟩) (v := ?_) rfl (by kernel_rfl) (by kernel_rfl) (by kernel_rfl) (fun _ _ _ h => h) (Or.inl ⟨by kernel_rfl, ?_⟩) (by assumption) ?_
                rotate_left
                (intro wz hSw; (try dsimp only at hSw); go_simp; try with_reducible rfl)
                try simp only [Act.put, List.setIfInBounds_toArray, List.set_cons_zero, List.set_cons_succ]
                refine wpAnyH_take (i := 7) (oi := ⟨some 54, _, _, _, _, _⟩) (v := ?_) rfl (by kernel_rfl) (by kernel_rfl) (by kernel_rfl) (fun _ _ _ h => h) (Or.inl ⟨by kernel_rfl, ?_⟩) (by assumption) ?_
                rotate_left
                (intro wz hSw; (try dsimp only at hSw); go_simp; try with_reducible rfl)
                try simp only [Act.put, List.setIfInBounds_toArray, List.set_cons_zero, List.set_cons_succ]
                refine wpAnyH_take (i := 8) (oi := ⟨some 55, _, _, _, _, _⟩) (v := ?_) rfl (by kernel_rfl) (by kernel_rfl) (by kernel_rfl) (fun _ _ _ h => h) (Or.inl ⟨by kernel_rfl, ?_⟩) (by assumption) ?_
                rotate_left
                (intro wz hSw; (try dsimp only at hSw); go_simp; try with_reducible rfl)
                try simp only [Act.put, List.setIfInBounds_toArray, List.set_cons_zero, List.set_cons_succ]
                refine wpAnyH_take (i := 10) (oi := ⟨some 57, _, _, _, _, _⟩) (v := ?_) rfl (by kernel_rfl) (by kernel_rfl) (by kernel_rfl) (fun _ _ _ h => h) (Or.inl ⟨by kernel_rfl, ?_⟩) (by assumption) ?_
                rotate_left
                (intro wz hSw; (try dsimp only at hSw); go_simp; try with_reducible rfl)
                try simp only [Act.put, List.setIfInBounds_toArray, List.set_cons_zero, List.set_cons_succ]
                refine wpAnyH_take (i := 11) (oi := ⟨some 58, _, _, _, _, _⟩) (v := ?_) rfl (by kernel_rfl) (by kernel_rfl) (by kernel_rfl) (fun _ _ _ h => h) (Or.inl ⟨by kernel_rfl, ?_⟩) (by assumption) ?_
                rotate_left
                (intro wz hSw; (try dsimp only at hSw); go_simp; try with_reducible rfl)
                try simp only [Act.put, List.setIfInBounds_toArray, List.set_cons_zero, List.set_cons_succ]
                refine wpAnyH_take (i := 12) (oi := ⟨some 59, _, _, _, _, _⟩) (v := ?_) rfl (by kernel_rfl) (by kernel_rfl) (by kernel_rfl) (fun _ _ _ h => h) (Or.inl ⟨by kernel_rfl, ?_⟩) (by assumption) ?_
                rotate_left
                (intro wz hSw; (try dsimp only at hSw); go_simp; try with_reducible rfl)
                try simp only [Act.put, List.setIfInBounds_toArray, List.set_cons_zero, List.set_cons_succ]
                refine wpAnyH_take (i := 13) (oi := ⟨some 60, _, _, _, _, _⟩) (v := ?_) rfl (by kernel_rfl) (by kernel_rfl) (by kernel_rfl) (fun _ _ _ h => h) (Or.inl ⟨by kernel_rfl, ?_⟩) (by assumption) ?_
                rotate_left
                (intro wz hSw; (try dsimp only at hSw); go_simp; try with_reducible rfl)
                try simp only [Act.put, List.setIfInBounds_toArray, List.set_cons_zero, List.set_cons_succ]
                refine wpAnyH_take (i := 14) (oi := ⟨some 61, _, _, _, _, _⟩) (v := ?_) rfl (by kernel_rfl) (by kernel_rfl) (by kernel_rfl) (fun _ _ _ h => h) (Or.inl ⟨by kernel_rfl, ?_⟩) (by assumption) ?_
                rotate_left
                (intro wz hSw; (try dsimp only at hSw); go_simp; try with_reducible rfl)
                try simp only [Act.put, List.setIfInBounds_toArray, List.set_cons_zero, List.set_cons_succ]
                refine wpAnyH_ready (rs := [1]) (by kernel_rfl) (by simp) ?_
                refine AllReadyH.cons (o := ⟨some 48, _, _, _, _, _⟩) rfl (fun K hK => ?_) AllReadyH.nil
                go_simp
                refine hK.out _ _ ?_ (fun hHeld2 => ?_)
                · (try dsimp only); go_keep
                clear hK K hHeld
                have hHeld := hHeld2
                clear hHeld2
                try simp only [Act.put, List.setIfInBounds_toArray, List.set_cons_zero, List.set_cons_succ]
                refine wpAnyH_ready (rs := [3]) (by kernel_rfl) (by simp) ?_
                refine AllReadyH.cons (o := ⟨some 50, _, _, _, _, _⟩) rfl (fun K hK => ?_) AllReadyH.nil
                refine upon_append _ _ _ rfl rfl rfl HX3.out ?_
                refine hK.out _ _ ?_ (fun hHeld2 => ?_)
                · exact HS3.out
                clear hK K hHeld
                have hHeld := hHeld2
                clear hHeld2
                try simp only [Act.put, List.setIfInBounds_toArray, List.set_cons_zero, List.set_cons_succ]
                refine wpAnyH_ready (rs := [9]) (by kernel_rfl) (by simp) ?_
                refine AllReadyH.cons (o := ⟨some 56, _, _, _, _, _⟩) rfl (fun K hK => ?_) AllReadyH.nil
                refine upon_append _ _ _ rfl rfl rfl HX4.out ?_
                refine hK.out _ _ ?_ (fun hHeld2 => ?_)
                · exact HS4.out
                clear hK K hHeld
                have hHeld := hHeld2
                clear hHeld2
                try simp only [Act.put, List.setIfInBounds_toArray, List.set_cons_zero, List.set_cons_succ]
                refine wpAnyH_take (i := 15) (oi := ⟨some 62, _, _, _, _, _⟩) (v := ?_) rfl (by kernel_rfl) (by kernel_rfl) (by kernel_rfl) (fun _ _ _ h => h) (Or.inl ⟨by kernel_rfl, ?_⟩) (by assumption) ?_
                rotate_left
                (intro wz hSw; (try dsimp only at hSw); go_simp; try with_reducible rfl)
                try simp only [Act.put, List.setIfInBounds_toArray, List.set_cons_zero, List.set_cons_succ]
                refine wpAnyH_ready (rs := [16]) (by kernel_rfl) (by simp) ?_
                refine AllReadyH.cons (o := ⟨some 63, _, _, _, _, _⟩) rfl (fun K hK => ?_) AllReadyH.nil
                go_simp
                refine hK.out _ _ ?_ (fun hHeld2 => ?_)
                · (try dsimp only); go_keep
                clear hK K hHeld
                have hHeld := hHeld2
                clear hHeld2
                try simp only [Act.put, List.setIfInBounds_toArray, List.set_cons_zero, List.set_cons_succ]
                refine wpAnyH_ready (rs := [17]) (by kernel_rfl) (by simp) ?_
                refine AllReadyH.cons (o := ⟨some 64, _, _, _, _, _⟩) rfl (fun K hK => ?_) AllReadyH.nil
                refine upon_append _ _ _ rfl rfl rfl HX6.out ?_
                refine hK.out _ _ ?_ (fun hHeld2 => ?_)
                · exact HS6.out
                clear hK K hHeld
                have hHeld := hHeld2
                clear hHeld2
                try simp only [Act.put, List.setIfInBounds_toArray, List.set_cons_zero, List.set_cons_succ]
                refine wpAnyH_take (i := 18) (oi := ⟨some 8, _, _, _, _, _⟩) (v := ?_) rfl (by kernel_rfl) (by kernel_rfl) (by kernel_rfl) (fun _ _ _ h => h) (Or.inl ⟨by kernel_rfl, ?_⟩) (by assumption) ?_
                rotate_left
                (intro wz hSw; (try dsimp only at hSw); go_simp; try with_reducible rfl)
                try simp only [Act.put, List.setIfInBounds_toArray, List.set_cons_zero, List.set_cons_succ]
                refine wpAnyH_done (by kernel_rfl) ?_ _
                clear hHeld
                go_wp2_with fail
                go_roundw
                case rel => exact ⟨k + 1, A6, c6, _, by omega, by go_num, rfl, HLR7.out, HB7.out⟩
                case measure => simp [intOf]; omega
              · obtain rfl : k = m2 := by omega
                have hlf := HLR.out.rd
                rw [List.take_of_length_le (by unfold pre; rw [List.length_map, ← HM2.out]; omega), HV.out.1] at hlf
                have HKW := Lib.hid (HK2.out.later HBW.out)
                have HFQW := Lib.hid (HFQ2.out.later HBW.out)
                have HBU := Lib.hid (build_any 5 (u) HV.out.2.1 Ax _ cx wr HV.out.2.2 hlf)
                clear hlf
                go_wp2_with fail
                refine HBU.out.mono ?_
                rintro e w5 ⟨Ae9, ne9, ce9, Ak9, nk9, ck9, rfl, hro, hb5⟩
                have HK5 := Lib.hid (HKW.out.later hb5)
                have HFQ5 := Lib.hid (HFQW.out.later hb5)
                have HRO5 : Hid (RdO w5 (fun b => w.heap.size ≤ b ∧ b ≠ q) (u) ⟨Ae9, ne9, ce9⟩ ⟨Ak9, nk9, ck9⟩) := RdO.mono (fun b hb _ => ⟨Nat.le_trans HKW.out.below.size hb, fun e => by have := HFQW.out.1; omega⟩) _ hro
                have k0 := HK5.out.c0
                have k1 := HK5.out.c1
                have m0 := HFQ5.out.2 0
                have m1 := HFQ5.out.2 1
                clear hro hb5
                obtain ⟨w9, hw9⟩ : ∃ W, W = (w5.setCell ⟨q, 0, none⟩ (.slice Ae9 ne9 ce9)).setCell ⟨q, 1, none⟩ (.slice Ak9 nk9 ck9) := ⟨_, rfl⟩
                have HT9 : Hid (RdO w9 (fun b => w.heap.size ≤ b) (u) ⟨Ae9, ne9, ce9⟩ ⟨Ak9, nk9, ck9⟩) := by
                  unfold Hid
                  rw [hw9]
                  refine RdO.mono (fun b hb _ => hb.1) _ (RdO.keep (ok := fun b => w.heap.size ≤ b ∧ b ≠ q) (by simp [World.setCell]) (fun b hb hlt => ?_) _ HRO5.out)
                  exact (Below.heap_setCell _ ⟨q, 1, none⟩ _ b (fun e => hb.2 e)).trans (Below.heap_setCell _ ⟨q, 0, none⟩ _ b (fun e => hb.2 e))
                have HB9 : Hid (Below w.heap.size w w9) := by unfold Hid; rw [hw9]; exact (HK5.out.below.setCell (p := ⟨q, 0, none⟩) hwq _).setCell (p := ⟨q, 1, none⟩) hwq _
                have j0 : w9.cell? ⟨q, 0, none⟩ = some (.slice Ae9 ne9 ce9) := by rw [hw9]; go_simp
                have j1 : w9.cell? ⟨q, 1, none⟩ = some (.slice Ak9 nk9 ck9) := by rw [hw9]; go_simp
                have HW9 := Lib.hid hw9
                clear hw9
                go_wp2_with fail
                rw [← HW9.out]
                refine bodyPost_ret (v := .tuple #[.agg #[.slice Ae9 ne9 ce9, .slice Ak9 nk9 ck9], .int .i64 0]) (by simp [results, Try.results26, go_sem, j0, j1]) rfl ⟨Ae9, ne9, ce9, Ak9, nk9, ck9, rfl, HT9.out, HB9.out⟩
end Tr
end Go.Proofs.Ytbfcbfadfnaebaa
