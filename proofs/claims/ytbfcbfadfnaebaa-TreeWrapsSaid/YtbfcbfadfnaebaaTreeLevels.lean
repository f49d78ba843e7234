/- Trees: how many levels there are; is there room for it. -/
import Derived.Test.YtbfcbfadfnaebaaTreeSize
namespace Go.Proofs.Ytbfcbfadfnaebaa
open Go.ChangeShapes Go.WideShapes Go.ChangeAt Go.RowKit
namespace Tr
open Sp Rw
/-- a greatest one among the first k -/
def kmax (f : ByteArray × T → Nat) (ks : List (ByteArray × T)) (k : Nat) : Nat := ((ks.take k).map f).foldl max 0
theorem kmax_zero (f : ByteArray × T → Nat) (ks : List (ByteArray × T)) : kmax f ks 0 = 0 := rfl
theorem kmax_succ (f : ByteArray × T → Nat) {ks : List (ByteArray × T)} {k : Nat} (h : k < ks.length) : kmax f ks (k + 1) = max (kmax f ks k) (f ks[k]) := by
  unfold kmax
  rw [List.take_succ_eq_append_getElem h]
  simp only [List.map_append, List.foldl_append, List.map_cons, List.map_nil, List.foldl_cons, List.foldl_nil]
/-- how many levels there are -/
def levels : T → Nat
  | .mk _ ks => 1 + (ks.attach.map fun k => levels k.1.2).foldl max 0
termination_by t => SizeOf.sizeOf t
decreasing_by exact kid_lt k.2
theorem levels_mk (es : List E) (ks : List (ByteArray × T)) : levels (.mk es ks) = 1 + kmax (fun k => levels k.2) ks ks.length := by
  rw [levels]
  unfold kmax
  rw [List.take_length]
  congr 2
  conv => rhs; rw [← List.attach_map_subtype_val ks]
  rw [List.map_map]
  rfl
theorem kmax_le {f : ByteArray × T → Nat} {ks : List (ByteArray × T)} {m : Nat} (h : ∀ k ∈ ks, f k ≤ m) : ∀ {k : Nat}, k ≤ ks.length → kmax f ks k ≤ m
  | 0, _ => Nat.zero_le _
  | k + 1, hk => by
    rw [kmax_succ f (show k < ks.length by omega)]
    have h1 := kmax_le h (k := k) (by omega)
    have h2 := h _ (List.getElem_mem (show k < ks.length by omega))
    omega
theorem le_kmax {f : ByteArray × T → Nat} {ks : List (ByteArray × T)} : ∀ {k : Nat}, k ≤ ks.length → ∀ i (hi : i < ks.length), i < k → f ks[i] ≤ kmax f ks k
  | 0, _, _, _, h => absurd h (Nat.not_lt_zero _)
  | k + 1, hk, i, hi, h => by
    rw [kmax_succ f (show k < ks.length by omega)]
    by_cases he : i = k
    · subst he; omega
    · have := le_kmax (f := f) (k := k) (by omega) i hi (by omega)
      omega
theorem levels_pos (t : T) : 1 ≤ levels t := by cases t; rw [levels_mk]; omega
theorem levels_le : ∀ {d : Nat} {t : T}, RightT d t → levels t ≤ d
  | d + 1, .mk es ks, h => by
    rw [levels_mk]
    have := kmax_le (f := fun k => levels k.2) (ks := ks) (m := d) (fun k hk => levels_le (h.2.2.2 k hk).2.2) (k := ks.length) (Nat.le_refl _)
    omega
theorem right_levels : ∀ {d : Nat} {t : T}, RightT d t → RightT (levels t) t
  | d + 1, .mk es ks, h => by
    rw [levels_mk, Nat.add_comm]
    refine ⟨h.1, h.2.1, h.2.2.1, fun k hk => ⟨(h.2.2.2 k hk).1, (h.2.2.2 k hk).2.1, ?_⟩⟩
    have h1 := right_levels (h.2.2.2 k hk).2.2
    obtain ⟨i, hi, rfl⟩ := List.getElem_of_mem hk
    have h2 := le_kmax (f := fun k => levels k.2) (ks := ks) (k := ks.length) (Nat.le_refl _) i hi hi
    obtain ⟨m, hm⟩ : ∃ m, kmax (fun k => levels k.2) ks ks.length = levels (ks[i]).2 + m := ⟨_, (Nat.add_sub_cancel' h2).symm⟩
    rw [hm]
    clear hm h2
    induction m with
    | zero => exact h1
    | succ m ih => exact ih.more
theorem RightT.le {d d' : Nat} {t : T} (h : RightT d t) (hd : d ≤ d') : RightT d' t := by
  obtain ⟨m, rfl⟩ : ∃ m, d' = d + m := ⟨_, (Nat.add_sub_cancel' hd).symm⟩
  clear hd
  induction m with
  | zero => exact h
  | succ m ih => exact ih.more
theorem levels_nodes : ∀ t : T, levels t ≤ nodes t + 1 := by
  intro t
  induction t using T.ind with
  | h es ks ih =>
    rw [levels_mk, nodes_mk]
    have : kmax (fun k => levels k.2) ks ks.length ≤ (ks.map fun k => nodes k.2).sum + ks.length := by
      refine Nat.le_trans (kmax_le (m := (ks.map fun k => nodes k.2).sum + 1 * (if ks = [] then 0 else 1)) (fun k hk => ?_) (Nat.le_refl _)) ?_
      · have h1 := ih k hk
        have h2 := le_sum (f := fun k : ByteArray × T => nodes k.2) hk
        have : ks ≠ [] := List.ne_nil_of_mem hk
        rw [if_neg this]
        omega
      · split
        · omega
        · have : 0 < ks.length := List.length_pos_iff.2 (by assumption)
          omega
    omega
set_option maxRecDepth 100000 in
set_option maxHeartbeats 4000000 in
theorem levels_any : ∀ (t : T) (Ae Ak : Option Addr) (ne nk ce ck : Nat) (w : World), nodes t ≤ 1000000 → RdT w w.heap.size t ⟨Ae, ne, ce⟩ ⟨Ak, nk, ck⟩ →
    Calls Try.prog 52 #[.agg #[.slice Ae ne ce, .slice Ak nk ck]] w fun e w' => e = .returned (.int .i64 (levels t)) ∧ Below w.heap.size w w' := by
  intro t
  induction t using T.ind with
  | h es ks ih =>
    intro Ae Ak ne nk ce ck w hn hr
    obtain ⟨hle, hlk⟩ := rd_lens hr
    have HR := Lib.hid hr
    have HLE := Lib.hid hle
    have HLK := Lib.hid hlk
    clear hle hlk hr
    have hnk : nk ≤ 1000000 := by have := nodes_es es ks; have := HLK.out; omega
    have IH := Lib.hid ih
    have HN := Lib.hid hn
    obtain ⟨m, hm⟩ : ∃ m, m = levels (.mk es ks) := ⟨_, rfl⟩
    rw [← hm]
    have HM : Hid (m = 1 + kmax (fun k => levels k.2) ks nk) := by unfold Hid; rw [hm, levels_mk, HLK.out]
    have hm6 : m ≤ 1000001 := by rw [hm]; have := levels_nodes (.mk es ks); omega
    have HMX : Hid (∀ k, k ≤ nk → kmax (fun k => levels k.2) ks k ≤ 1000000) := fun k hk => by
      rw [← HLK.out] at hk
      refine kmax_le (fun x hx => ?_) hk
      obtain ⟨i, hi, rfl⟩ := List.getElem_of_mem hx
      have h1 := le_kmax (f := fun k => levels k.2) (ks := ks) (Nat.le_refl _) i hi hi
      have h2 := HM.out
      rw [← HLK.out] at h2
      omega
    clear ih hn hm
    obtain ⟨g, hg⟩ : ∃ g, g = w.heap.size := ⟨_, rfl⟩
    have HK := Lib.hid (tree_box w Ae Ak ne nk ce ck)
    rw [← hg] at HK
    obtain ⟨W0, hW0⟩ : ∃ W, W = w.alloc (.cells #[.slice Ae ne ce, .slice Ak nk ck] 25) := ⟨_, rfl⟩
    rw [← hW0] at HK
    have HG := Lib.hid hg
    have HW0 := Lib.hid hW0
    have k0 := HK.out.c0
    have k1 := HK.out.c1
    clear hg hW0
    go_enter Try.func52, Try.ntmps52
    go_wp2_with fail
    rw [← HG.out, ← HW0.out]
    go_wp2_with fail
    go_loopw [3, 9] (fun n i wr => ∃ (k : Nat), k ≤ nk ∧ i = .int .i64 k ∧ n = .int .i64 ((kmax (fun k => levels k.2) ks k : Nat) : Int) ∧ Hid (Kept [(⟨g, 0, none⟩, .slice Ae ne ce), (⟨g, 1, none⟩, .slice Ak nk ck)] w wr)) (fun _ i _ => nk - (intOf i).toNat)
    case atStart => exact ⟨0, by omega, rfl, by rw [kmax_zero]; rfl, HK.out⟩
    case round =>
      obtain ⟨k, hk, rfl, rfl, HKW⟩ := hrel
      clear k0 k1
      have k0 := HKW.out.c0
      have k1 := HKW.out.c1
      by_cases hlt : k < nk
      · have hkl : k < ks.length := by rw [HLK.out]; exact hlt
        obtain ⟨b, o, rfl, hb, hc⟩ := rd_kid HR.out (by omega)
        obtain ⟨⟨Ae', ne', ce'⟩, ⟨Ak', nk', ck'⟩, c0, c1, c2, hkid⟩ := hc k hkl
        dsimp only at c0 c1 c2
        have c0 := (HKW.out.below.cell (p := ⟨b, o + k * 3, none⟩) hb).trans c0
        have c1 := (HKW.out.below.cell (p := ⟨b, o + k * 3 + 1, none⟩) hb).trans c1
        have c2 := (HKW.out.below.cell (p := ⟨b, o + k * 3 + 2, none⟩) hb).trans c2
        obtain ⟨key, hkey⟩ : ∃ key, key = (ks[k]).1 := ⟨_, rfl⟩
        rw [← hkey] at c0
        clear hc
        obtain ⟨W1, hW1⟩ : ∃ W, W = wr.alloc (.cells #[.string key, .slice Ae' ne' ce', .slice Ak' nk' ck'] 56) := ⟨_, rfl⟩
        have hb1 : Below wr.heap.size wr W1 := by rw [hW1]; exact Dt.box_below _ _ _
        have hk1 := HKW.out.later hb1
        have hrd1 := RdT.more hk1.below.size _ (RdT.below hkid hk1.below)
        have HK1 := Lib.hid hk1
        have HW1 := Lib.hid hW1
        clear hW1 hb1 hkid
        obtain ⟨q, hq⟩ : ∃ q, q = levels (ks[k]).2 := ⟨_, rfl⟩
        have hs1 := kmax_succ (fun k => levels k.2) hkl
        have hcall := IH.out _ (List.getElem_mem hkl) Ae' Ak' ne' nk' ce' ck' W1 (Nat.le_trans (nodes_kid (List.getElem_mem hkl)) HN.out) hrd1
        rw [← hq] at hcall hs1
        have HC := Lib.hid hcall
        obtain ⟨S, hS⟩ : ∃ S, S = kmax (fun k => levels k.2) ks k := ⟨_, rfl⟩
        obtain ⟨S', hS'⟩ : ∃ S, S = kmax (fun k => levels k.2) ks (k + 1) := ⟨_, rfl⟩
        rw [← hS, ← hS'] at hs1
        rw [← hS]
        have hmax : max (S : Int) (q : Int) = (S' : Int) := by omega
        have HS' := Lib.hid hS'
        clear hrd1 hkey hk1 hcall hq hs1 hS hS'
        go_wp2_with fail
        rw [← HW1.out]
        refine HC.out.mono ?_
        rintro e w2 ⟨rfl, hb2⟩
        have HK2 := Lib.hid (HK1.out.later hb2)
        clear hb2
        go_wp2_with fail
        go_roundw
        case rel => exact ⟨k + 1, by omega, by go_num, by rw [HS'.out], HK2.out⟩
        case measure => simp [intOf]; omega
      · obtain rfl : k = nk := by omega
        have hmx := HMX.out k (Nat.le_refl _)
        obtain ⟨S, hS⟩ : ∃ S, S = kmax (fun k => levels k.2) ks k := ⟨_, rfl⟩
        rw [← hS] at hmx ⊢
        have hwrap : IntKind.i64.wrap (1 + (S : Int)) = (m : Int) := by rw [IntKind.wrap_i64]; have := HM.out; omega
        have hm1 : 1 + (S : Int) = (m : Int) := by have := HM.out; omega
        have HM1 := Lib.hid hm1
        clear hS hm1
        go_wp2_with fail
        go_ret
        exact ⟨Dt.ret_int (by first | rfl | exact HM1.out), HKW.out.below⟩
set_option maxRecDepth 100000 in
set_option maxHeartbeats 4000000 in
theorem room_any : ∀ (t : T) (Ae Ak : Option Addr) (ne nk ce ck : Nat) (left deep : Int) (w : World), 0 ≤ left → left ≤ 1000 → 0 ≤ deep → deep ≤ 1000 → LenT reachBytes t → RdT w w.heap.size t ⟨Ae, ne, ce⟩ ⟨Ak, nk, ck⟩ →
    Calls Try.prog 35 #[.agg #[.slice Ae ne ce, .slice Ak nk ck], .int .i64 left, .int .i64 deep] w fun e w' => ∃ r : Int, e = .returned (.int .i64 r) ∧ -1000000000000000 ≤ r ∧ r ≤ left ∧ (0 ≤ r → (nodes t : Int) + r = left) ∧ Below w.heap.size w w' := by
  intro t
  induction t using T.ind with
  | h es ks ih =>
    intro Ae Ak ne nk ce ck left deep w h0 h1 h2 h3 hl hr
    obtain ⟨hle, hlk⟩ := rd_lens hr
    have HR := Lib.hid hr
    have HLE := Lib.hid hle
    have HLK := Lib.hid hlk
    clear hle hlk hr
    have hle := hl.es
    have hlk := hl.ks
    rw [HLE.out] at hle
    rw [HLK.out] at hlk
    unfold reachBytes at hle hlk
    have IH := Lib.hid ih
    have HL := Lib.hid hl
    obtain ⟨d, rfl⟩ : ∃ m : Nat, deep = (m : Int) := ⟨deep.toNat, by omega⟩
    have HN : Hid (nodes (.mk es ks) = ne + nk + (ks.map fun k => nodes k.2).sum) := by unfold Hid; rw [nodes_mk, HLE.out, HLK.out]
    clear ih hl
    obtain ⟨g, hg⟩ : ∃ g, g = w.heap.size := ⟨_, rfl⟩
    have HK := Lib.hid (tree_box w Ae Ak ne nk ce ck)
    rw [← hg] at HK
    obtain ⟨W0, hW0⟩ : ∃ W, W = w.alloc (.cells #[.slice Ae ne ce, .slice Ak nk ck] 25) := ⟨_, rfl⟩
    rw [← hW0] at HK
    have HG := Lib.hid hg
    have HW0 := Lib.hid hW0
    have k0 := HK.out.c0
    have k1 := HK.out.c1
    clear hg hW0
    have hw1 : IntKind.i64.wrap (left - (ne : Int)) = left - ne := by rw [IntKind.wrap_i64]; omega
    have hw2 : IntKind.i64.wrap (left - (ne : Int) - (nk : Int)) = left - ne - nk := by rw [IntKind.wrap_i64]; omega
    go_enter Try.func35, Try.ntmps35
    go_wp2_with fail
    rw [← HG.out, ← HW0.out]
    go_wp2_with fail
    go_loopw [1, 20] (fun n i wr => ∃ (k : Nat) (x : Int), k ≤ nk ∧ i = .int .i64 k ∧ n = .int .i64 x ∧ -1000000000000000 ≤ x ∧ x ≤ left ∧ Hid (0 ≤ x → ((ne + nk + ksum (fun k => nodes k.2) ks k : Nat) : Int) + x = left) ∧ Hid (Kept [(⟨g, 0, none⟩, .slice Ae ne ce), (⟨g, 1, none⟩, .slice Ak nk ck)] w wr)) (fun _ i _ => nk - (intOf i).toNat)
    case atStart => exact ⟨0, left - ne - nk, by omega, rfl, rfl, by omega, by omega, fun _ => by rw [ksum_zero]; omega, HK.out⟩
    case round =>
      obtain ⟨k, x, hk, rfl, rfl, hx1, hx2, HX, HKW⟩ := hrel
      clear k0 k1
      have k0 := HKW.out.c0
      have k1 := HKW.out.c1
      by_cases hlt : k < nk
      · by_cases hx : x < 0
        · have f1 : decide (x < 0) = true := decide_eq_true hx
          go_wp2_with fail
          go_ret
          exact ⟨-1, rfl, by omega, by omega, fun h => by omega, HKW.out.below⟩
        have f1 : decide (x < 0) = false := decide_eq_false hx
        by_cases hd : d = 0
        · subst hd
          go_wp2_with fail
          go_ret
          exact ⟨-1, rfl, by omega, by omega, fun h => by omega, HKW.out.below⟩
        have f2 : ((d : Int) == 0) = false := by simpa using hd
        have hkl : k < ks.length := by rw [HLK.out]; exact hlt
        obtain ⟨b, o, rfl, hb, hc⟩ := rd_kid HR.out (by omega)
        obtain ⟨⟨Ae', ne', ce'⟩, ⟨Ak', nk', ck'⟩, c0, c1, c2, hkid⟩ := hc k hkl
        dsimp only at c0 c1 c2
        have c0 := (HKW.out.below.cell (p := ⟨b, o + k * 3, none⟩) hb).trans c0
        have c1 := (HKW.out.below.cell (p := ⟨b, o + k * 3 + 1, none⟩) hb).trans c1
        have c2 := (HKW.out.below.cell (p := ⟨b, o + k * 3 + 2, none⟩) hb).trans c2
        obtain ⟨key, hkey⟩ : ∃ key, key = (ks[k]).1 := ⟨_, rfl⟩
        rw [← hkey] at c0
        clear hc
        have hk1 := HKW.out
        have hrd1 := RdT.more hk1.below.size _ (RdT.below hkid hk1.below)
        have hs1 := ksum_succ (fun k => nodes k.2) hkl
        have hcall := IH.out _ (List.getElem_mem hkl) Ae' Ak' ne' nk' ce' ck' x ((d : Int) - 1) wr (by omega) (by omega) (by omega) (by omega) (HL.out.kid (List.getElem_mem hkl)) hrd1
        have HC := Lib.hid hcall
        have HS := Lib.hid hs1
        clear hrd1 hkey hk1 hcall hs1 hkid
        go_wp2_with fail
        refine HC.out.mono ?_
        rintro e w2 ⟨y, rfl, hy1, hy2, hy3, hb2⟩
        have HK2 := Lib.hid (HKW.out.later hb2)
        have HY := Lib.hid hy3
        clear hb2 hy3
        go_wp2_with fail
        go_roundw
        case rel =>
          refine ⟨k + 1, y, by omega, by go_num, rfl, by omega, by omega, fun h => ?_, HK2.out⟩
          have h1 := HY.out h
          have h2 := HX.out (by omega)
          rw [HS.out]
          omega
        case measure => simp [intOf]; omega
      · obtain rfl : k = nk := by omega
        go_wp2_with fail
        go_ret
        refine ⟨x, rfl, by omega, by omega, fun h => ?_, HKW.out.below⟩
        have h1 := HX.out h
        rw [HN.out, ← ksum_all _ HLK.out]
        exact h1
set_option maxRecDepth 100000 in
set_option maxHeartbeats 4000000 in
theorem small_any (t : T) (Ae Ak : Option Addr) (ne nk ce ck : Nat) (most : Nat) (w : World) (h1 : most ≤ 1000) (hl : LenT reachBytes t) (hr : RdT w w.heap.size t ⟨Ae, ne, ce⟩ ⟨Ak, nk, ck⟩) :
    Calls Try.prog 12 #[.agg #[.slice Ae ne ce, .slice Ak nk ck], .int .i64 most] w fun e w' => ∃ b : Bool, e = .returned (.bool b) ∧ (b = true → nodes t ≤ most) ∧ Below w.heap.size w w' := by
  have hb1 : Below w.heap.size w (w.alloc (.cells #[.slice Ae ne ce, .slice Ak nk ck] 25)) := Dt.box_below _ _ _
  have HC := Lib.hid (room_any t Ae Ak ne nk ce ck most 8 _ (by omega) (by omega) (by omega) (by omega) hl (RdT.more hb1.size _ (RdT.below hr hb1)))
  have HB := Lib.hid hb1
  clear hl hr hb1
  go_enter Try.func12, Try.ntmps12
  go_wp2_with fail
  refine HC.out.mono ?_
  rintro e w2 ⟨r, rfl, hr1, hr2, hr3, hb2⟩
  have HB2 := Lib.hid (HB.out.trans (hb2.mono HB.out.size))
  have HR3 := Lib.hid hr3
  clear hb2 hr3
  go_wp2_with fail
  go_ret
  refine ⟨_, rfl, fun h => ?_, HB2.out⟩
  have h2 : 0 ≤ r := by simpa using h
  have := HR3.out h2
  omega
end Tr
end Go.Proofs.Ytbfcbfadfnaebaa
