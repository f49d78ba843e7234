/- Trees: how many entries there are; how many levels; is there room for it. -/
import Derived.Test.YtbfcbfadfnaebaaTreeOne
namespace Go.Proofs.Ytbfcbfadfnaebaa
open Go.ChangeShapes Go.WideShapes Go.ChangeAt Go.RowKit
namespace Tr
open Sp Rw
/-- the box of a tree that is an argument -/
theorem tree_box (w : World) (Ae Ak : Option Addr) (ne nk ce ck : Nat) : Kept [(⟨w.heap.size, 0, none⟩, .slice Ae ne ce), (⟨w.heap.size, 1, none⟩, .slice Ak nk ck)] w (w.alloc (.cells #[.slice Ae ne ce, .slice Ak nk ck] 25)) :=
  (((Kept.nil w).alloc _).cons_of (by go_simp)).cons_of (by go_simp)
set_option maxRecDepth 100000 in
set_option maxHeartbeats 2000000 in
theorem size_any : ∀ (t : T) (Ae Ak : Option Addr) (ne nk ce ck : Nat) (w : World), nodes t ≤ 1000000 → RdT w w.heap.size t ⟨Ae, ne, ce⟩ ⟨Ak, nk, ck⟩ →
    Calls Try.prog 38 #[.agg #[.slice Ae ne ce, .slice Ak nk ck]] w fun e w' => e = .returned (.int .i64 (leaves t).length) ∧ Below w.heap.size w w' := by
  intro t
  induction t using T.ind with
  | h es ks ih =>
    intro Ae Ak ne nk ce ck w hn hr
    obtain ⟨hle, hlk⟩ := rd_lens hr
    have hnk : nk ≤ 1000000 := by have := nodes_es es ks; omega
    have IH := Lib.hid ih
    have HR := Lib.hid hr
    have HLE := Lib.hid hle
    have HLK := Lib.hid hlk
    have HN := Lib.hid hn
    obtain ⟨m, hm⟩ : ∃ m, m = (leaves (.mk es ks)).length := ⟨_, rfl⟩
    rw [← hm]
    have HM : Hid (m = ne + ksum (fun k => (leaves k.2).length) ks nk) := by unfold Hid; rw [hm, leaves_len, ksum_all _ hlk, hle]
    have hm6 : m ≤ 1000000 := by rw [hm]; exact Nat.le_trans (leaves_nodes _) hn
    obtain ⟨g, hg⟩ : ∃ g, g = w.heap.size := ⟨_, rfl⟩
    have HK := Lib.hid (tree_box w Ae Ak ne nk ce ck)
    rw [← hg] at HK
    obtain ⟨W0, hW0⟩ : ∃ W, W = w.alloc (.cells #[.slice Ae ne ce, .slice Ak nk ck] 25) := ⟨_, rfl⟩
    rw [← hW0] at HK
    have HG := Lib.hid hg
    have HW0 := Lib.hid hW0
    have k0 := HK.out.c0
    have k1 := HK.out.c1
    clear hr ih hle hlk hn hm hg hW0
    go_enter Try.func38, Try.ntmps38
    go_wp2_with fail
    rw [← HG.out, ← HW0.out]
    go_wp2_with fail
    go_loopw [3, 12] (fun n i wr => ∃ (k : Nat), k ≤ nk ∧ i = .int .i64 k ∧ n = .int .i64 ((ne + ksum (fun k => (leaves k.2).length) ks k : Nat) : Int) ∧ Hid (Kept [(⟨g, 0, none⟩, .slice Ae ne ce), (⟨g, 1, none⟩, .slice Ak nk ck)] w wr)) (fun _ i _ => nk - (intOf i).toNat)
    case atStart => exact ⟨0, by omega, rfl, by rw [ksum_zero]; rfl, HK.out⟩
    case round =>
      obtain ⟨k, hk, rfl, rfl, HKW⟩ := hrel
      clear k0 k1
      have k0 := HKW.out.c0
      have k1 := HKW.out.c1
      by_cases hlt : k < nk
      · have hkl : k < ks.length := by rw [HLK.out]; exact hlt
        obtain ⟨b, o, rfl, hb, hc⟩ := rd_kid HR.out (by omega)
        obtain ⟨⟨Ae', ne', ce'⟩, ⟨Ak', nk', ck'⟩, c0, c1, c2, hkid⟩ := hc k hkl
        dsimp only at c0 c1 c2
        have c0 := (HKW.out.below.cell (p := ⟨b, o + k * 3, none⟩) hb).trans c0
        have c1 := (HKW.out.below.cell (p := ⟨b, o + k * 3 + 1, none⟩) hb).trans c1
        have c2 := (HKW.out.below.cell (p := ⟨b, o + k * 3 + 2, none⟩) hb).trans c2
        obtain ⟨key, hkey⟩ : ∃ key, key = (ks[k]).1 := ⟨_, rfl⟩
        rw [← hkey] at c0
        obtain ⟨W1, hW1⟩ : ∃ W, W = wr.alloc (.cells #[.string key, .slice Ae' ne' ce', .slice Ak' nk' ck'] 56) := ⟨_, rfl⟩
        have hb1 : Below wr.heap.size wr W1 := by rw [hW1]; exact Dt.box_below _ _ _
        have hk1 := HKW.out.later hb1
        obtain ⟨q, hq⟩ : ∃ q, q = (leaves (ks[k]).2).length := ⟨_, rfl⟩
        have hs1 := ksum_succ (fun k => (leaves k.2).length) hkl
        have hs2 := Nat.le_trans (ksum_le (fun k => (leaves k.2).length) ks (k + 1)) (Nat.le_of_eq (ksum_all _ HLK.out).symm)
        have hm := HM.out
        rw [← hq] at hs1
        have HS := Lib.hid hs1
        have hwrap : IntKind.i64.wrap (((ne + ksum (fun k => (leaves k.2).length) ks k : Nat) : Int) + (q : Int)) = ((ne + ksum (fun k => (leaves k.2).length) ks (k + 1) : Nat) : Int) := by
          rw [IntKind.wrap_i64]; omega
        have hcall := IH.out _ (List.getElem_mem hkl) Ae' Ak' ne' nk' ce' ck' W1 (Nat.le_trans (nodes_kid (List.getElem_mem hkl)) HN.out) (RdT.more hk1.below.size _ (RdT.below hkid hk1.below))
        rw [← hq] at hcall
        have HC := Lib.hid hcall
        have HK1 := Lib.hid hk1
        have HW1 := Lib.hid hW1
        obtain ⟨S, hS⟩ : ∃ S, S = ne + ksum (fun k => (leaves k.2).length) ks k := ⟨_, rfl⟩
        obtain ⟨S', hS'⟩ : ∃ S, S = ne + ksum (fun k => (leaves k.2).length) ks (k + 1) := ⟨_, rfl⟩
        rw [← hS] at hwrap ⊢
        rw [← hS'] at hwrap
        have HS' := Lib.hid hS'
        clear hc hkid hkey hW1 hb1 hk1 hcall hq hs1 hs2 hm hS hS' HS
        go_wp2_with fail
        rw [← HW1.out]
        refine HC.out.mono ?_
        rintro e w2 ⟨rfl, hb2⟩
        have HK2 := Lib.hid (HK1.out.later hb2)
        clear hb2
        go_wp2_with fail
        go_roundw
        case rel => exact ⟨k + 1, by omega, by go_num, by rw [HS'.out], HK2.out⟩
        case measure => simp [intOf]; omega
      · obtain rfl : k = nk := by omega
        rw [← HM.out]
        go_wp2_with fail
        go_ret
        exact ⟨rfl, HKW.out.below⟩
end Tr
end Go.Proofs.Ytbfcbfadfnaebaa
