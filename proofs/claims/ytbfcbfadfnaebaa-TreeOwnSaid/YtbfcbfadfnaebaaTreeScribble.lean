/- Trees: written full; the document's. -/
import Derived.Test.YtbfcbfadfnaebaaTreeScr
import Derived.Test.YtbfcbfadfnaebaaTreeLevels
namespace Go.Proofs.Ytbfcbfadfnaebaa
open Go.ChangeShapes Go.WideShapes Go.ChangeAt Go.RowKit
namespace Tr
open Sp Rw
set_option maxRecDepth 100000 in
set_option maxHeartbeats 4000000 in
theorem scribble_any : ∀ (t : T) (Ae Ak : Option Addr) (ne nk ce ck : Nat) (lo : Nat) (w : World), lo ≤ w.heap.size → LenT reachBytes t → ScrT w lo t ⟨Ae, ne, ce⟩ ⟨Ak, nk, ck⟩ →
    Calls Try.prog 33 #[.agg #[.slice Ae ne ce, .slice Ak nk ck]] w fun e w' => e = .returned (.tuple #[]) ∧ Fr lo w w' := by
  intro t
  induction t using T.ind with
  | h es ks ih =>
    intro Ae Ak ne nk ce ck lo w hlo hle hs
    obtain ⟨h1, h2, h3, h4⟩ := (scrT_mk w lo es ks ⟨Ae, ne, ce⟩ ⟨Ak, nk, ck⟩).1 hs
    have HIH := Lib.hid ih
    have HS := Lib.hid hs
    have HLK := Lib.hid h3
    have hne := hle.es
    have hnk := hle.ks
    rw [h1] at hne
    rw [h3] at hnk
    unfold reachBytes at hne hnk
    dsimp only at hne hnk
    have HLE := Lib.hid hle
    clear ih hs h1 h2 h3 h4 hle
    obtain ⟨g, hg⟩ : ∃ g, g = w.heap.size := ⟨_, rfl⟩
    have HK := Lib.hid (tree_box w Ae Ak ne nk ce ck)
    rw [← hg] at HK
    obtain ⟨W0, hW0⟩ : ∃ W, W = w.alloc (.cells #[.slice Ae ne ce, .slice Ak nk ck] 25) := ⟨_, rfl⟩
    rw [← hW0] at HK
    have HG := Lib.hid hg
    have HW0 := Lib.hid hW0
    have k0 := HK.out.c0
    have k1 := HK.out.c1
    clear hg hW0
    have hwg : lo ≤ g := by have := HG.out; omega
    go_enter Try.func33, Try.ntmps33
    go_wp2_with fail
    rw [← HG.out, ← HW0.out]
    go_wp2_with fail
    go_loopw [7] (fun i wr => ∃ k : Nat, k ≤ ne ∧ i = .int .i64 k ∧ Hid (Fr lo w wr) ∧ Hid (wr.cell? ⟨g, 0, none⟩ = some (.slice Ae ne ce) ∧ wr.cell? ⟨g, 1, none⟩ = some (.slice Ak nk ck))) (fun i _ => ne - (intOf i).toNat)
    case atStart => exact ⟨0, by omega, rfl, Fr.of_below HK.out.below hlo, HK.out.c0, HK.out.c1⟩
    case round =>
      obtain ⟨k, hk, rfl, HF, HC⟩ := hrel
      clear k0 k1
      have k0 := HC.out.1
      have k1 := HC.out.2
      by_cases hlt : k < ne
      · obtain ⟨_, h2, _, _⟩ := (scrT_mk wr lo es ks ⟨Ae, ne, ce⟩ ⟨Ak, nk, ck⟩).1 (ScrT.fr HF.out _ HS.out)
        obtain ⟨b, o, rfl, q1, q2, q3, q4⟩ := h2 (by dsimp only; omega)
        obtain ⟨x0, x1, x2, x3, c0, c1, c2, c3⟩ := q4 k hlt
        have hbg : b ≠ g := fun e => by
          subst e
          obtain ⟨_, h20, _, _⟩ := (scrT_mk w lo es ks ⟨some ⟨b, o, none⟩, ne, ce⟩ ⟨Ak, nk, ck⟩).1 HS.out
          obtain ⟨b', o', e', _, q2', _⟩ := h20 (by dsimp only; omega)
          injection e' with e'
          injection e' with e1 e2
          have := HG.out
          omega
        have hbg2 : ¬ g = b := fun e => hbg e.symm
        have m0 := q3 (o + k * 4)
        have m1 := q3 (o + k * 4 + 1)
        have m2 := q3 (o + k * 4 + 2)
        have m3 := q3 (o + k * 4 + 3)
        obtain ⟨W2, hW2⟩ : ∃ W, W = (((wr.setCell ⟨b, o + k * 4, none⟩ (.int .i64 0)).setCell ⟨b, o + k * 4 + 1, none⟩ (.int .i64 0)).setCell ⟨b, o + k * 4 + 2, none⟩ (.string ⟨#[115, 99, 114, 105, 98, 98, 108, 101]⟩)).setCell ⟨b, o + k * 4 + 3, none⟩ (.int .i64 0) := ⟨_, rfl⟩
        have f1 : Fr lo wr W2 := by
          rw [hW2]
          refine (((Fr.set q1 m0 c0 (.inr (.inl ⟨_, _, rfl, rfl⟩))).trans (Fr.set (u := .int .i64 x1) q1 (by go_simp) (by go_simp) (.inr (.inl ⟨_, _, rfl, rfl⟩)))).trans (Fr.set (u := .string x2) q1 (by go_simp) (by go_simp) (.inr (.inr ⟨_, _, rfl, rfl⟩)))).trans (Fr.set (u := .int .i64 x3) q1 (by go_simp) (by go_simp) (.inr (.inl ⟨_, _, rfl, rfl⟩)))
        have HF2 := Lib.hid (HF.out.trans f1)
        have HC2 : Hid (W2.cell? ⟨g, 0, none⟩ = some (.slice (some ⟨b, o, none⟩) ne ce) ∧ W2.cell? ⟨g, 1, none⟩ = some (.slice Ak nk ck)) := by
          unfold Hid
          rw [hW2]
          exact ⟨by go_simp, by go_simp⟩
        have HW2 := Lib.hid hW2
        clear h2 q4 q3 f1 hW2
        go_wp2_with fail
        rw [← HW2.out]
        go_roundw
        case rel => exact ⟨k + 1, by omega, by go_num, HF2.out, HC2.out⟩
        case measure => simp [intOf]; omega
      · obtain rfl : k = ne := by omega
        go_wp2_with fail
        go_loopw [19] (fun i wr => ∃ j : Nat, j ≤ nk ∧ i = .int .i64 j ∧ Hid (Fr lo w wr) ∧ Hid (wr.cell? ⟨g, 0, none⟩ = some (.slice Ae k ce) ∧ wr.cell? ⟨g, 1, none⟩ = some (.slice Ak nk ck))) (fun i _ => nk - (intOf i).toNat)
        case atStart => exact ⟨0, by omega, rfl, HF.out, HC.out⟩
        case round =>
          obtain ⟨j, hj, rfl, HF, HC⟩ := hrel
          clear k0 k1
          have k0 := HC.out.1
          have k1 := HC.out.2
          by_cases hlt : j < nk
          · obtain ⟨_, _, _, h4⟩ := (scrT_mk wr lo es ks ⟨Ae, k, ce⟩ ⟨Ak, nk, ck⟩).1 (ScrT.fr HF.out _ HS.out)
            obtain ⟨b, o, rfl, q1, q2, q3, q4⟩ := h4 (by dsimp only; omega)
            have hkl : j < ks.length := by rw [HLK.out]; exact hlt
            obtain ⟨key, ⟨Ae', ne', ce'⟩, ⟨Ak', nk', ck'⟩, c0, c1, c2, hkid⟩ := q4 j hkl
            dsimp only at c0 c1 c2
            have hgw : g < wr.heap.size := World.block_lt_of_cell? wr _ k0
            have hcall := HIH.out _ (List.getElem_mem hkl) Ae' Ak' ne' nk' ce' ck' lo wr (by have := HF.out.size; omega) (HLE.out.kid (List.getElem_mem hkl)) hkid
            have HC1 := Lib.hid hcall
            have HCC := Lib.hid (And.intro c0 (And.intro q1 (And.intro q2 hgw)))
            have HQ3 := Lib.hid q3
            clear h4 q4 q3 hkid hcall
            go_wp2_with fail
            refine HC1.out.mono ?_
            rintro e w2 ⟨rfl, hf2⟩
            obtain ⟨_, d0, a0⟩ := hf2.cell _ _ _ HCC.out.2.2.1 HCC.out.1
            obtain ⟨y0, rfl⟩ := a0.str
            obtain ⟨_, g0, a1⟩ := hf2.cell _ _ _ HCC.out.2.2.2 HC.out.1
            obtain ⟨_, g1, a2⟩ := hf2.cell _ _ _ HCC.out.2.2.2 HC.out.2
            cases a1.slice
            cases a2.slice
            have m0 := (hf2.froz b (o + j * 3) HCC.out.2.2.1).trans (HQ3.out (o + j * 3))
            have hbg : b ≠ g := fun e => by
              subst e
              obtain ⟨_, _, _, h40⟩ := (scrT_mk w lo es ks ⟨Ae, k, ce⟩ ⟨some ⟨b, o, none⟩, nk, ck⟩).1 HS.out
              obtain ⟨b', o', e', _, q2', _⟩ := h40 (by dsimp only; omega)
              injection e' with e'
              injection e' with e1 e2
              have := HG.out
              omega
            have hbg2 : ¬ g = b := fun e => hbg e.symm
            obtain ⟨W3, hW3⟩ : ∃ W, W = w2.setCell ⟨b, o + j * 3, none⟩ (.string ⟨#[115, 99, 114, 105, 98, 98, 108, 101]⟩) := ⟨_, rfl⟩
            have f1 : Fr lo w2 W3 := by rw [hW3]; exact Fr.set HCC.out.2.1 m0 d0 (.inr (.inr ⟨_, _, rfl, rfl⟩))
            have HF2 := Lib.hid ((HF.out.trans hf2).trans f1)
            have HC2 : Hid (W3.cell? ⟨g, 0, none⟩ = some (.slice Ae k ce) ∧ W3.cell? ⟨g, 1, none⟩ = some (.slice (some ⟨b, o, none⟩) nk ck)) := by
              unfold Hid
              rw [hW3]
              exact ⟨by go_simp, by go_simp⟩
            have HW3 := Lib.hid hW3
            clear k0 k1 hf2 f1 hW3
            go_wp2_with fail
            rw [← HW3.out]
            go_roundw
            case rel => exact ⟨j + 1, by omega, by go_num, HF2.out, HC2.out⟩
            case measure => simp [intOf]; omega
          · obtain rfl : j = nk := by omega
            go_wp2_with fail
            go_end0
            exact ⟨rfl, HF.out⟩
end Tr
end Go.Proofs.Ytbfcbfadfnaebaa
