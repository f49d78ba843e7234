/- Trees: a copy; the document's. -/
import Derived.Test.YtbfcbfadfnaebaaTreeCopy
import Derived.Test.YtbfcbfadfnaebaaTreePush
namespace Go.Proofs.Ytbfcbfadfnaebaa
open Go.ChangeShapes Go.WideShapes Go.ChangeAt Go.RowKit
namespace Tr
open Sp Rw
theorem KidRow.set7 {w w7 : World} {base e n c : Nat} {A : Option Addr} {ks : List (ByteArray × T)} {kr : List (ByteArray × SV × SV)} {r j : Nat} {v : Value} (h : KidRow w base e A n c ks kr) (hr : r < base) (hw : w7 = w.setCell ⟨r, j, none⟩ v) : KidRow w7 base e A n c ks kr := by
  subst hw
  refine ⟨h.len, h.lenr, h.own.set_below (a := ⟨r, j, none⟩) hr v, fun i hi hi' => ⟨(h.kid i hi hi').1, ?_⟩⟩
  exact RdO.keep (by simp [World.setCell]) (fun b hb _ => Below.heap_setCell _ ⟨r, j, none⟩ _ b (fun e => by have : b = r := e; omega)) _ (h.kid i hi hi').2
set_option maxRecDepth 100000 in
set_option maxHeartbeats 4000000 in
theorem refclone_any : ∀ (t : T) (Ae Ak : Option Addr) (ne nk ce ck : Nat) (w : World), nodes t ≤ 100000 → RdT w w.heap.size t ⟨Ae, ne, ce⟩ ⟨Ak, nk, ck⟩ → Calls Try.prog 32 #[.agg #[.slice Ae ne ce, .slice Ak nk ck]] w (CopyIs t ne nk w) := by
  intro t
  induction t using T.ind with
  | h es ks ih =>
    intro Ae Ak ne nk ce ck w hn hr
    obtain ⟨hle, hlk⟩ := rd_lens hr
    have HR := Lib.hid hr
    have HLE := Lib.hid hle
    have HLK := Lib.hid hlk
    clear hle hlk hr
    have IH := Lib.hid ih
    have HN := Lib.hid hn
    have hne5 : ne ≤ 100000 := by have := nodes_es es ks; have := HLE.out; omega
    have hnk5 : nk ≤ 100000 := by have := nodes_es es ks; have := HLK.out; omega
    clear ih
    obtain ⟨g, hg⟩ : ∃ g, g = w.heap.size := ⟨_, rfl⟩
    have HK := Lib.hid (tree_box w Ae Ak ne nk ce ck)
    rw [← hg] at HK
    obtain ⟨W0, hW0⟩ : ∃ W, W = w.alloc (.cells #[.slice Ae ne ce, .slice Ak nk ck] 25) := ⟨_, rfl⟩
    rw [← hW0] at HK
    have HG := Lib.hid hg
    have HW0 := Lib.hid hW0
    have k0 := HK.out.c0
    have k1 := HK.out.c1
    clear hg hW0
    obtain ⟨q, hq⟩ : ∃ q, q = W0.heap.size := ⟨_, rfl⟩
    obtain ⟨W1, hW1⟩ : ∃ W, W = W0.alloc (.cells #[.slice none 0 0, .slice none 0 0] 25) := ⟨_, rfl⟩
    have hb1 : Below W0.heap.size W0 W1 := by rw [hW1]; exact Dt.box_below _ _ _
    have q0 : W1.cell? ⟨q, 0, none⟩ = some (.slice none 0 0) := by rw [hW1, hq]; go_simp
    have q1 : W1.cell? ⟨q, 1, none⟩ = some (.slice none 0 0) := by rw [hW1, hq]; go_simp
    have HFQ : Hid (Free q W1) := ⟨by rw [hW1, hq]; simp, fun j => by rw [hW1, hq]; go_simp⟩
    have HFG : Hid (Free g W1) := (show Free g W0 from ⟨World.block_lt_of_cell? W0 _ HK.out.c0, fun j => by rw [HW0.out, HG.out]; go_simp⟩).later hb1
    have HKB := Lib.hid (((HK.out.later hb1).cons_of q1).cons_of q0)
    have HQ : Hid (q = g + 1) := by unfold Hid; rw [hq, HW0.out, HG.out]; simp
    have hgW : g < W0.heap.size := World.block_lt_of_cell? W0 _ HK.out.c0
    have hgq : g ≠ q := by omega
    have hgq2 : ¬ q = g := by omega
    have hwg : w.heap.size ≤ g := by have := HG.out; omega
    have hwq : w.heap.size ≤ q := by omega
    have HW1 := Lib.hid hW1
    have HBq : Hid (Below w.heap.size w W1) := HKB.out.below
    clear hq hW1 hb1 q0 q1 k0 k1
    obtain ⟨r, hr⟩ : ∃ r, r = W1.heap.size := ⟨_, rfl⟩
    obtain ⟨W2, hW2⟩ : ∃ W, W = W1.alloc (.cells #[.slice none 0 0, .slice none 0 0] 25) := ⟨_, rfl⟩
    have hb1 : Below W1.heap.size W1 W2 := by rw [hW2]; exact Dt.box_below _ _ _
    have r0 : W2.cell? ⟨r, 0, none⟩ = some (.slice none 0 0) := by rw [hW2, hr]; go_simp
    have r1 : W2.cell? ⟨r, 1, none⟩ = some (.slice none 0 0) := by rw [hW2, hr]; go_simp
    have HR2 : Hid (r = g + 2) := by unfold Hid; rw [hr, HW1.out, HW0.out, HG.out]; simp
    have hs2 : W2.heap.size = r + 1 := by rw [hW2, hr]; simp
    have HK2 := Lib.hid (((HKB.out.later hb1).cons_of r1).cons_of r0)
    have HFQ2 := Lib.hid (HFQ.out.later hb1)
    have HFR2 : Hid (Free r W2) := ⟨by rw [hW2, hr]; simp, fun j => by rw [hW2, hr]; go_simp⟩
    have HW2 := Lib.hid hW2
    clear hr hW2 hb1 r0 r1
    have s0 := HK2.out.c0
    have s1 := HK2.out.c1
    have s2 := HK2.out.c2
    have s3 := HK2.out.c3
    have s4 := HK2.out.c4
    have s5 := HK2.out.c5
    have HR3 : Hid (r = q + 1) := by unfold Hid; rw [HR2.out, HQ.out]
    have hqr : q ≠ r := by have := HR3.out; omega
    have hrq : ¬ r = q := by omega
    have hgr : g ≠ r := by have := HR2.out; omega
    have hrg : ¬ r = g := by omega
    -- the entries, appended to nothing
    have hre : Rd W2 W2.heap.size 4 Ae ne ce (entsC es) := by
      have := HR.out
      rw [rdT_mk] at this
      exact (this.2.1.below HK2.out.below).more HK2.out.below.size
    obtain ⟨i0, hi0, hz0, hz1, hz2⟩ := info_of infoE
    obtain ⟨v', w3, r1, r2, r3, _⟩ := run_app (P := Try.prog) W2 (r + 1) 22 22 67 i0 _ 4 40 Try.underlying22 hi0 hz0 hz1 hz2 rfl (by omega) (v := .slice none 0 0) (n := 0) (xs := []) (World.ownsRow_nil _ _ _ _) hre (by omega) (by omega) (by omega)
    rw [List.nil_append, Nat.zero_add] at r2
    obtain ⟨A3, c3, rfl, ho⟩ := Own.of_row r2 (fun u hu => hre.one u hu)
    have hb3 : Below W2.heap.size W2 w3 := by rw [hs2]; exact (Below.refl _ W2).grown r3 (by omega) (fun k hk => by simp [Value.ownBlock] at hk)
    have HK3 := HK2.out.later hb3
    have HFR3 := HFR2.out.later hb3
    have HFQ3 := HFQ2.out.later hb3
    have t0 := HK3.c0
    have t1 := HK3.c1
    have t2 := HK3.c2
    have t3 := HK3.c3
    have t4 := HK3.c4
    have t5 := HK3.c5
    have n0 := HFR3.2 0
    obtain ⟨w4, hw4⟩ : ∃ W, W = w3.setCell ⟨r, 0, none⟩ (.slice A3 ne c3) := ⟨_, rfl⟩
    have hb4 : Below w.heap.size w w4 := by rw [hw4]; exact HK3.below.setCell (p := ⟨r, 0, none⟩) (by have := HR2.out; have := HG.out; show w.heap.size ≤ r; omega) _
    have y0 : w4.cell? ⟨r, 0, none⟩ = some (.slice A3 ne c3) := by rw [hw4]; go_simp
    have y1 : w4.cell? ⟨r, 1, none⟩ = some (.slice none 0 0) := by rw [hw4]; go_simp
    have y2 : w4.cell? ⟨q, 0, none⟩ = some (.slice none 0 0) := by rw [hw4]; go_simp
    have y3 : w4.cell? ⟨q, 1, none⟩ = some (.slice none 0 0) := by rw [hw4]; go_simp
    have y4 : w4.cell? ⟨g, 0, none⟩ = some (.slice Ae ne ce) := by rw [hw4]; go_simp
    have y5 : w4.cell? ⟨g, 1, none⟩ = some (.slice Ak nk ck) := by rw [hw4]; go_simp
    have HO4 : Hid (RO w4 (fun b => r + 1 ≤ b) 4 A3 ne c3 (entsC es)) := by
      unfold Hid
      rw [hw4]
      exact ((RO.of_own ho).mono (fun b hb _ => hb.1)).keep (by simp [World.setCell]) (fun b hb _ => Below.heap_setCell _ ⟨r, 0, none⟩ _ b (fun e => by have : b = r := e; omega))
    have hs4 : r + 1 ≤ w4.heap.size := by rw [hw4]; have := r3.size; simp [World.setCell]; omega
    have HFR4 : Hid (Free r w4) := by unfold Hid; rw [hw4]; exact HFR3.set _ _
    have HFQ4 : Hid (Free q w4) := by unfold Hid; rw [hw4]; exact HFQ3.set _ _
    have HB4 := Lib.hid hb4
    have HRUN := Lib.hid r1
    have HW4 := Lib.hid hw4
    have HY := Lib.hid (And.intro y0 (And.intro y1 (And.intro y2 (And.intro y3 (And.intro y4 y5)))))
    clear hre r1 r2 r3 ho hb3 HK3 HFR3 HFQ3 hw4 hb4 y0 y1 y2 y3 y4 y5
    go_enter Try.func32, Try.ntmps32
    go_wp2_with (at_builtin; rw [← HG.out, ← HW0.out, ← HQ.out, ← HW1.out, ← HR3.out, ← HW2.out]; refine Lib.wpList_append_run _ rfl _ _ _ _ rfl _ _ rfl rfl _ _ HRUN.out ?_)
    rw [← HW4.out]
    go_loopw [14] (fun i wr => ∃ (k : Nat) (Ax : Option Addr) (cx : Nat) (kr : List (ByteArray × SV × SV)), k ≤ nk ∧ i = .int .i64 k ∧ Hid (KidRow wr (r + 1) 56 Ax k cx (ks.take k) kr) ∧ Hid (RO wr (fun b => r + 1 ≤ b ∧ (Value.slice Ax k cx).ownBlock ≠ some b) 4 A3 ne c3 (entsC es)) ∧ Hid (wr.cell? ⟨r, 0, none⟩ = some (.slice A3 ne c3) ∧ wr.cell? ⟨r, 1, none⟩ = some (.slice Ax k cx) ∧ wr.cell? ⟨q, 0, none⟩ = some (.slice none 0 0) ∧ wr.cell? ⟨q, 1, none⟩ = some (.slice none 0 0) ∧ wr.cell? ⟨g, 0, none⟩ = some (.slice Ae ne ce) ∧ wr.cell? ⟨g, 1, none⟩ = some (.slice Ak nk ck)) ∧ Hid (Free r wr) ∧ Hid (Free q wr) ∧ Hid (r + 1 ≤ wr.heap.size) ∧ Hid (Below w.heap.size w wr)) (fun i _ => nk - (intOf i).toNat)
    case atStart => exact ⟨0, none, 0, [], by omega, rfl, KidRow.nil _ _ _, HO4.out.mono (fun b hb _ => ⟨hb, by simp [Value.ownBlock]⟩), HY.out, HFR4.out, HFQ4.out, hs4, HB4.out⟩
    case round =>
      obtain ⟨k, Ax, cx, kr, hk, rfl, HKR, HRO, HCC, HFR, HFQ, HSZ, HB⟩ := hrel
      clear t0 t1 t2 t3 t4 t5 s0 s1 s2 s3 s4 s5 n0
      have s0 := HCC.out.2.1
      have s1 := HCC.out.2.2.2.2.2
      by_cases hlt : k < nk
      · have hkl : k < ks.length := by rw [HLK.out]; exact hlt
        obtain ⟨b, o, rfl, hb, hc⟩ := rd_kid HR.out (by omega)
        obtain ⟨⟨Ae', ne', ce'⟩, ⟨Ak', nk', ck'⟩, c0, c1, c2, hkid⟩ := hc k hkl
        dsimp only at c0 c1 c2
        have c0 := (HB.out.cell (p := ⟨b, o + k * 3, none⟩) hb).trans c0
        have c1 := (HB.out.cell (p := ⟨b, o + k * 3 + 1, none⟩) hb).trans c1
        have c2 := (HB.out.cell (p := ⟨b, o + k * 3 + 2, none⟩) hb).trans c2
        obtain ⟨key, hkey⟩ : ∃ key, key = (ks[k]).1 := ⟨_, rfl⟩
        rw [← hkey] at c0
        have HKEY : Hid (ks.take (k + 1) = ks.take k ++ [(key, (ks[k]).2)]) := by unfold Hid; rw [hkey, List.take_succ_eq_append_getElem hkl]
        have hrd := RdT.more (w := wr.drew) HB.out.drew.size _ (RdT.below hkid HB.out.drew)
        have HCALL := Lib.hid (IH.out _ (List.getElem_mem hkl) Ae' Ak' ne' nk' ce' ck' wr.drew (Nat.le_trans (nodes_kid (List.getElem_mem hkl)) HN.out) hrd)
        have hwr : w.heap.size ≤ r := by have := HR2.out; have := HG.out; omega
        have hgr2 : g ≤ r := by have := HR2.out; omega
        clear hc hkey hrd hkid
        go_wp2_with fail
        refine wp_region_held_drew (S := fun W => W.cell? ⟨g, 1, none⟩ = some (.slice (some ⟨b, o, none⟩) nk ck) ∧ W.cell? ⟨b, o + k * 3, none⟩ = some (.string key) ∧ W.cell? ⟨b, o + k * 3 + 1, none⟩ = some (.slice Ae' ne' ce') ∧ W.cell? ⟨b, o + k * 3 + 2, none⟩ = some (.slice Ak' nk' ck')) (by kernel_rfl) (by go_keep) (fun hHeld => ?_)
        refine wpAnyH_take (i := 0) (oi := ⟨some 17, _, _, _, _, _⟩) (v := ?_) rfl (by kernel_rfl) (by kernel_rfl) (by kernel_rfl) (fun _ _ _ h => h) (Or.inl ⟨by kernel_rfl, ?_⟩) (by assumption) ?_
        rotate_left
        (intro wz hSw; (try dsimp only at hSw); go_simp; try with_reducible rfl)
        try simp only [Act.put, List.setIfInBounds_toArray, List.set_cons_zero, List.set_cons_succ]
        refine wpAnyH_take (i := 2) (oi := ⟨some 19, _, _, _, _, _⟩) (v := ?_) rfl (by kernel_rfl) (by kernel_rfl) (by kernel_rfl) (fun _ _ _ h => h) (Or.inl ⟨by kernel_rfl, ?_⟩) (by assumption) ?_
        rotate_left
        (intro wz hSw; (try dsimp only at hSw); go_simp; try with_reducible rfl)
        try simp only [Act.put, List.setIfInBounds_toArray, List.set_cons_zero, List.set_cons_succ]
        refine wpAnyH_take (i := 3) (oi := ⟨some 20, _, _, _, _, _⟩) (v := ?_) rfl (by kernel_rfl) (by kernel_rfl) (by kernel_rfl) (fun _ _ _ h => h) (Or.inl ⟨by kernel_rfl, ?_⟩) (by assumption) ?_
        rotate_left
        (intro wz hSw; (try dsimp only at hSw); go_simp; try with_reducible rfl)
        try simp only [Act.put, List.setIfInBounds_toArray, List.set_cons_zero, List.set_cons_succ]
        refine wpAnyH_take (i := 4) (oi := ⟨some 21, _, _, _, _, _⟩) (v := ?_) rfl (by kernel_rfl) (by kernel_rfl) (by kernel_rfl) (fun _ _ _ h => h) (Or.inl ⟨by kernel_rfl, ?_⟩) (by assumption) ?_
        rotate_left
        (intro wz hSw; (try dsimp only at hSw); go_simp; try with_reducible rfl)
        try simp only [Act.put, List.setIfInBounds_toArray, List.set_cons_zero, List.set_cons_succ]
        refine wpAnyH_take (i := 5) (oi := ⟨some 22, _, _, _, _, _⟩) (v := ?_) rfl (by kernel_rfl) (by kernel_rfl) (by kernel_rfl) (fun _ _ _ h => h) (Or.inl ⟨by kernel_rfl, ?_⟩) (by assumption) ?_
        rotate_left
        (intro wz hSw; (try dsimp only at hSw); go_simp; try with_reducible rfl)
        try simp only [Act.put, List.setIfInBounds_toArray, List.set_cons_zero, List.set_cons_succ]
        refine wpAnyH_take (i := 6) (oi := ⟨some 23, _, _, _, _, _⟩) (v := ?_) rfl (by kernel_rfl) (by kernel_rfl) (by kernel_rfl) (fun _ _ _ h => h) (Or.inl ⟨by kernel_rfl, ?_⟩) (by assumption) ?_
        rotate_left
        (intro wz hSw; (try dsimp only at hSw); go_simp; try with_reducible rfl)
        try simp only [Act.put, List.setIfInBounds_toArray, List.set_cons_zero, List.set_cons_succ]
        refine wpAnyH_take (i := 7) (oi := ⟨some 24, _, _, _, _, _⟩) (v := ?_) rfl (by kernel_rfl) (by kernel_rfl) (by kernel_rfl) (fun _ _ _ h => h) (Or.inl ⟨by kernel_rfl, ?_⟩) (by assumption) ?_
        rotate_left
        (intro wz hSw; (try dsimp only at hSw); go_simp; try with_reducible rfl)
        try simp only [Act.put, List.setIfInBounds_toArray, List.set_cons_zero, List.set_cons_succ]
        refine wpAnyH_take (i := 8) (oi := ⟨some 25, _, _, _, _, _⟩) (v := ?_) rfl (by kernel_rfl) (by kernel_rfl) (by kernel_rfl) (fun _ _ _ h => h) (Or.inl ⟨by kernel_rfl, ?_⟩) (by assumption) ?_
        rotate_left
        (intro wz hSw; (try dsimp only at hSw); go_simp; try with_reducible rfl)
        try simp only [Act.put, List.setIfInBounds_toArray, List.set_cons_zero, List.set_cons_succ]
        refine wpAnyH_take (i := 9) (oi := ⟨some 26, _, _, _, _, _⟩) (v := ?_) rfl (by kernel_rfl) (by kernel_rfl) (by kernel_rfl) (fun _ _ _ h => h) (Or.inl ⟨by kernel_rfl, ?_⟩) (by assumption) ?_
        rotate_left
        (intro wz hSw; (try dsimp only at hSw); go_simp; try with_reducible rfl)
        try simp only [Act.put, List.setIfInBounds_toArray, List.set_cons_zero, List.set_cons_succ]
        refine wpAnyH_take (i := 10) (oi := ⟨some 27, _, _, _, _, _⟩) (v := ?_) rfl (by kernel_rfl) (by kernel_rfl) (by kernel_rfl) (fun _ _ _ h => h) (Or.inl ⟨by kernel_rfl, ?_⟩) (by assumption) ?_
        rotate_left
        (intro wz hSw; (try dsimp only at hSw); go_simp; try with_reducible rfl)
        try simp only [Act.put, List.setIfInBounds_toArray, List.set_cons_zero, List.set_cons_succ]
        refine wpAnyH_take (i := 11) (oi := ⟨some 28, _, _, _, _, _⟩) (v := ?_) rfl (by kernel_rfl) (by kernel_rfl) (by kernel_rfl) (fun _ _ _ h => h) (Or.inl ⟨by kernel_rfl, ?_⟩) (by assumption) ?_
        rotate_left
        (intro wz hSw; (try dsimp only at hSw); go_simp; try with_reducible rfl)
        try simp only [Act.put, List.setIfInBounds_toArray, List.set_cons_zero, List.set_cons_succ]
        refine wpAnyH_take (i := 12) (oi := ⟨some 29, _, _, _, _, _⟩) (v := ?_) rfl (by kernel_rfl) (by kernel_rfl) (by kernel_rfl) (fun _ _ _ h => h) (Or.inl ⟨by kernel_rfl, ?_⟩) (by assumption) ?_
        rotate_left
        (intro wz hSw; (try dsimp only at hSw); go_simp; try with_reducible rfl)
        try simp only [Act.put, List.setIfInBounds_toArray, List.set_cons_zero, List.set_cons_succ]
        refine wpAnyH_take (i := 13) (oi := ⟨some 30, _, _, _, _, _⟩) (v := ?_) rfl (by kernel_rfl) (by kernel_rfl) (by kernel_rfl) (fun _ _ _ h => h) (Or.inl ⟨by kernel_rfl, ?_⟩) (by assumption) ?_
        rotate_left
        (intro wz hSw; (try dsimp only at hSw); go_simp; try with_reducible rfl)
        try simp only [Act.put, List.setIfInBounds_toArray, List.set_cons_zero, List.set_cons_succ]
        refine wpAnyH_ready (rs := [1, 14]) (by kernel_rfl) (by simp) ?_
        refine AllReadyH.cons (o := ⟨some 18, _, _, _, _, _⟩) rfl (fun K hK => ?_) (AllReadyH.cons (o := ⟨some 31, _, _, _, _, _⟩) rfl (fun K hK => ?_) (AllReadyH.nil))
        · go_simp
          refine hK.out _ _ ?_ (fun hHeld2 => ?_)
          · exact hHeld
          clear hK K hHeld
          have hHeld := hHeld2
          clear hHeld2
          try simp only [Act.put, List.setIfInBounds_toArray, List.set_cons_zero, List.set_cons_succ]
          refine wpAnyH_ready (rs := [14]) (by kernel_rfl) (by simp) ?_
          refine AllReadyH.cons (o := ⟨some 31, _, _, _, _, _⟩) rfl (fun K hK => ?_) AllReadyH.nil
          go_simp
          (go_at_call 32; refine HCALL.out.mono ?_)
          rintro e w5 ⟨Ae5, ce5, Ak5, ck5, rfl, hro5, hb5⟩
          have hb5' : Below wr.heap.size wr w5 := ((Below.refl wr.heap.size wr).drew).trans hb5
          have HKR5 := HKR.out.later hb5'
          have hRO5 := HRO.out.keep hb5'.size (fun b _ hlt => hb5'.block b hlt)
          have hu : RdO w5 (fun b => r + 1 ≤ b ∧ (Value.slice Ax k cx).ownBlock ≠ some b) (ks[k]).2 ⟨Ae5, ne', ce5⟩ ⟨Ak5, nk', ck5⟩ := RdO.mono (fun b hb _ => ⟨Nat.le_trans HSZ.out hb, fun e => by have h1 := (HKR.out.own.row.lt b e).2; have h2 : wr.drew.heap.size ≤ b := hb; have h3 : wr.drew.heap.size = wr.heap.size := rfl; omega⟩) _ hro5
          obtain ⟨A6, c6, w6, r1, HKR6, hb6, hblk⟩ := KidRow.push2 (k := (key, ⟨Ae5, ne', ce5⟩, ⟨Ak5, nk', ck5⟩)) Try.underlying23 infoK rfl (by omega) HKR5 w5.heap.size rfl (Nat.le_trans HSZ.out hb5'.size) hu (by omega) #[.string key, .slice Ae5 ne' ce5, .slice Ak5 nk' ck5] rfl
          have hb6s := hb6.size
          have hbw5 : b < w5.heap.size := Nat.lt_of_lt_of_le (World.block_lt_of_cell? wr _ c0) hb5'.size
          have hrw5 : r < w5.heap.size := Nat.lt_of_lt_of_le HFR.out.1 hb5'.size
          have hqw5 : q < w5.heap.size := Nat.lt_of_lt_of_le HFQ.out.1 hb5'.size
          have hgw5 : g < w5.heap.size := Nat.lt_of_lt_of_le (World.block_lt_of_cell? wr _ s1) hb5'.size
          have hob : ∀ x, x ≤ r → (Value.slice Ax k cx).ownBlock ≠ some x := fun x hx e => by have h1 := (HKR.out.own.row.lt x e).1; omega
          have hbr : b < r := by omega
          have t0 := (hb5'.cell (p := ⟨r, 1, none⟩) HFR.out.1).trans s0
          have t1 := (hb5'.cell (p := ⟨g, 1, none⟩) (World.block_lt_of_cell? wr _ s1)).trans s1
          have t2 := (hb5'.cell (p := ⟨b, o + k * 3, none⟩) (World.block_lt_of_cell? wr _ c0)).trans c0
          have t3 := (hb5'.cell (p := ⟨b, o + k * 3 + 1, none⟩) (World.block_lt_of_cell? wr _ c1)).trans c1
          have t4 := (hb5'.cell (p := ⟨b, o + k * 3 + 2, none⟩) (World.block_lt_of_cell? wr _ c2)).trans c2
          have K6 : ∀ x, x ≤ r → x < w5.heap.size → ∀ j, w6.cell? ⟨x, j, none⟩ = w5.cell? ⟨x, j, none⟩ := fun x hx hl j => World.cell?_of_block (a := ⟨x, j, none⟩) (hblk x (hob x hx) hl).1
          have F6 : ∀ x, x ≤ r → x < w5.heap.size → ∀ j, w6.frozen? ⟨x, j, none⟩ = w5.frozen? ⟨x, j, none⟩ := fun x hx hl j => World.frozen?_of_block (a := ⟨x, j, none⟩) (hblk x (hob x hx) hl).1
          have u0 := (K6 r (Nat.le_refl _) hrw5 1).trans t0
          have u1 := (K6 g (by omega) hgw5 1).trans t1
          have u2 := (K6 b (by omega) hbw5 (o + k * 3)).trans t2
          have u3 := (K6 b (by omega) hbw5 (o + k * 3 + 1)).trans t3
          have u4 := (K6 b (by omega) hbw5 (o + k * 3 + 2)).trans t4
          have mr := (F6 r (Nat.le_refl _) hrw5 1).trans ((HFR.out.later hb5').2 1)
          have hbr2 : ¬ b = r := by omega
          have hrb2 : ¬ r = b := by omega
          obtain ⟨w7, hw7⟩ : ∃ W, W = w6.setCell ⟨r, 1, none⟩ (.slice A6 (k + 1) c6) := ⟨_, rfl⟩
          have hk7 : ∀ x, x ≠ r → w7.heap[x]? = w6.heap[x]? := fun x hx => by rw [hw7]; exact Below.heap_setCell _ ⟨r, 1, none⟩ _ x (fun e => hx e)
          have v0 : w7.cell? ⟨r, 1, none⟩ = some (.slice A6 (k + 1) c6) := by rw [hw7]; go_simp
          have v1 : w7.cell? ⟨r, 0, none⟩ = some (.slice A3 ne c3) := by
            rw [hw7, World.cell?_setCell_other w6 ⟨r, 1, none⟩ ⟨r, 0, none⟩ _ (fun e => by injection e with _ e; cases e), K6 r (Nat.le_refl _) hrw5 0]
            exact (hb5'.cell (p := ⟨r, 0, none⟩) HFR.out.1).trans HCC.out.1
          have v2 : ∀ x j, x ≠ r → x ≤ r → x < wr.heap.size → w7.cell? ⟨x, j, none⟩ = wr.cell? ⟨x, j, none⟩ := fun x j hx hl hlt => ((World.cell?_of_block (a := ⟨x, j, none⟩) (hk7 x hx)).trans (K6 x hl (Nat.lt_of_lt_of_le hlt hb5'.size) j)).trans (hb5'.cell (p := ⟨x, j, none⟩) hlt)
          have HCC7 : Hid (w7.cell? ⟨r, 0, none⟩ = some (.slice A3 ne c3) ∧ w7.cell? ⟨r, 1, none⟩ = some (.slice A6 (k + 1) c6) ∧ w7.cell? ⟨q, 0, none⟩ = some (.slice none 0 0) ∧ w7.cell? ⟨q, 1, none⟩ = some (.slice none 0 0) ∧ w7.cell? ⟨g, 0, none⟩ = some (.slice Ae ne ce) ∧ w7.cell? ⟨g, 1, none⟩ = some (.slice (some ⟨b, o, none⟩) nk ck)) :=
            ⟨v1, v0, (v2 q 0 hqr (by have := HR3.out; omega) HFQ.out.1).trans HCC.out.2.2.1, (v2 q 1 hqr (by have := HR3.out; omega) HFQ.out.1).trans HCC.out.2.2.2.1, (v2 g 0 hgr (by have := HR2.out; omega) (World.block_lt_of_cell? wr _ s1)).trans HCC.out.2.2.2.2.1, (v2 g 1 hgr (by have := HR2.out; omega) (World.block_lt_of_cell? wr _ s1)).trans HCC.out.2.2.2.2.2⟩
          have hsz7 : w7.heap.size = w6.heap.size := by rw [hw7]; simp [World.setCell]
          have hsz6 : w5.heap.size ≤ w6.heap.size := by
            exact hb6s
          have HKR7 : Hid (KidRow w7 (r + 1) 56 A6 (k + 1) c6 (ks.take (k + 1)) (kr ++ [(key, ⟨Ae5, ne', ce5⟩, ⟨Ak5, nk', ck5⟩)])) := by
            unfold Hid
            rw [HKEY.out]
            exact HKR6.set7 (Nat.lt_succ_self r) hw7
          have HRO7 : Hid (RO w7 (fun b => r + 1 ≤ b ∧ (Value.slice A6 (k + 1) c6).ownBlock ≠ some b) 4 A3 ne c3 (entsC es)) :=
            ((hRO5.mono (ok' := fun b => r + 1 ≤ b ∧ (Value.slice Ax k cx).ownBlock ≠ some b ∧ (Value.slice A6 (k + 1) c6).ownBlock ≠ some b) (fun b hb hlt => ⟨hb.1, hb.2, (hblk b hb.2 hlt).2⟩)).keep (by omega) (fun b hb hlt => (hk7 b (by omega)).trans (hblk b hb.2.1 hlt).1)).mono (fun b hb _ => ⟨hb.1, hb.2.2⟩)
          have HFR7 : Hid (Free r w7) := by
            unfold Hid
            refine ⟨by omega, fun j => ?_⟩
            rw [hw7, World.frozen?_setCell]
            exact (F6 r (Nat.le_refl _) hrw5 j).trans ((HFR.out.later hb5').2 j)
          have HFQ7 : Hid (Free q w7) := by
            unfold Hid
            refine ⟨by omega, fun j => ?_⟩
            rw [hw7, World.frozen?_setCell]
            exact (F6 q (by have := HR3.out; omega) hqw5 j).trans ((HFQ.out.later hb5').2 j)
          have HSZ7 : Hid (r + 1 ≤ w7.heap.size) := by have := HSZ.out; have := hb5'.size; unfold Hid; omega
          have HB7 : Hid (Below w.heap.size w w7) := by
            unfold Hid
            rw [hw7]
            exact ((HB.out.trans (hb5'.mono HB.out.size)).trans (hb6.mono (by omega))).setCell (p := ⟨r, 1, none⟩) hwr _
          have Hrun := Lib.hid r1
          have HW7 := Lib.hid hw7
          clear hro5 hb5 hb5' HKR5 hRO5 hu r1 HKR6 hb6 hblk hob K6 F6 hw7 hk7 v0 v1 v2 hsz7 hsz6
          refine hK.out _ _ ?_ (fun hHeld2 => ?_)
          · exact ⟨t1, t2, t3, t4⟩
          clear hK K hHeld
          have hHeld := hHeld2
          clear hHeld2
          try simp only [Act.put, List.setIfInBounds_toArray, List.set_cons_zero, List.set_cons_succ]
          refine wpAnyH_take (i := 15) (oi := ⟨some 32, _, _, _, _, _⟩) (v := ?_) rfl (by kernel_rfl) (by kernel_rfl) (by kernel_rfl) (fun _ _ _ h => h) (Or.inl ⟨by kernel_rfl, ?_⟩) (by assumption) ?_
          rotate_left
          (intro wz hSw; (try dsimp only at hSw); go_simp; try with_reducible rfl)
          try simp only [Act.put, List.setIfInBounds_toArray, List.set_cons_zero, List.set_cons_succ]
          refine wpAnyH_ready (rs := [16]) (by kernel_rfl) (by simp) ?_
          refine AllReadyH.cons (o := ⟨some 33, _, _, _, _, _⟩) rfl (fun K hK => ?_) AllReadyH.nil
          go_simp
          refine hK.out _ _ ?_ (fun hHeld2 => ?_)
          · (try dsimp only); go_keep
          clear hK K hHeld
          have hHeld := hHeld2
          clear hHeld2
          try simp only [Act.put, List.setIfInBounds_toArray, List.set_cons_zero, List.set_cons_succ]
          refine wpAnyH_ready (rs := [17]) (by kernel_rfl) (by simp) ?_
          refine AllReadyH.cons (o := ⟨some 34, _, _, _, _, _⟩) rfl (fun K hK => ?_) AllReadyH.nil
          refine upon_append _ _ _ rfl rfl rfl Hrun.out ?_
          refine hK.out _ _ ?_ (fun hHeld2 => ?_)
          · exact ⟨u1, u2, u3, u4⟩
          clear hK K hHeld
          have hHeld := hHeld2
          clear hHeld2
          try simp only [Act.put, List.setIfInBounds_toArray, List.set_cons_zero, List.set_cons_succ]
          refine wpAnyH_take (i := 18) (oi := ⟨some 35, _, _, _, _, _⟩) (v := ?_) rfl (by kernel_rfl) (by kernel_rfl) (by kernel_rfl) (fun _ _ _ h => h) (Or.inl ⟨by kernel_rfl, ?_⟩) (by assumption) ?_
          rotate_left
          (intro wz hSw; (try dsimp only at hSw); go_simp; try with_reducible rfl)
          try simp only [Act.put, List.setIfInBounds_toArray, List.set_cons_zero, List.set_cons_succ]
          refine wpAnyH_ready (rs := [19]) (by kernel_rfl) (by simp) ?_
          refine AllReadyH.cons (o := ⟨none, _, _, _, _, _⟩) rfl (fun K hK => ?_) AllReadyH.nil
          go_simp
          refine hK.out _ _ ?_ (fun hHeld2 => ?_)
          · (try dsimp only); go_keep
          clear hK K hHeld
          have hHeld := hHeld2
          clear hHeld2
          try simp only [Act.put, List.setIfInBounds_toArray, List.set_cons_zero, List.set_cons_succ]
          refine wpAnyH_done (by kernel_rfl) ?_ _
          clear t0 t1 t2 t3 t4 u0 u1 u2 u3 u4 mr Hrun hHeld
          go_wp2_with fail
          rw [← HW7.out]
          go_roundw
          case rel => exact ⟨k + 1, A6, c6, _, by omega, by go_num, HKR7.out, HRO7.out, HCC7.out, HFR7.out, HFQ7.out, HSZ7.out, HB7.out⟩
          case measure => simp [intOf]; omega
        · go_simp
          (go_at_call 32; refine HCALL.out.mono ?_)
          rintro e w5 ⟨Ae5, ce5, Ak5, ck5, rfl, hro5, hb5⟩
          have hb5' : Below wr.heap.size wr w5 := ((Below.refl wr.heap.size wr).drew).trans hb5
          have HKR5 := HKR.out.later hb5'
          have hRO5 := HRO.out.keep hb5'.size (fun b _ hlt => hb5'.block b hlt)
          have hu : RdO w5 (fun b => r + 1 ≤ b ∧ (Value.slice Ax k cx).ownBlock ≠ some b) (ks[k]).2 ⟨Ae5, ne', ce5⟩ ⟨Ak5, nk', ck5⟩ := RdO.mono (fun b hb _ => ⟨Nat.le_trans HSZ.out hb, fun e => by have h1 := (HKR.out.own.row.lt b e).2; have h2 : wr.drew.heap.size ≤ b := hb; have h3 : wr.drew.heap.size = wr.heap.size := rfl; omega⟩) _ hro5
          obtain ⟨A6, c6, w6, r1, HKR6, hb6, hblk⟩ := KidRow.push2 (k := (key, ⟨Ae5, ne', ce5⟩, ⟨Ak5, nk', ck5⟩)) Try.underlying23 infoK rfl (by omega) HKR5 w5.heap.size rfl (Nat.le_trans HSZ.out hb5'.size) hu (by omega) #[.string key, .slice Ae5 ne' ce5, .slice Ak5 nk' ck5] rfl
          have hb6s := hb6.size
          have hbw5 : b < w5.heap.size := Nat.lt_of_lt_of_le (World.block_lt_of_cell? wr _ c0) hb5'.size
          have hrw5 : r < w5.heap.size := Nat.lt_of_lt_of_le HFR.out.1 hb5'.size
          have hqw5 : q < w5.heap.size := Nat.lt_of_lt_of_le HFQ.out.1 hb5'.size
          have hgw5 : g < w5.heap.size := Nat.lt_of_lt_of_le (World.block_lt_of_cell? wr _ s1) hb5'.size
          have hob : ∀ x, x ≤ r → (Value.slice Ax k cx).ownBlock ≠ some x := fun x hx e => by have h1 := (HKR.out.own.row.lt x e).1; omega
          have hbr : b < r := by omega
          have t0 := (hb5'.cell (p := ⟨r, 1, none⟩) HFR.out.1).trans s0
          have t1 := (hb5'.cell (p := ⟨g, 1, none⟩) (World.block_lt_of_cell? wr _ s1)).trans s1
          have t2 := (hb5'.cell (p := ⟨b, o + k * 3, none⟩) (World.block_lt_of_cell? wr _ c0)).trans c0
          have t3 := (hb5'.cell (p := ⟨b, o + k * 3 + 1, none⟩) (World.block_lt_of_cell? wr _ c1)).trans c1
          have t4 := (hb5'.cell (p := ⟨b, o + k * 3 + 2, none⟩) (World.block_lt_of_cell? wr _ c2)).trans c2
          have K6 : ∀ x, x ≤ r → x < w5.heap.size → ∀ j, w6.cell? ⟨x, j, none⟩ = w5.cell? ⟨x, j, none⟩ := fun x hx hl j => World.cell?_of_block (a := ⟨x, j, none⟩) (hblk x (hob x hx) hl).1
          have F6 : ∀ x, x ≤ r → x < w5.heap.size → ∀ j, w6.frozen? ⟨x, j, none⟩ = w5.frozen? ⟨x, j, none⟩ := fun x hx hl j => World.frozen?_of_block (a := ⟨x, j, none⟩) (hblk x (hob x hx) hl).1
          have u0 := (K6 r (Nat.le_refl _) hrw5 1).trans t0
          have u1 := (K6 g (by omega) hgw5 1).trans t1
          have u2 := (K6 b (by omega) hbw5 (o + k * 3)).trans t2
          have u3 := (K6 b (by omega) hbw5 (o + k * 3 + 1)).trans t3
          have u4 := (K6 b (by omega) hbw5 (o + k * 3 + 2)).trans t4
          have mr := (F6 r (Nat.le_refl _) hrw5 1).trans ((HFR.out.later hb5').2 1)
          have hbr2 : ¬ b = r := by omega
          have hrb2 : ¬ r = b := by omega
          obtain ⟨w7, hw7⟩ : ∃ W, W = w6.setCell ⟨r, 1, none⟩ (.slice A6 (k + 1) c6) := ⟨_, rfl⟩
          have hk7 : ∀ x, x ≠ r → w7.heap[x]? = w6.heap[x]? := fun x hx => by rw [hw7]; exact Below.heap_setCell _ ⟨r, 1, none⟩ _ x (fun e => hx e)
          have v0 : w7.cell? ⟨r, 1, none⟩ = some (.slice A6 (k + 1) c6) := by rw [hw7]; go_simp
          have v1 : w7.cell? ⟨r, 0, none⟩ = some (.slice A3 ne c3) := by
            rw [hw7, World.cell?_setCell_other w6 ⟨r, 1, none⟩ ⟨r, 0, none⟩ _ (fun e => by injection e with _ e; cases e), K6 r (Nat.le_refl _) hrw5 0]
            exact (hb5'.cell (p := ⟨r, 0, none⟩) HFR.out.1).trans HCC.out.1
          have v2 : ∀ x j, x ≠ r → x ≤ r → x < wr.heap.size → w7.cell? ⟨x, j, none⟩ = wr.cell? ⟨x, j, none⟩ := fun x j hx hl hlt => ((World.cell?_of_block (a := ⟨x, j, none⟩) (hk7 x hx)).trans (K6 x hl (Nat.lt_of_lt_of_le hlt hb5'.size) j)).trans (hb5'.cell (p := ⟨x, j, none⟩) hlt)
          have HCC7 : Hid (w7.cell? ⟨r, 0, none⟩ = some (.slice A3 ne c3) ∧ w7.cell? ⟨r, 1, none⟩ = some (.slice A6 (k + 1) c6) ∧ w7.cell? ⟨q, 0, none⟩ = some (.slice none 0 0) ∧ w7.cell? ⟨q, 1, none⟩ = some (.slice none 0 0) ∧ w7.cell? ⟨g, 0, none⟩ = some (.slice Ae ne ce) ∧ w7.cell? ⟨g, 1, none⟩ = some (.slice (some ⟨b, o, none⟩) nk ck)) :=
            ⟨v1, v0, (v2 q 0 hqr (by have := HR3.out; omega) HFQ.out.1).trans HCC.out.2.2.1, (v2 q 1 hqr (by have := HR3.out; omega) HFQ.out.1).trans HCC.out.2.2.2.1, (v2 g 0 hgr (by have := HR2.out; omega) (World.block_lt_of_cell? wr _ s1)).trans HCC.out.2.2.2.2.1, (v2 g 1 hgr (by have := HR2.out; omega) (World.block_lt_of_cell? wr _ s1)).trans HCC.out.2.2.2.2.2⟩
          have hsz7 : w7.heap.size = w6.heap.size := by rw [hw7]; simp [World.setCell]
          have hsz6 : w5.heap.size ≤ w6.heap.size := by
            exact hb6s
          have HKR7 : Hid (KidRow w7 (r + 1) 56 A6 (k + 1) c6 (ks.take (k + 1)) (kr ++ [(key, ⟨Ae5, ne', ce5⟩, ⟨Ak5, nk', ck5⟩)])) := by
            unfold Hid
            rw [HKEY.out]
            exact HKR6.set7 (Nat.lt_succ_self r) hw7
          have HRO7 : Hid (RO w7 (fun b => r + 1 ≤ b ∧ (Value.slice A6 (k + 1) c6).ownBlock ≠ some b) 4 A3 ne c3 (entsC es)) :=
            ((hRO5.mono (ok' := fun b => r + 1 ≤ b ∧ (Value.slice Ax k cx).ownBlock ≠ some b ∧ (Value.slice A6 (k + 1) c6).ownBlock ≠ some b) (fun b hb hlt => ⟨hb.1, hb.2, (hblk b hb.2 hlt).2⟩)).keep (by omega) (fun b hb hlt => (hk7 b (by omega)).trans (hblk b hb.2.1 hlt).1)).mono (fun b hb _ => ⟨hb.1, hb.2.2⟩)
          have HFR7 : Hid (Free r w7) := by
            unfold Hid
            refine ⟨by omega, fun j => ?_⟩
            rw [hw7, World.frozen?_setCell]
            exact (F6 r (Nat.le_refl _) hrw5 j).trans ((HFR.out.later hb5').2 j)
          have HFQ7 : Hid (Free q w7) := by
            unfold Hid
            refine ⟨by omega, fun j => ?_⟩
            rw [hw7, World.frozen?_setCell]
            exact (F6 q (by have := HR3.out; omega) hqw5 j).trans ((HFQ.out.later hb5').2 j)
          have HSZ7 : Hid (r + 1 ≤ w7.heap.size) := by have := HSZ.out; have := hb5'.size; unfold Hid; omega
          have HB7 : Hid (Below w.heap.size w w7) := by
            unfold Hid
            rw [hw7]
            exact ((HB.out.trans (hb5'.mono HB.out.size)).trans (hb6.mono (by omega))).setCell (p := ⟨r, 1, none⟩) hwr _
          have Hrun := Lib.hid r1
          have HW7 := Lib.hid hw7
          clear hro5 hb5 hb5' HKR5 hRO5 hu r1 HKR6 hb6 hblk hob K6 F6 hw7 hk7 v0 v1 v2 hsz7 hsz6
          refine hK.out _ _ ?_ (fun hHeld2 => ?_)
          · exact ⟨t1, t2, t3, t4⟩
          clear hK K hHeld
          have hHeld := hHeld2
          clear hHeld2
          try simp only [Act.put, List.setIfInBounds_toArray, List.set_cons_zero, List.set_cons_succ]
          refine wpAnyH_take (i := 15) (oi := ⟨some 32, _, _, _, _, _⟩) (v := ?_) rfl (by kernel_rfl) (by kernel_rfl) (by kernel_rfl) (fun _ _ _ h => h) (Or.inl ⟨by kernel_rfl, ?_⟩) (by assumption) ?_
          rotate_left
          (intro wz hSw; (try dsimp only at hSw); go_simp; try with_reducible rfl)
          try simp only [Act.put, List.setIfInBounds_toArray, List.set_cons_zero, List.set_cons_succ]
          refine wpAnyH_ready (rs := [1, 16]) (by kernel_rfl) (by simp) ?_
          refine AllReadyH.cons (o := ⟨some 18, _, _, _, _, _⟩) rfl (fun K hK => ?_) (AllReadyH.cons (o := ⟨some 33, _, _, _, _, _⟩) rfl (fun K hK => ?_) (AllReadyH.nil))
          · go_simp
            refine hK.out _ _ ?_ (fun hHeld2 => ?_)
            · exact hHeld
            clear hK K hHeld
            have hHeld := hHeld2
            clear hHeld2
            try simp only [Act.put, List.setIfInBounds_toArray, List.set_cons_zero, List.set_cons_succ]
            refine wpAnyH_ready (rs := [16]) (by kernel_rfl) (by simp) ?_
            refine AllReadyH.cons (o := ⟨some 33, _, _, _, _, _⟩) rfl (fun K hK => ?_) AllReadyH.nil
            go_simp
            refine hK.out _ _ ?_ (fun hHeld2 => ?_)
            · (try dsimp only); go_keep
            clear hK K hHeld
            have hHeld := hHeld2
            clear hHeld2
            try simp only [Act.put, List.setIfInBounds_toArray, List.set_cons_zero, List.set_cons_succ]
            refine wpAnyH_ready (rs := [17]) (by kernel_rfl) (by simp) ?_
            refine AllReadyH.cons (o := ⟨some 34, _, _, _, _, _⟩) rfl (fun K hK => ?_) AllReadyH.nil
            refine upon_append _ _ _ rfl rfl rfl Hrun.out ?_
            refine hK.out _ _ ?_ (fun hHeld2 => ?_)
            · exact ⟨u1, u2, u3, u4⟩
            clear hK K hHeld
            have hHeld := hHeld2
            clear hHeld2
            try simp only [Act.put, List.setIfInBounds_toArray, List.set_cons_zero, List.set_cons_succ]
            refine wpAnyH_take (i := 18) (oi := ⟨some 35, _, _, _, _, _⟩) (v := ?_) rfl (by kernel_rfl) (by kernel_rfl) (by kernel_rfl) (fun _ _ _ h => h) (Or.inl ⟨by kernel_rfl, ?_⟩) (by assumption) ?_
            rotate_left
            (intro wz hSw; (try dsimp only at hSw); go_simp; try with_reducible rfl)
            try simp only [Act.put, List.setIfInBounds_toArray, List.set_cons_zero, List.set_cons_succ]
            refine wpAnyH_ready (rs := [19]) (by kernel_rfl) (by simp) ?_
            refine AllReadyH.cons (o := ⟨none, _, _, _, _, _⟩) rfl (fun K hK => ?_) AllReadyH.nil
            go_simp
            refine hK.out _ _ ?_ (fun hHeld2 => ?_)
            · (try dsimp only); go_keep
            clear hK K hHeld
            have hHeld := hHeld2
            clear hHeld2
            try simp only [Act.put, List.setIfInBounds_toArray, List.set_cons_zero, List.set_cons_succ]
            refine wpAnyH_done (by kernel_rfl) ?_ _
            clear t0 t1 t2 t3 t4 u0 u1 u2 u3 u4 mr Hrun hHeld
            go_wp2_with fail
            rw [← HW7.out]
            go_roundw
            case rel => exact ⟨k + 1, A6, c6, _, by omega, by go_num, HKR7.out, HRO7.out, HCC7.out, HFR7.out, HFQ7.out, HSZ7.out, HB7.out⟩
            case measure => simp [intOf]; omega
          · go_simp
            refine hK.out _ _ ?_ (fun hHeld2 => ?_)
            · (try dsimp only); go_keep
            clear hK K hHeld
            have hHeld := hHeld2
            clear hHeld2
            try simp only [Act.put, List.setIfInBounds_toArray, List.set_cons_zero, List.set_cons_succ]
            refine wpAnyH_ready (rs := [1]) (by kernel_rfl) (by simp) ?_
            refine AllReadyH.cons (o := ⟨some 18, _, _, _, _, _⟩) rfl (fun K hK => ?_) AllReadyH.nil
            go_simp
            refine hK.out _ _ ?_ (fun hHeld2 => ?_)
            · exact hHeld
            clear hK K hHeld
            have hHeld := hHeld2
            clear hHeld2
            try simp only [Act.put, List.setIfInBounds_toArray, List.set_cons_zero, List.set_cons_succ]
            refine wpAnyH_ready (rs := [17]) (by kernel_rfl) (by simp) ?_
            refine AllReadyH.cons (o := ⟨some 34, _, _, _, _, _⟩) rfl (fun K hK => ?_) AllReadyH.nil
            refine upon_append _ _ _ rfl rfl rfl Hrun.out ?_
            refine hK.out _ _ ?_ (fun hHeld2 => ?_)
            · exact ⟨u1, u2, u3, u4⟩
            clear hK K hHeld
            have hHeld := hHeld2
            clear hHeld2
            try simp only [Act.put, List.setIfInBounds_toArray, List.set_cons_zero, List.set_cons_succ]
            refine wpAnyH_take (i := 18) (oi := ⟨some 35, _, _, _, _, _⟩) (v := ?_) rfl (by kernel_rfl) (by kernel_rfl) (by kernel_rfl) (fun _ _ _ h => h) (Or.inl ⟨by kernel_rfl, ?_⟩) (by assumption) ?_
            rotate_left
            (intro wz hSw; (try dsimp only at hSw); go_simp; try with_reducible rfl)
            try simp only [Act.put, List.setIfInBounds_toArray, List.set_cons_zero, List.set_cons_succ]
            refine wpAnyH_ready (rs := [19]) (by kernel_rfl) (by simp) ?_
            refine AllReadyH.cons (o := ⟨none, _, _, _, _, _⟩) rfl (fun K hK => ?_) AllReadyH.nil
            go_simp
            refine hK.out _ _ ?_ (fun hHeld2 => ?_)
            · (try dsimp only); go_keep
            clear hK K hHeld
            have hHeld := hHeld2
            clear hHeld2
            try simp only [Act.put, List.setIfInBounds_toArray, List.set_cons_zero, List.set_cons_succ]
            refine wpAnyH_done (by kernel_rfl) ?_ _
            clear t0 t1 t2 t3 t4 u0 u1 u2 u3 u4 mr Hrun hHeld
            go_wp2_with fail
            rw [← HW7.out]
            go_roundw
            case rel => exact ⟨k + 1, A6, c6, _, by omega, by go_num, HKR7.out, HRO7.out, HCC7.out, HFR7.out, HFQ7.out, HSZ7.out, HB7.out⟩
            case measure => simp [intOf]; omega
      · obtain rfl : k = nk := by omega
        have hall : ks.take k = ks := List.take_of_length_le (by rw [HLK.out]; omega)
        have hkr := HKR.out
        rw [hall] at hkr
        have hwr : w.heap.size ≤ r := by have := HR2.out; have := HG.out; omega
        have HT := Lib.hid (hkr.tree (ok := fun b => w.heap.size ≤ b ∧ b ≠ q) (fun b hb _ => ⟨by omega, fun e => by have := HR3.out; omega⟩) (es := es) (se := ⟨A3, ne, c3⟩) HLE.out (HRO.out.mono (fun b hb _ => ⟨by omega, fun e => by have := HR3.out; omega⟩)))
        have z0 := HCC.out.1
        have z1 := HCC.out.2.1
        have z2 := HCC.out.2.2.1
        have z3 := HCC.out.2.2.2.1
        have m0 := HFQ.out.2 0
        have m1 := HFQ.out.2 1
        clear s0 s1 hall hkr
        obtain ⟨w9, hw9⟩ : ∃ W, W = (wr.setCell ⟨q, 0, none⟩ (.slice A3 ne c3)).setCell ⟨q, 1, none⟩ (.slice Ax k cx) := ⟨_, rfl⟩
        have HT9 : Hid (RdO w9 (fun b => w.heap.size ≤ b) (.mk es ks) ⟨A3, ne, c3⟩ ⟨Ax, k, cx⟩) := by
          unfold Hid
          rw [hw9]
          refine RdO.mono (fun b hb _ => hb.1) _ (RdO.keep (ok := fun b => w.heap.size ≤ b ∧ b ≠ q) (by simp [World.setCell]) (fun b hb hlt => ?_) _ HT.out)
          exact (Below.heap_setCell _ ⟨q, 1, none⟩ _ b (fun e => hb.2 e)).trans (Below.heap_setCell _ ⟨q, 0, none⟩ _ b (fun e => hb.2 e))
        have HB9 : Hid (Below w.heap.size w w9) := by unfold Hid; rw [hw9]; exact (HB.out.setCell (p := ⟨q, 0, none⟩) hwq _).setCell (p := ⟨q, 1, none⟩) hwq _
        have j0 : w9.cell? ⟨q, 0, none⟩ = some (.slice A3 ne c3) := by rw [hw9]; go_simp
        have j1 : w9.cell? ⟨q, 1, none⟩ = some (.slice Ax k cx) := by rw [hw9]; go_simp
        have HW9 := Lib.hid hw9
        clear hw9
        go_wp2_with fail
        rw [← HW9.out]
        refine bodyPost_ret (v := .agg #[.slice A3 ne c3, .slice Ax k cx]) (by simp [results, Try.results32, go_sem, j0, j1]) rfl ⟨A3, c3, Ax, cx, rfl, HT9.out, HB9.out⟩
end Tr
end Go.Proofs.Ytbfcbfadfnaebaa
