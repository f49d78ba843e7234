/- Trees: entries alike; the library's. -/
import Derived.Test.YtbfcbfadfnaebaaTreeLevels
namespace Go.Proofs.Ytbfcbfadfnaebaa
open Go.ChangeShapes Go.WideShapes Go.ChangeAt Go.RowKit
namespace Tr
open Sp Rw
open Classical in
/-- are they alike? -/
noncomputable def eqB {α : Type} (x y : α) : Bool := decide (x = y)
open Classical in
theorem eqB_yes {α : Type} {x y : α} (h : x = y) : eqB x y = true := decide_eq_true h
open Classical in
theorem eqB_no {α : Type} {x y : α} (h : ¬ x = y) : eqB x y = false := decide_eq_false h
open Classical in
theorem eqB_iff {α : Type} {x y : α} : eqB x y = true ↔ x = y := decide_eq_true_iff
theorem bytes_ne {a b : ByteArray} (h : ¬ a = b) : (a.toList == b.toList) = false := by
  rw [beq_eq_false_iff_ne]
  exact fun h2 => h (bytes_ext h2)
/-- alike as far as they have been looked at -/
def SameTo {α : Type} (l m : List α) (k : Nat) : Prop := ∀ (i : Nat) (h : i < l.length) (h' : i < m.length), i < k → l[i] = m[i]
theorem SameTo.zero {α : Type} (l m : List α) : SameTo l m 0 := fun _ _ _ h => absurd h (Nat.not_lt_zero _)
theorem SameTo.succ {α : Type} {l m : List α} {k : Nat} (h : SameTo l m k) (h1 : ∀ (a : k < l.length) (b : k < m.length), l[k] = m[k]) : SameTo l m (k + 1) := fun i hi hi' hlt => by
  by_cases he : i = k
  · subst he; exact h1 hi hi'
  · exact h i hi hi' (by omega)
theorem SameTo.all {α : Type} {l m : List α} {k : Nat} (h : SameTo l m k) (hl : l.length = k) (hm : m.length = k) : l = m := List.ext_getElem (by omega) fun i h1 h2 => h i h1 h2 (by omega)
theorem not_same {α : Type} {l m : List α} {k : Nat} (h : k < l.length) (h' : k < m.length) (hne : ¬ l[k] = m[k]) : ¬ l = m := fun e => hne (by subst e; rfl)
set_option maxRecDepth 100000 in
set_option maxHeartbeats 4000000 in
theorem equalE_any (fes fes2 : List E) (n m : Nat) (A B : Option Addr) (c d : Nat) (w : World) (hl : fes.length = n) (hm : fes2.length = m) (hn : n ≤ 1000000) (hr : Rd w w.heap.size 4 A n c (entsC fes)) (hs : Rd w w.heap.size 4 B m d (entsC fes2)) :
    Calls Try.prog 75 #[.slice A n c, .slice B m d] w fun e w' => e = .returned (.bool (eqB fes fes2)) ∧ Below w.heap.size w w' := by
  have HR := Lib.hid hr
  have HS := Lib.hid hs
  have HL := Lib.hid hl
  have HM := Lib.hid hm
  obtain ⟨z, hz⟩ : ∃ z, eqB fes fes2 = z := ⟨_, rfl⟩
  rw [hz]
  have HZ := Lib.hid hz
  clear hr hs hl hm hz
  by_cases hnm : n = m
  · subst hnm
    have fz : ((n : Int) != (n : Int)) = false := by simp
    go_enter Try.func75, Try.ntmps75
    go_wp2_with fail
    go_loopw [13] (fun i wr => ∃ k : Nat, k ≤ n ∧ i = .int .i64 k ∧ Hid (SameTo fes fes2 k) ∧ Hid (Below w.heap.size w wr)) (fun i _ => n - (intOf i).toNat)
    case atStart => exact ⟨0, by omega, rfl, SameTo.zero _ _, Below.refl _ _⟩
    case round =>
      obtain ⟨k, hk, rfl, HT, HB⟩ := hrel
      by_cases hlt : k < n
      · obtain ⟨b1, o1, rfl, hb1, hc1⟩ := rd_elem entC_len HR.out (m := k) hlt
        have hk1 : k < fes.length := by rw [HL.out]; exact hlt
        obtain ⟨xa, xn, xs, xv, hxe⟩ : ∃ a n s v, fes[k] = ⟨a, n, s, v⟩ := ⟨_, _, _, _, rfl⟩
        have x0 := (HB.out.cell (p := ⟨b1, o1 + k * 4 + 0, none⟩) hb1).trans (hc1 k hk1 0 _ rfl)
        have x1 := (HB.out.cell (p := ⟨b1, o1 + k * 4 + 1, none⟩) hb1).trans (hc1 k hk1 1 _ rfl)
        have x2 := (HB.out.cell (p := ⟨b1, o1 + k * 4 + 2, none⟩) hb1).trans (hc1 k hk1 2 _ rfl)
        have x3 := (HB.out.cell (p := ⟨b1, o1 + k * 4 + 3, none⟩) hb1).trans (hc1 k hk1 3 _ rfl)
        rw [hxe] at x0 x1 x2 x3
        dsimp only [Nat.add_zero] at x0 x1 x2 x3
        obtain ⟨b2, o2, rfl, hb2, hc2⟩ := rd_elem entC_len HS.out (m := k) hlt
        have hk2 : k < fes2.length := by rw [HM.out]; exact hlt
        obtain ⟨ya, yn, ys, yv, hye⟩ : ∃ a n s v, fes2[k] = ⟨a, n, s, v⟩ := ⟨_, _, _, _, rfl⟩
        have y0 := (HB.out.cell (p := ⟨b2, o2 + k * 4 + 0, none⟩) hb2).trans (hc2 k hk2 0 _ rfl)
        have y1 := (HB.out.cell (p := ⟨b2, o2 + k * 4 + 1, none⟩) hb2).trans (hc2 k hk2 1 _ rfl)
        have y2 := (HB.out.cell (p := ⟨b2, o2 + k * 4 + 2, none⟩) hb2).trans (hc2 k hk2 2 _ rfl)
        have y3 := (HB.out.cell (p := ⟨b2, o2 + k * 4 + 3, none⟩) hb2).trans (hc2 k hk2 3 _ rfl)
        rw [hye] at y0 y1 y2 y3
        dsimp only [Nat.add_zero] at y0 y1 y2 y3
        have HX := Lib.hid hxe
        have HY := Lib.hid hye
        clear hc1 hc2 hxe hye
        by_cases q0 : xa = ya
        · subst q0
          by_cases q1 : xn = yn
          · subst q1
            by_cases q2 : xs = ys
            · subst q2
              by_cases q3 : xv = yv
              · subst q3
                have HEQ : Hid (fes[k] = fes2[k]) := by unfold Hid; rw [HX.out, HY.out]
                go_wp2_with fail
                refine wp_region_held_drew (S := fun W => W.cell? ⟨b1, o1 + k * 4, none⟩ = some (.int .i64 xa) ∧ W.cell? ⟨b1, o1 + k * 4 + 1, none⟩ = some (.int .i64 xn) ∧ W.cell? ⟨b1, o1 + k * 4 + 2, none⟩ = some (.string xs) ∧ W.cell? ⟨b1, o1 + k * 4 + 3, none⟩ = some (.int .i64 xv) ∧ W.cell? ⟨b2, o2 + k * 4, none⟩ = some (.int .i64 xa) ∧ W.cell? ⟨b2, o2 + k * 4 + 1, none⟩ = some (.int .i64 xn) ∧ W.cell? ⟨b2, o2 + k * 4 + 2, none⟩ = some (.string xs) ∧ W.cell? ⟨b2, o2 + k * 4 + 3, none⟩ = some (.int .i64 xv)) (by kernel_rfl) (by go_keep) (fun hHeld => ?_)
                refine wpAnyH_take (i := 0) (oi := ⟨some 16, _, _, _, _, _⟩) (v := ?_) rfl (by kernel_rfl) (by kernel_rfl) (by kernel_rfl) (fun _ _ _ h => h) (Or.inl ⟨by kernel_rfl, ?_⟩) (by assumption) ?_
                rotate_left
                (intro wz hSw; (try dsimp only at hSw); go_simp; try with_reducible rfl)
                try simp only [Act.put, List.setIfInBounds_toArray, List.set_cons_zero, List.set_cons_succ]
                refine wpAnyH_take (i := 1) (oi := ⟨some 17, _, _, _, _, _⟩) (v := ?_) rfl (by kernel_rfl) (by kernel_rfl) (by kernel_rfl) (fun _ _ _ h => h) (Or.inl ⟨by kernel_rfl, ?_⟩) (by assumption) ?_
                rotate_left
                (intro wz hSw; (try dsimp only at hSw); go_simp; try with_reducible rfl)
                try simp only [Act.put, List.setIfInBounds_toArray, List.set_cons_zero, List.set_cons_succ]
                refine wpAnyH_take (i := 2) (oi := ⟨some 18, _, _, _, _, _⟩) (v := ?_) rfl (by kernel_rfl) (by kernel_rfl) (by kernel_rfl) (fun _ _ _ h => h) (Or.inl ⟨by kernel_rfl, ?_⟩) (by assumption) ?_
                rotate_left
                (intro wz hSw; (try dsimp only at hSw); go_simp; try with_reducible rfl)
                try simp only [Act.put, List.setIfInBounds_toArray, List.set_cons_zero, List.set_cons_succ]
                refine wpAnyH_take (i := 3) (oi := ⟨some 19, _, _, _, _, _⟩) (v := ?_) rfl (by kernel_rfl) (by kernel_rfl) (by kernel_rfl) (fun _ _ _ h => h) (Or.inl ⟨by kernel_rfl, ?_⟩) (by assumption) ?_
                rotate_left
                (intro wz hSw; (try dsimp only at hSw); go_simp; try with_reducible rfl)
                try simp only [Act.put, List.setIfInBounds_toArray, List.set_cons_zero, List.set_cons_succ]
                refine wpAnyH_take (i := 4) (oi := ⟨some 20, _, _, _, _, _⟩) (v := ?_) rfl (by kernel_rfl) (by kernel_rfl) (by kernel_rfl) (fun _ _ _ h => h) (Or.inl ⟨by kernel_rfl, ?_⟩) (by assumption) ?_
                rotate_left
                (intro wz hSw; (try dsimp only at hSw); go_simp; try with_reducible rfl)
                try simp only [Act.put, List.setIfInBounds_toArray, List.set_cons_zero, List.set_cons_succ]
                refine wpAnyH_take (i := 5) (oi := ⟨some 21, _, _, _, _, _⟩) (v := ?_) rfl (by kernel_rfl) (by kernel_rfl) (by kernel_rfl) (fun _ _ _ h => h) (Or.inl ⟨by kernel_rfl, ?_⟩) (by assumption) ?_
                rotate_left
                (intro wz hSw; (try dsimp only at hSw); go_simp; try with_reducible rfl)
                try simp only [Act.put, List.setIfInBounds_toArray, List.set_cons_zero, List.set_cons_succ]
                refine wpAnyH_take (i := 6) (oi := ⟨some 22, _, _, _, _, _⟩) (v := ?_) rfl (by kernel_rfl) (by kernel_rfl) (by kernel_rfl) (fun _ _ _ h => h) (Or.inl ⟨by kernel_rfl, ?_⟩) (by assumption) ?_
                rotate_left
                (intro wz hSw; (try dsimp only at hSw); go_simp; try with_reducible rfl)
                try simp only [Act.put, List.setIfInBounds_toArray, List.set_cons_zero, List.set_cons_succ]
                refine wpAnyH_take (i := 7) (oi := ⟨some 23, _, _, _, _, _⟩) (v := ?_) rfl (by kernel_rfl) (by kernel_rfl) (by kernel_rfl) (fun _ _ _ h => h) (Or.inl ⟨by kernel_rfl, ?_⟩) (by assumption) ?_
                rotate_left
                (intro wz hSw; (try dsimp only at hSw); go_simp; try with_reducible rfl)
                try simp only [Act.put, List.setIfInBounds_toArray, List.set_cons_zero, List.set_cons_succ]
                refine wpAnyH_take (i := 8) (oi := ⟨some 24, _, _, _, _, _⟩) (v := ?_) rfl (by kernel_rfl) (by kernel_rfl) (by kernel_rfl) (fun _ _ _ h => h) (Or.inl ⟨by kernel_rfl, ?_⟩) (by assumption) ?_
                rotate_left
                (intro wz hSw; (try dsimp only at hSw); go_simp; try with_reducible rfl)
                try simp only [Act.put, List.setIfInBounds_toArray, List.set_cons_zero, List.set_cons_succ]
                refine wpAnyH_done (by kernel_rfl) ?_ _
                have HT2 : Hid (SameTo fes fes2 (k + 1)) := HT.out.succ fun _ _ => HEQ.out
                have HB2 := Lib.hid HB.out.drew
                go_wp2_with fail
                go_roundw
                case rel => exact ⟨k + 1, by omega, by go_num, HT2.out, HB2.out⟩
                case measure => simp [intOf]; omega
              · have v0 : (xv == yv) = false := beq_eq_false_iff_ne.2 q3
                have HNE : Hid (¬ fes[k] = fes2[k]) := by unfold Hid; rw [HX.out, HY.out]; intro e; injection e with _ _ _ e; exact q3 e
                clear q3
                go_wp2_with fail
                refine wp_region_held_drew (S := fun W => W.cell? ⟨b1, o1 + k * 4, none⟩ = some (.int .i64 xa) ∧ W.cell? ⟨b1, o1 + k * 4 + 1, none⟩ = some (.int .i64 xn) ∧ W.cell? ⟨b1, o1 + k * 4 + 2, none⟩ = some (.string xs) ∧ W.cell? ⟨b1, o1 + k * 4 + 3, none⟩ = some (.int .i64 xv) ∧ W.cell? ⟨b2, o2 + k * 4, none⟩ = some (.int .i64 xa) ∧ W.cell? ⟨b2, o2 + k * 4 + 1, none⟩ = some (.int .i64 xn) ∧ W.cell? ⟨b2, o2 + k * 4 + 2, none⟩ = some (.string xs) ∧ W.cell? ⟨b2, o2 + k * 4 + 3, none⟩ = some (.int .i64 yv)) (by kernel_rfl) (by go_keep) (fun hHeld => ?_)
                refine wpAnyH_take (i := 0) (oi := ⟨some 16, _, _, _, _, _⟩) (v := ?_) rfl (by kernel_rfl) (by kernel_rfl) (by kernel_rfl) (fun _ _ _ h => h) (Or.inl ⟨by kernel_rfl, ?_⟩) (by assumption) ?_
                rotate_left
                (intro wz hSw; (try dsimp only at hSw); go_simp; try with_reducible rfl)
                try simp only [Act.put, List.setIfInBounds_toArray, List.set_cons_zero, List.set_cons_succ]
                refine wpAnyH_take (i := 1) (oi := ⟨some 17, _, _, _, _, _⟩) (v := ?_) rfl (by kernel_rfl) (by kernel_rfl) (by kernel_rfl) (fun _ _ _ h => h) (Or.inl ⟨by kernel_rfl, ?_⟩) (by assumption) ?_
                rotate_left
                (intro wz hSw; (try dsimp only at hSw); go_simp; try with_reducible rfl)
                try simp only [Act.put, List.setIfInBounds_toArray, List.set_cons_zero, List.set_cons_succ]
                refine wpAnyH_take (i := 2) (oi := ⟨some 18, _, _, _, _, _⟩) (v := ?_) rfl (by kernel_rfl) (by kernel_rfl) (by kernel_rfl) (fun _ _ _ h => h) (Or.inl ⟨by kernel_rfl, ?_⟩) (by assumption) ?_
                rotate_left
                (intro wz hSw; (try dsimp only at hSw); go_simp; try with_reducible rfl)
                try simp only [Act.put, List.setIfInBounds_toArray, List.set_cons_zero, List.set_cons_succ]
                refine wpAnyH_take (i := 3) (oi := ⟨some 19, _, _, _, _, _⟩) (v := ?_) rfl (by kernel_rfl) (by kernel_rfl) (by kernel_rfl) (fun _ _ _ h => h) (Or.inl ⟨by kernel_rfl, ?_⟩) (by assumption) ?_
                rotate_left
                (intro wz hSw; (try dsimp only at hSw); go_simp; try with_reducible rfl)
                try simp only [Act.put, List.setIfInBounds_toArray, List.set_cons_zero, List.set_cons_succ]
                refine wpAnyH_take (i := 4) (oi := ⟨some 20, _, _, _, _, _⟩) (v := ?_) rfl (by kernel_rfl) (by kernel_rfl) (by kernel_rfl) (fun _ _ _ h => h) (Or.inl ⟨by kernel_rfl, ?_⟩) (by assumption) ?_
                rotate_left
                (intro wz hSw; (try dsimp only at hSw); go_simp; try with_reducible rfl)
                try simp only [Act.put, List.setIfInBounds_toArray, List.set_cons_zero, List.set_cons_succ]
                refine wpAnyH_take (i := 5) (oi := ⟨some 21, _, _, _, _, _⟩) (v := ?_) rfl (by kernel_rfl) (by kernel_rfl) (by kernel_rfl) (fun _ _ _ h => h) (Or.inl ⟨by kernel_rfl, ?_⟩) (by assumption) ?_
                rotate_left
                (intro wz hSw; (try dsimp only at hSw); go_simp; try with_reducible rfl)
                try simp only [Act.put, List.setIfInBounds_toArray, List.set_cons_zero, List.set_cons_succ]
                refine wpAnyH_take (i := 6) (oi := ⟨some 22, _, _, _, _, _⟩) (v := ?_) rfl (by kernel_rfl) (by kernel_rfl) (by kernel_rfl) (fun _ _ _ h => h) (Or.inl ⟨by kernel_rfl, ?_⟩) (by assumption) ?_
                rotate_left
                (intro wz hSw; (try dsimp only at hSw); go_simp; try with_reducible rfl)
                try simp only [Act.put, List.setIfInBounds_toArray, List.set_cons_zero, List.set_cons_succ]
                refine wpAnyH_take (i := 7) (oi := ⟨some 23, _, _, _, _, _⟩) (v := ?_) rfl (by kernel_rfl) (by kernel_rfl) (by kernel_rfl) (fun _ _ _ h => h) (Or.inl ⟨by kernel_rfl, ?_⟩) (by assumption) ?_
                rotate_left
                (intro wz hSw; (try dsimp only at hSw); go_simp; try with_reducible rfl)
                try simp only [Act.put, List.setIfInBounds_toArray, List.set_cons_zero, List.set_cons_succ]
                refine wpAnyH_take (i := 8) (oi := ⟨some 24, _, _, _, _, _⟩) (v := ?_) rfl (by kernel_rfl) (by kernel_rfl) (by kernel_rfl) (fun _ _ _ h => h) (Or.inl ⟨by kernel_rfl, ?_⟩) (by assumption) ?_
                rotate_left
                (intro wz hSw; (try dsimp only at hSw); go_simp; try with_reducible rfl)
                try simp only [Act.put, List.setIfInBounds_toArray, List.set_cons_zero, List.set_cons_succ]
                refine wpAnyH_done (by kernel_rfl) ?_ _
                go_wp2_with fail
                go_ret
                exact ⟨Dt.ret_bool (by rw [← HZ.out]; exact (eqB_no (not_same hk1 hk2 HNE.out)).symm), HB.out.drew⟩
            · have v0 : (xs.toList == ys.toList) = false := bytes_ne q2
              have HNE : Hid (¬ fes[k] = fes2[k]) := by unfold Hid; rw [HX.out, HY.out]; intro e; injection e with _ _ e _; exact q2 e
              clear q2
              go_wp2_with fail
              refine wp_region_held_drew (S := fun W => W.cell? ⟨b1, o1 + k * 4, none⟩ = some (.int .i64 xa) ∧ W.cell? ⟨b1, o1 + k * 4 + 1, none⟩ = some (.int .i64 xn) ∧ W.cell? ⟨b1, o1 + k * 4 + 2, none⟩ = some (.string xs) ∧ W.cell? ⟨b1, o1 + k * 4 + 3, none⟩ = some (.int .i64 xv) ∧ W.cell? ⟨b2, o2 + k * 4, none⟩ = some (.int .i64 xa) ∧ W.cell? ⟨b2, o2 + k * 4 + 1, none⟩ = some (.int .i64 xn) ∧ W.cell? ⟨b2, o2 + k * 4 + 2, none⟩ = some (.string ys) ∧ W.cell? ⟨b2, o2 + k * 4 + 3, none⟩ = some (.int .i64 yv)) (by kernel_rfl) (by go_keep) (fun hHeld => ?_)
              refine wpAnyH_take (i := 0) (oi := ⟨some 16, _, _, _, _, _⟩) (v := ?_) rfl (by kernel_rfl) (by kernel_rfl) (by kernel_rfl) (fun _ _ _ h => h) (Or.inl ⟨by kernel_rfl, ?_⟩) (by assumption) ?_
              rotate_left
              (intro wz hSw; (try dsimp only at hSw); go_simp; try with_reducible rfl)
              try simp only [Act.put, List.setIfInBounds_toArray, List.set_cons_zero, List.set_cons_succ]
              refine wpAnyH_take (i := 1) (oi := ⟨some 17, _, _, _, _, _⟩) (v := ?_) rfl (by kernel_rfl) (by kernel_rfl) (by kernel_rfl) (fun _ _ _ h => h) (Or.inl ⟨by kernel_rfl, ?_⟩) (by assumption) ?_
              rotate_left
              (intro wz hSw; (try dsimp only at hSw); go_simp; try with_reducible rfl)
              try simp only [Act.put, List.setIfInBounds_toArray, List.set_cons_zero, List.set_cons_succ]
              refine wpAnyH_take (i := 2) (oi := ⟨some 18, _, _, _, _, _⟩) (v := ?_) rfl (by kernel_rfl) (by kernel_rfl) (by kernel_rfl) (fun _ _ _ h => h) (Or.inl ⟨by kernel_rfl, ?_⟩) (by assumption) ?_
              rotate_left
              (intro wz hSw; (try dsimp only at hSw); go_simp; try with_reducible rfl)
              try simp only [Act.put, List.setIfInBounds_toArray, List.set_cons_zero, List.set_cons_succ]
              refine wpAnyH_take (i := 3) (oi := ⟨some 19, _, _, _, _, _⟩) (v := ?_) rfl (by kernel_rfl) (by kernel_rfl) (by kernel_rfl) (fun _ _ _ h => h) (Or.inl ⟨by kernel_rfl, ?_⟩) (by assumption) ?_
              rotate_left
              (intro wz hSw; (try dsimp only at hSw); go_simp; try with_reducible rfl)
              try simp only [Act.put, List.setIfInBounds_toArray, List.set_cons_zero, List.set_cons_succ]
              refine wpAnyH_take (i := 4) (oi := ⟨some 20, _, _, _, _, _⟩) (v := ?_) rfl (by kernel_rfl) (by kernel_rfl) (by kernel_rfl) (fun _ _ _ h => h) (Or.inl ⟨by kernel_rfl, ?_⟩) (by assumption) ?_
              rotate_left
              (intro wz hSw; (try dsimp only at hSw); go_simp; try with_reducible rfl)
              try simp only [Act.put, List.setIfInBounds_toArray, List.set_cons_zero, List.set_cons_succ]
              refine wpAnyH_take (i := 5) (oi := ⟨some 21, _, _, _, _, _⟩) (v := ?_) rfl (by kernel_rfl) (by kernel_rfl) (by kernel_rfl) (fun _ _ _ h => h) (Or.inl ⟨by kernel_rfl, ?_⟩) (by assumption) ?_
              rotate_left
              (intro wz hSw; (try dsimp only at hSw); go_simp; try with_reducible rfl)
              try simp only [Act.put, List.setIfInBounds_toArray, List.set_cons_zero, List.set_cons_succ]
              refine wpAnyH_take (i := 6) (oi := ⟨some 22, _, _, _, _, _⟩) (v := ?_) rfl (by kernel_rfl) (by kernel_rfl) (by kernel_rfl) (fun _ _ _ h => h) (Or.inl ⟨by kernel_rfl, ?_⟩) (by assumption) ?_
              rotate_left
              (intro wz hSw; (try dsimp only at hSw); go_simp; try with_reducible rfl)
              try simp only [Act.put, List.setIfInBounds_toArray, List.set_cons_zero, List.set_cons_succ]
              refine wpAnyH_take (i := 7) (oi := ⟨some 23, _, _, _, _, _⟩) (v := ?_) rfl (by kernel_rfl) (by kernel_rfl) (by kernel_rfl) (fun _ _ _ h => h) (Or.inl ⟨by kernel_rfl, ?_⟩) (by assumption) ?_
              rotate_left
              (intro wz hSw; (try dsimp only at hSw); go_simp; try with_reducible rfl)
              try simp only [Act.put, List.setIfInBounds_toArray, List.set_cons_zero, List.set_cons_succ]
              refine wpAnyH_take (i := 8) (oi := ⟨some 24, _, _, _, _, _⟩) (v := ?_) rfl (by kernel_rfl) (by kernel_rfl) (by kernel_rfl) (fun _ _ _ h => h) (Or.inl ⟨by kernel_rfl, ?_⟩) (by assumption) ?_
              rotate_left
              (intro wz hSw; (try dsimp only at hSw); go_simp; try with_reducible rfl)
              try simp only [Act.put, List.setIfInBounds_toArray, List.set_cons_zero, List.set_cons_succ]
              refine wpAnyH_done (by kernel_rfl) ?_ _
              go_wp2_with fail
              go_ret
              exact ⟨Dt.ret_bool (by rw [← HZ.out]; exact (eqB_no (not_same hk1 hk2 HNE.out)).symm), HB.out.drew⟩
          · have v0 : (xn == yn) = false := beq_eq_false_iff_ne.2 q1
            have HNE : Hid (¬ fes[k] = fes2[k]) := by unfold Hid; rw [HX.out, HY.out]; intro e; injection e with _ e _ _; exact q1 e
            clear q1
            go_wp2_with fail
            refine wp_region_held_drew (S := fun W => W.cell? ⟨b1, o1 + k * 4, none⟩ = some (.int .i64 xa) ∧ W.cell? ⟨b1, o1 + k * 4 + 1, none⟩ = some (.int .i64 xn) ∧ W.cell? ⟨b1, o1 + k * 4 + 2, none⟩ = some (.string xs) ∧ W.cell? ⟨b1, o1 + k * 4 + 3, none⟩ = some (.int .i64 xv) ∧ W.cell? ⟨b2, o2 + k * 4, none⟩ = some (.int .i64 xa) ∧ W.cell? ⟨b2, o2 + k * 4 + 1, none⟩ = some (.int .i64 yn) ∧ W.cell? ⟨b2, o2 + k * 4 + 2, none⟩ = some (.string ys) ∧ W.cell? ⟨b2, o2 + k * 4 + 3, none⟩ = some (.int .i64 yv)) (by kernel_rfl) (by go_keep) (fun hHeld => ?_)
            refine wpAnyH_take (i := 0) (oi := ⟨some 16, _, _, _, _, _⟩) (v := ?_) rfl (by kernel_rfl) (by kernel_rfl) (by kernel_rfl) (fun _ _ _ h => h) (Or.inl ⟨by kernel_rfl, ?_⟩) (by assumption) ?_
            rotate_left
            (intro wz hSw; (try dsimp only at hSw); go_simp; try with_reducible rfl)
            try simp only [Act.put, List.setIfInBounds_toArray, List.set_cons_zero, List.set_cons_succ]
            refine wpAnyH_take (i := 1) (oi := ⟨some 17, _, _, _, _, _⟩) (v := ?_) rfl (by kernel_rfl) (by kernel_rfl) (by kernel_rfl) (fun _ _ _ h => h) (Or.inl ⟨by kernel_rfl, ?_⟩) (by assumption) ?_
            rotate_left
            (intro wz hSw; (try dsimp only at hSw); go_simp; try with_reducible rfl)
            try simp only [Act.put, List.setIfInBounds_toArray, List.set_cons_zero, List.set_cons_succ]
            refine wpAnyH_take (i := 2) (oi := ⟨some 18, _, _, _, _, _⟩) (v := ?_) rfl (by kernel_rfl) (by kernel_rfl) (by kernel_rfl) (fun _ _ _ h => h) (Or.inl ⟨by kernel_rfl, ?_⟩) (by assumption) ?_
            rotate_left
            (intro wz hSw; (try dsimp only at hSw); go_simp; try with_reducible rfl)
            try simp only [Act.put, List.setIfInBounds_toArray, List.set_cons_zero, List.set_cons_succ]
            refine wpAnyH_take (i := 3) (oi := ⟨some 19, _, _, _, _, _⟩) (v := ?_) rfl (by kernel_rfl) (by kernel_rfl) (by kernel_rfl) (fun _ _ _ h => h) (Or.inl ⟨by kernel_rfl, ?_⟩) (by assumption) ?_
            rotate_left
            (intro wz hSw; (try dsimp only at hSw); go_simp; try with_reducible rfl)
            try simp only [Act.put, List.setIfInBounds_toArray, List.set_cons_zero, List.set_cons_succ]
            refine wpAnyH_take (i := 4) (oi := ⟨some 20, _, _, _, _, _⟩) (v := ?_) rfl (by kernel_rfl) (by kernel_rfl) (by kernel_rfl) (fun _ _ _ h => h) (Or.inl ⟨by kernel_rfl, ?_⟩) (by assumption) ?_
            rotate_left
            (intro wz hSw; (try dsimp only at hSw); go_simp; try with_reducible rfl)
            try simp only [Act.put, List.setIfInBounds_toArray, List.set_cons_zero, List.set_cons_succ]
            refine wpAnyH_take (i := 5) (oi := ⟨some 21, _, _, _, _, _⟩) (v := ?_) rfl (by kernel_rfl) (by kernel_rfl) (by kernel_rfl) (fun _ _ _ h => h) (Or.inl ⟨by kernel_rfl, ?_⟩) (by assumption) ?_
            rotate_left
            (intro wz hSw; (try dsimp only at hSw); go_simp; try with_reducible rfl)
            try simp only [Act.put, List.setIfInBounds_toArray, List.set_cons_zero, List.set_cons_succ]
            refine wpAnyH_take (i := 6) (oi := ⟨some 22, _, _, _, _, _⟩) (v := ?_) rfl (by kernel_rfl) (by kernel_rfl) (by kernel_rfl) (fun _ _ _ h => h) (Or.inl ⟨by kernel_rfl, ?_⟩) (by assumption) ?_
            rotate_left
            (intro wz hSw; (try dsimp only at hSw); go_simp; try with_reducible rfl)
            try simp only [Act.put, List.setIfInBounds_toArray, List.set_cons_zero, List.set_cons_succ]
            refine wpAnyH_take (i := 7) (oi := ⟨some 23, _, _, _, _, _⟩) (v := ?_) rfl (by kernel_rfl) (by kernel_rfl) (by kernel_rfl) (fun _ _ _ h => h) (Or.inl ⟨by kernel_rfl, ?_⟩) (by assumption) ?_
            rotate_left
            (intro wz hSw; (try dsimp only at hSw); go_simp; try with_reducible rfl)
            try simp only [Act.put, List.setIfInBounds_toArray, List.set_cons_zero, List.set_cons_succ]
            refine wpAnyH_take (i := 8) (oi := ⟨some 24, _, _, _, _, _⟩) (v := ?_) rfl (by kernel_rfl) (by kernel_rfl) (by kernel_rfl) (fun _ _ _ h => h) (Or.inl ⟨by kernel_rfl, ?_⟩) (by assumption) ?_
            rotate_left
            (intro wz hSw; (try dsimp only at hSw); go_simp; try with_reducible rfl)
            try simp only [Act.put, List.setIfInBounds_toArray, List.set_cons_zero, List.set_cons_succ]
            refine wpAnyH_done (by kernel_rfl) ?_ _
            go_wp2_with fail
            go_ret
            exact ⟨Dt.ret_bool (by rw [← HZ.out]; exact (eqB_no (not_same hk1 hk2 HNE.out)).symm), HB.out.drew⟩
        · have v0 : (xa == ya) = false := beq_eq_false_iff_ne.2 q0
          have HNE : Hid (¬ fes[k] = fes2[k]) := by unfold Hid; rw [HX.out, HY.out]; intro e; injection e with e _ _ _; exact q0 e
          clear q0
          go_wp2_with fail
          refine wp_region_held_drew (S := fun W => W.cell? ⟨b1, o1 + k * 4, none⟩ = some (.int .i64 xa) ∧ W.cell? ⟨b1, o1 + k * 4 + 1, none⟩ = some (.int .i64 xn) ∧ W.cell? ⟨b1, o1 + k * 4 + 2, none⟩ = some (.string xs) ∧ W.cell? ⟨b1, o1 + k * 4 + 3, none⟩ = some (.int .i64 xv) ∧ W.cell? ⟨b2, o2 + k * 4, none⟩ = some (.int .i64 ya) ∧ W.cell? ⟨b2, o2 + k * 4 + 1, none⟩ = some (.int .i64 yn) ∧ W.cell? ⟨b2, o2 + k * 4 + 2, none⟩ = some (.string ys) ∧ W.cell? ⟨b2, o2 + k * 4 + 3, none⟩ = some (.int .i64 yv)) (by kernel_rfl) (by go_keep) (fun hHeld => ?_)
          refine wpAnyH_take (i := 0) (oi := ⟨some 16, _, _, _, _, _⟩) (v := ?_) rfl (by kernel_rfl) (by kernel_rfl) (by kernel_rfl) (fun _ _ _ h => h) (Or.inl ⟨by kernel_rfl, ?_⟩) (by assumption) ?_
          rotate_left
          (intro wz hSw; (try dsimp only at hSw); go_simp; try with_reducible rfl)
          try simp only [Act.put, List.setIfInBounds_toArray, List.set_cons_zero, List.set_cons_succ]
          refine wpAnyH_take (i := 1) (oi := ⟨some 17, _, _, _, _, _⟩) (v := ?_) rfl (by kernel_rfl) (by kernel_rfl) (by kernel_rfl) (fun _ _ _ h => h) (Or.inl ⟨by kernel_rfl, ?_⟩) (by assumption) ?_
          rotate_left
          (intro wz hSw; (try dsimp only at hSw); go_simp; try with_reducible rfl)
          try simp only [Act.put, List.setIfInBounds_toArray, List.set_cons_zero, List.set_cons_succ]
          refine wpAnyH_take (i := 2) (oi := ⟨some 18, _, _, _, _, _⟩) (v := ?_) rfl (by kernel_rfl) (by kernel_rfl) (by kernel_rfl) (fun _ _ _ h => h) (Or.inl ⟨by kernel_rfl, ?_⟩) (by assumption) ?_
          rotate_left
          (intro wz hSw; (try dsimp only at hSw); go_simp; try with_reducible rfl)
          try simp only [Act.put, List.setIfInBounds_toArray, List.set_cons_zero, List.set_cons_succ]
          refine wpAnyH_take (i := 3) (oi := ⟨some 19, _, _, _, _, _⟩) (v := ?_) rfl (by kernel_rfl) (by kernel_rfl) (by kernel_rfl) (fun _ _ _ h => h) (Or.inl ⟨by kernel_rfl, ?_⟩) (by assumption) ?_
          rotate_left
          (intro wz hSw; (try dsimp only at hSw); go_simp; try with_reducible rfl)
          try simp only [Act.put, List.setIfInBounds_toArray, List.set_cons_zero, List.set_cons_succ]
          refine wpAnyH_take (i := 4) (oi := ⟨some 20, _, _, _, _, _⟩) (v := ?_) rfl (by kernel_rfl) (by kernel_rfl) (by kernel_rfl) (fun _ _ _ h => h) (Or.inl ⟨by kernel_rfl, ?_⟩) (by assumption) ?_
          rotate_left
          (intro wz hSw; (try dsimp only at hSw); go_simp; try with_reducible rfl)
          try simp only [Act.put, List.setIfInBounds_toArray, List.set_cons_zero, List.set_cons_succ]
          refine wpAnyH_take (i := 5) (oi := ⟨some 21, _, _, _, _, _⟩) (v := ?_) rfl (by kernel_rfl) (by kernel_rfl) (by kernel_rfl) (fun _ _ _ h => h) (Or.inl ⟨by kernel_rfl, ?_⟩) (by assumption) ?_
          rotate_left
          (intro wz hSw; (try dsimp only at hSw); go_simp; try with_reducible rfl)
          try simp only [Act.put, List.setIfInBounds_toArray, List.set_cons_zero, List.set_cons_succ]
          refine wpAnyH_take (i := 6) (oi := ⟨some 22, _, _, _, _, _⟩) (v := ?_) rfl (by kernel_rfl) (by kernel_rfl) (by kernel_rfl) (fun _ _ _ h => h) (Or.inl ⟨by kernel_rfl, ?_⟩) (by assumption) ?_
          rotate_left
          (intro wz hSw; (try dsimp only at hSw); go_simp; try with_reducible rfl)
          try simp only [Act.put, List.setIfInBounds_toArray, List.set_cons_zero, List.set_cons_succ]
          refine wpAnyH_take (i := 7) (oi := ⟨some 23, _, _, _, _, _⟩) (v := ?_) rfl (by kernel_rfl) (by kernel_rfl) (by kernel_rfl) (fun _ _ _ h => h) (Or.inl ⟨by kernel_rfl, ?_⟩) (by assumption) ?_
          rotate_left
          (intro wz hSw; (try dsimp only at hSw); go_simp; try with_reducible rfl)
          try simp only [Act.put, List.setIfInBounds_toArray, List.set_cons_zero, List.set_cons_succ]
          refine wpAnyH_take (i := 8) (oi := ⟨some 24, _, _, _, _, _⟩) (v := ?_) rfl (by kernel_rfl) (by kernel_rfl) (by kernel_rfl) (fun _ _ _ h => h) (Or.inl ⟨by kernel_rfl, ?_⟩) (by assumption) ?_
          rotate_left
          (intro wz hSw; (try dsimp only at hSw); go_simp; try with_reducible rfl)
          try simp only [Act.put, List.setIfInBounds_toArray, List.set_cons_zero, List.set_cons_succ]
          refine wpAnyH_done (by kernel_rfl) ?_ _
          go_wp2_with fail
          go_ret
          exact ⟨Dt.ret_bool (by rw [← HZ.out]; exact (eqB_no (not_same hk1 hk2 HNE.out)).symm), HB.out.drew⟩
      · obtain rfl : k = n := by omega
        go_wp2_with fail
        go_ret
        exact ⟨Dt.ret_bool (by rw [← HZ.out]; exact (eqB_yes (HT.out.all HL.out HM.out)).symm), HB.out⟩
  · have fz : ((n : Int) != (m : Int)) = true := by simp; omega
    go_enter Try.func75, Try.ntmps75
    go_wp2_with fail
    go_ret
    exact ⟨Dt.ret_bool (by rw [← HZ.out]; exact (eqB_no (fun e => hnm (by rw [← HL.out, ← HM.out, e]))).symm), Below.refl _ _⟩
end Tr
end Go.Proofs.Ytbfcbfadfnaebaa
