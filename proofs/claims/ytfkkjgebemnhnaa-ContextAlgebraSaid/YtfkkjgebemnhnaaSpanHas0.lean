/- What is in a set: the program's. -/
import Derived.Test.YtfkkjgebemnhnaaSpan4
namespace Go.Proofs.Ytfkkjgebemnhnaa
open Go.ChangeShapes Go.WideShapes Go.ChangeAt Go.RowKit
namespace Sp
set_option maxHeartbeats 400000 in
theorem within_any (x y v : Int) (p : Nat) (w : World) (hv : w.cell? ⟨p, 0, none⟩ = some (.int .i64 v)) :
    Calls Try.prog 68 #[.agg #[.int .i64 x, .int .i64 y], .pointer (some ⟨p, 0, none⟩)] w fun e w' => e = .returned (.bool (decide (x ≤ v ∧ v ≤ y))) ∧ Below w.heap.size w w' := by
  have hp : p < w.heap.size := World.block_lt_of_cell? w _ hv
  have HB := Lib.hid ((Below.refl w.heap.size w).alloc (Nat.le_refl _) (.cells #[.int .i64 x, .int .i64 y] 82))
  have hv2 : (w.alloc (.cells #[.int .i64 x, .int .i64 y] 82)).cell? ⟨p, 0, none⟩ = some (.int .i64 v) := (HB.out.cell (p := ⟨p, 0, none⟩) hp).trans hv
  by_cases h1 : x ≤ v
  · have f1 : decide (x ≤ v) = true := by simpa using h1
    by_cases h2 : v ≤ y
    · have f2 : decide (v ≤ y) = true := by simpa using h2
      go_enter Try.func68, Try.ntmps68
      go_wp2
      go_ret
      exact ⟨ret_bool (by simp [h1, h2]), HB.out⟩
    · have f2 : decide (v ≤ y) = false := by simpa using h2
      go_enter Try.func68, Try.ntmps68
      go_wp2
      go_ret
      exact ⟨ret_bool (by simp), HB.out⟩
  · have f1 : decide (x ≤ v) = false := by simpa using h1
    go_enter Try.func68, Try.ntmps68
    go_wp2
    go_ret
    exact ⟨ret_bool (by simp), HB.out⟩
/-- what was found -/
def FoundIs (l : List (Int × Int)) (v : Int) (w : World) (e : Ending) (w' : World) : Prop := ∃ z : Int, e = .returned (.int .i64 z) ∧ decide (0 ≤ z) = hasB l v ∧ Below w.heap.size w w'
set_option maxRecDepth 100000 in
set_option maxHeartbeats 1000000 in
theorem find_any (l : List (Int × Int)) (n : Nat) (A : Option Addr) (c : Nat) (v : Int) (p : Nat) (w : World) (hl : l.length = n) (hn : n ≤ 1000000) (hr : Rd w w.heap.size 2 A n c (runsC l)) (hv : w.cell? ⟨p, 0, none⟩ = some (.int .i64 v)) :
    Calls Try.prog 76 #[.slice A n c, .func (.func 68) #[] #[.pointer (some ⟨p, 0, none⟩)]] w (FoundIs l v w) := by
  have hp : p < w.heap.size := World.block_lt_of_cell? w _ hv
  have HR := Lib.hid hr
  have HL := Lib.hid hl
  have HV := Lib.hid hv
  clear hr hl hv
  go_enter Try.func76, Try.ntmps76
  go_wp2
  go_loopw [8] (fun i wr => ∃ (k : Nat), k ≤ n ∧ i = .int .i64 k ∧ Hid (hasB (l.take k) v = false) ∧ Hid (Below w.heap.size w wr)) (fun i _ => n - (intOf i).toNat)
  case atStart => exact ⟨0, by omega, rfl, Lib.hid (by rw [List.take_zero]; rfl), Below.refl _ _⟩
  case round =>
    obtain ⟨k, hk, rfl, HF, HB⟩ := hrel
    by_cases hlt : k < n
    · have hkl : k < l.length := by rw [HL.out]; exact hlt
      obtain ⟨b, o, rfl, hbl, hc⟩ := rd_run HR.out HL.out hlt
      obtain ⟨q0, q1⟩ := hc k hkl
      have htk : l.take (k + 1) = l.take k ++ [l[k]] := List.take_succ_eq_append_getElem hkl
      obtain ⟨r, hr⟩ : ∃ r, r = l[k] := ⟨_, rfl⟩
      rw [← hr] at q0 q1 htk
      obtain ⟨x, y⟩ := r
      have q0 := (HB.out.cell (p := ⟨b, o + k * 2, none⟩) hbl).trans q0
      have q1 := (HB.out.cell (p := ⟨b, o + k * 2 + 1, none⟩) hbl).trans q1
      have HC := Lib.hid (within_any x y v p wr ((HB.out.cell (p := ⟨p, 0, none⟩) hp).trans HV.out))
      by_cases h : x ≤ v ∧ v ≤ y
      · rw [decide_eq_true h] at HC
        have HE : Hid (true = hasB l v) := (has_true.2 ⟨(x, y), by rw [hr]; exact List.getElem_mem hkl, h.1, h.2⟩).symm
        clear hc hr htk
        go_wp2_with (go_at_call 68; refine HC.out.mono ?_; rintro e w1 ⟨rfl, hb1⟩)
        go_ret
        exact ⟨k, rfl, by rw [← HE.out]; exact decide_eq_true (by omega), HB.out.trans (hb1.mono HB.out.size)⟩
      · rw [decide_eq_false h] at HC
        have HF2 : Hid (hasB (l.take (k + 1)) v = false) := by
          unfold Hid
          rw [htk, has_append, HF.out]
          simp [hasB]; omega
        clear hc hr htk
        go_wp2_with (go_at_call 68; refine HC.out.mono ?_; rintro e w1 ⟨rfl, hb1⟩; have HB2 := Lib.hid (HB.out.trans (hb1.mono HB.out.size)); clear hb1)
        go_roundw
        case rel => exact ⟨k + 1, by omega, by go_num, HF2.out, HB2.out⟩
        case measure => simp [intOf]; omega
    · have HE : Hid (false = hasB l v) := by
        unfold Hid
        have := HF.out
        rw [List.take_of_length_le (by rw [HL.out]; omega)] at this
        exact this.symm
      go_wp2
      go_ret
      exact ⟨-1, rfl, by rw [← HE.out]; rfl, HB.out⟩
theorem contains_any (l : List (Int × Int)) (n : Nat) (A : Option Addr) (c : Nat) (v : Int) (p : Nat) (w : World) (hl : l.length = n) (hn : n ≤ 1000000) (hr : Rd w w.heap.size 2 A n c (runsC l)) (hv : w.cell? ⟨p, 0, none⟩ = some (.int .i64 v)) :
    Calls Try.prog 67 #[.slice A n c, .func (.func 68) #[] #[.pointer (some ⟨p, 0, none⟩)]] w fun e w' => e = .returned (.bool (hasB l v)) ∧ Below w.heap.size w w' := by
  have HC := Lib.hid (find_any l n A c v p w hl hn hr hv)
  clear hr hl hv
  go_enter Try.func67, Try.ntmps67
  go_wp2_with (go_at_call 76; refine HC.out.mono ?_; rintro e w1 ⟨z, rfl, hz, hb1⟩)
  go_ret
  exact ⟨ret_bool rfl, hb1⟩
set_option maxHeartbeats 400000 in
theorem has_any (l : List (Int × Int)) (n : Nat) (A : Option Addr) (c : Nat) (v : Int) (w : World) (hl : l.length = n) (hn : n ≤ 1000000) (hr : Rd w w.heap.size 2 A n c (runsC l)) :
    Calls Try.prog 53 #[.slice A n c, .int .i64 v] w fun e w' => e = .returned (.bool (rightB l && hasB l v)) ∧ Below w.heap.size w w' := by
  obtain ⟨p, hp⟩ : ∃ p, p = w.heap.size := ⟨_, rfl⟩
  obtain ⟨W, hW⟩ : ∃ W, W = w.alloc (.cells #[.int .i64 v] 2) := ⟨_, rfl⟩
  have HK : Hid (Kept [(⟨p, 0, none⟩, .int .i64 v)] w W) := by
    rw [hW, hp]
    exact ((Kept.nil w).alloc _).cons_of (by go_simp)
  have HR : Hid (Rd W W.heap.size 2 A n c (runsC l)) := by
    rw [hW]
    exact (hr.alloc (Nat.le_refl _) _).more (by simp)
  have HRT := Lib.hid (right_any l n A c W hl hn HR.out)
  have HL := Lib.hid hl
  have HP := Lib.hid hp
  have HW := Lib.hid hW
  clear hr hl hp hW
  cases hb : rightB l with
  | false =>
    rw [hb] at HRT
    clear hb
    go_enter Try.func53, Try.ntmps53
    go_wp2_with fail
    rw [← HP.out, ← HW.out]
    refine (calls_kept HRT.out HK).mono ?_
    rintro e w1 ⟨rfl, HK1⟩
    go_wp2
    go_ret
    exact ⟨rfl, HK1.out.below⟩
  | true =>
    rw [hb] at HRT
    clear hb
    go_enter Try.func53, Try.ntmps53
    go_wp2_with fail
    rw [← HP.out, ← HW.out]
    refine HRT.out.mono ?_
    rintro e w1 ⟨rfl, hb1⟩
    have HK1 := Lib.hid (HK.out.later hb1)
    have HR1 := Lib.hid (HR.out.later hb1)
    clear hb1
    have HC := Lib.hid (contains_any l n A c v p w1 HL.out hn HR1.out HK1.out.c0)
    go_wp2_with (go_at_call 67; refine (calls_kept HC.out HK1).mono ?_; rintro e w2 ⟨rfl, HK2⟩)
    go_ret
    exact ⟨ret_bool (Bool.true_and _).symm, HK2.out.below⟩
end Sp
end Go.Proofs.Ytfkkjgebemnhnaa
