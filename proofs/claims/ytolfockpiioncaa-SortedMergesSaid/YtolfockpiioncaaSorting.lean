/- slices.SortStableFunc at sorted's pairs, of fewer than 20 elements: one block of insertion sort. -/
import Derived.Test.YtolfockpiioncaaInsert
namespace Go.Proofs.Ytolfockpiioncaa
open Go.RowKit
namespace SortS
set_option maxRecDepth 100000 in
theorem insert_none (v f : Value) (a : Nat) (w : World) (ha : a ≤ 1000) :
    Calls Try.prog 52 #[v, .int .i64 a, .int .i64 a, f] w fun e w' => e = .returned (.tuple #[]) ∧ w = w' := by
  go_enter Try.func52, Try.ntmps52
  go_wp2
  refine wp_loop_rounds 1 ?_
  rw [rounds_succ]
  go_wp2
  go_end0
  exact ⟨rfl, rfl⟩

/-- sorted by keys, what is alike in order -/
def Stable (xs ys : Ps) : Prop := ys.length = xs.length ∧ Srt ltS ys ∧ Same xs ys
theorem stable_of_seg {xs ys : Ps} (h : Seg ltS xs ys 0 xs.length) : Stable xs ys := by
  obtain ⟨P, S, S', T, rfl, rfl, h1, h2, h3, h4, h5⟩ := h
  have hP : P = [] := List.eq_nil_of_length_eq_zero h1
  subst hP
  have hT : T = [] := by simpa using h2
  subst hT
  exact ⟨by simp [h5], by simpa using h3, by simpa using h4⟩

set_option maxRecDepth 100000 in
set_option maxHeartbeats 400000 in
theorem stable_small (base g n c : Nat) (xs : Ps) (w : World) (hrow : Row base g n c w xs) (h0 : 0 < n) (hn : n < 20) :
    Calls Try.prog 46 #[.slice (some ⟨g, 0, none⟩) n c, .int .i64 n, .func (.func 36) #[] #[]] w
      (Turned base g n c (fun ys => Stable xs ys) w) := by
  have HI := Lib.hid (insert_any base g n c 0 n xs w hrow h0 (Nat.le_refl _) (by omega))
  have hl := hrow.1
  have HL := Lib.hid hl
  clear hrow hl
  have t1 : decide ((20 : Int) ≤ n) = false := by simp; omega
  have t2 : decide ((20 : Int) < n) = false := by simp; omega
  go_enter Try.func46, Try.ntmps46
  go_wp2
  refine wp_loop_rounds 1 ?_
  rw [rounds_succ]
  go_wp2_with (go_at_call 52; refine HI.out.mono ?_; rintro e w2 ⟨rfl, hys, hgr⟩; (have HYS := Lib.hid hys); clear hys)
  refine wp_loop_rounds 1 ?_
  rw [rounds_succ]
  go_wp2
  go_end0
  obtain ⟨ys, hs, hr⟩ := HYS.out
  exact ⟨rfl, ⟨ys, stable_of_seg (by rw [HL.out]; exact hs), hr⟩, hgr⟩
theorem sort_small (base g n c : Nat) (xs : Ps) (w : World) (hrow : Row base g n c w xs) (h0 : 0 < n) (hn : n < 20) :
    Calls Try.prog 35 #[.slice (some ⟨g, 0, none⟩) n c, .func (.func 36) #[] #[]] w
      (Turned base g n c (fun ys => Stable xs ys) w) := by
  have HI := Lib.hid (stable_small base g n c xs w hrow h0 hn)
  clear hrow
  go_enter Try.func35, Try.ntmps35
  go_wp2_with (go_at_call 46; refine HI.out.mono ?_; rintro e w2 ⟨rfl, hys, hgr⟩; (have HYS := Lib.hid hys); clear hys)
  go_end0
  exact ⟨rfl, HYS.out, hgr⟩
end SortS
end Go.Proofs.Ytolfockpiioncaa
