/- Sets of dots, the program's: all dots of a center from one to another one. -/
import Derived.Test.YtfkkjgebemnhnaaCtx2
import Derived.Test.YtfkkjgebemnhnaaDot0
namespace Go.Proofs.Ytfkkjgebemnhnaa
open Go.ChangeShapes Go.WideShapes Go.ChangeAt Go.RowKit
namespace Cx
open Sp Rw
set_option maxHeartbeats 400000 in
theorem range_bad (a x y : Int) (w : World) (h : (Dt.rightB a x && Dt.rightB a y) = false) :
    Calls Try.prog 26 #[.int .i64 a, .int .i64 x, .int .i64 y] w fun e w' => e = .returned (.tuple #[.slice none 0 0, .int .i64 1]) ∧ Below w.heap.size w w' := by
  have H1 := Lib.hid (Dt.right_any a x w)
  have H2 := fun W => Lib.hid (Dt.right_any a y W)
  obtain ⟨p, hp⟩ : ∃ p, p = Dt.rightB a x := ⟨_, rfl⟩
  obtain ⟨q, hq⟩ : ∃ q, q = Dt.rightB a y := ⟨_, rfl⟩
  rw [← hp] at H1
  rw [← hq] at H2
  rw [← hp, ← hq] at h
  clear hp hq
  cases p with
  | false =>
    go_enter Try.func26, Try.ntmps26
    go_wp2_with fail
    refine H1.out.mono ?_
    rintro e w1 ⟨rfl, hb1⟩
    go_wp2
    go_ret2
    exact ⟨rfl, hb1⟩
  | true =>
    rw [Bool.true_and] at h
    subst h
    go_enter Try.func26, Try.ntmps26
    go_wp2_with fail
    refine H1.out.mono ?_
    rintro e w1 ⟨rfl, hb1⟩
    go_wp2_with fail
    refine (H2 w1).out.mono ?_
    rintro e w2 ⟨rfl, hb2⟩
    go_wp2
    go_ret2
    exact ⟨rfl, hb1.trans (hb2.mono hb1.size)⟩
set_option maxHeartbeats 400000 in
theorem range_none (a x y : Int) (w : World) (h1 : Dt.rightB a x = true) (h2 : Dt.rightB a y = true) (h : y < x) :
    Calls Try.prog 26 #[.int .i64 a, .int .i64 x, .int .i64 y] w fun e w' => e = .returned (.tuple #[.slice none 0 0, .int .i64 0]) ∧ Below w.heap.size w w' := by
  have H1 := Lib.hid (Dt.right_any a x w)
  have H2 := fun W => Lib.hid (Dt.right_any a y W)
  rw [h1] at H1
  rw [h2] at H2
  have f1 : decide (y < x) = true := decide_eq_true h
  clear h1 h2
  go_enter Try.func26, Try.ntmps26
  go_wp2_with fail
  refine H1.out.mono ?_
  rintro e w1 ⟨rfl, hb1⟩
  go_wp2_with fail
  refine (H2 w1).out.mono ?_
  rintro e w2 ⟨rfl, hb2⟩
  go_wp2
  go_ret2
  exact ⟨rfl, hb1.trans (hb2.mono hb1.size)⟩
set_option maxHeartbeats 400000 in
theorem range_any (a x y : Int) (w : World) (h1 : Dt.rightB a x = true) (h2 : Dt.rightB a y = true) (h : ¬ y < x) :
    Calls Try.prog 26 #[.int .i64 a, .int .i64 x, .int .i64 y] w fun e w' => ∃ p c, e = .returned (.tuple #[.slice (some ⟨p, 0, none⟩) 1 c, .int .i64 0]) ∧ Kept [(⟨p, 0, none⟩, .int .i64 a), (⟨p, 1, none⟩, .int .i64 x), (⟨p, 2, none⟩, .int .i64 y)] w w' := by
  have H1 := Lib.hid (Dt.right_any a x w)
  have H2 := fun W => Lib.hid (Dt.right_any a y W)
  rw [h1] at H1
  rw [h2] at H2
  have f1 : decide (y < x) = false := decide_eq_false h
  clear h1 h2
  go_enter Try.func26, Try.ntmps26
  go_wp2_with fail
  refine H1.out.mono ?_
  rintro e w1 ⟨rfl, hb1⟩
  go_wp2_with fail
  refine (H2 w1).out.mono ?_
  rintro e w2 ⟨rfl, hb2⟩
  have HB := Lib.hid (hb1.trans (hb2.mono hb1.size))
  go_wp2
  go_ret2
  exact ⟨_, _, rfl, (((((Kept.nil_of HB.out).alloc _).cons_of (by go_simp)).cons_of (by go_simp)).cons_of (by go_simp))⟩
end Cx
end Go.Proofs.Ytfkkjgebemnhnaa
