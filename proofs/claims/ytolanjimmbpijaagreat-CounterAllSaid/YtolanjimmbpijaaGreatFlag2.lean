/- Flags: the program's changes. -/
import Derived.Test.YtolanjimmbpijaaGreatG120
import Derived.Test.YtolanjimmbpijaaGreatCauJoin
namespace Go.Proofs.YtolanjimmbpijaaGreat
open Go.ChangeShapes Go.WideShapes Go.ChangeAt Go.RowKit
namespace Cs
open Tr Cx Sp Rw Classical
theorem boxTDC (w : World) (Ae Ak : Option Addr) (ne nk ce ck : Nat) (a n : Int) : ∃ (W : World) (p q r : Nat), Hid (W = ((w.alloc (.cells #[.slice Ae ne ce, .slice Ak nk ck] 25)).alloc (.cells #[.int .i64 a, .int .i64 n] 27)).alloc (.cells #[.slice none 0 0, .slice none 0 0, .slice none 0 0] 34)) ∧ Hid (p = w.heap.size) ∧ Hid (q = p + 1) ∧ Hid (r = p + 1 + 1) ∧ Hid (Kept [(⟨p, 0, none⟩, .slice Ae ne ce), (⟨p, 1, none⟩, .slice Ak nk ck), (⟨q, 0, none⟩, .int .i64 a), (⟨q, 1, none⟩, .int .i64 n)] w W) ∧ Hid (Kept [(⟨r, 0, none⟩, .slice none 0 0), (⟨r, 1, none⟩, .slice none 0 0), (⟨r, 2, none⟩, .slice none 0 0)] w W) ∧ Hid (Free r W) := by
 refine ⟨_, _, _, _, rfl, rfl, rfl, rfl, ?_, ?_, ⟨by simp, fun j => by go_simp⟩⟩
 ·have h0 := Kept.nil_of (box3_below w #[.slice Ae ne ce, .slice Ak nk ck] #[.int .i64 a, .int .i64 n] #[.slice none 0 0, .slice none 0 0, .slice none 0 0] 25 27 34)
  refine (((h0.cons_of ?_).cons_of ?_).cons_of ?_).cons_of ?_ <;> go_simp
 ·have h0 := Kept.nil_of (box3_below w #[.slice Ae ne ce, .slice Ak nk ck] #[.int .i64 a, .int .i64 n] #[.slice none 0 0, .slice none 0 0, .slice none 0 0] 25 27 34)
  refine ((h0.cons_of ?_).cons_of ?_).cons_of ?_ <;> go_simp
theorem cells3 {w : World} {r : Nat} {a b c : Value} : (((w.setCell ⟨r, 0, none⟩ a).setCell ⟨r, 1, none⟩ b).setCell ⟨r, 2, none⟩ c).heap.size = w.heap.size := by simp [World.setCell]
theorem cells3_at {w : World} {r : Nat} {a b c : Value} (g : Nat) (h : g ≠ r) : (((w.setCell ⟨r, 0, none⟩ a).setCell ⟨r, 1, none⟩ b).setCell ⟨r, 2, none⟩ c).heap[g]? = w.heap[g]? :=
 ((Below.heap_setCell _ ⟨r, 2, none⟩ _ g h).trans (Below.heap_setCell _ ⟨r, 1, none⟩ _ g h)).trans (Below.heap_setCell _ ⟨r, 0, none⟩ _ g h)
end Cs
end Go.Proofs.YtolanjimmbpijaaGreat
