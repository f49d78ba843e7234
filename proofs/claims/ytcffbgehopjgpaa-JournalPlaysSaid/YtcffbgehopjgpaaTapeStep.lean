/- Layer 17: a tape, and beside it the document's in a box of its own. -/
import Derived.Test.YtcffbgehopjgpaaTapeAct
import Derived.Test.YtcffbgehopjgpaaTapeIs
import Derived.Test.YtcffbgehopjgpaaTapeAwake
namespace Go.Proofs.Ytcffbgehopjgpaa
open Go.ChangeShapes Go.WideShapes Go.ChangeAt Go.RowKit
namespace Tpe
open By
set_option maxRecDepth 100000
theorem act_len {s : S} {m : Nat} (hs : Ok s m) (hc : s.cap ≤ m) {kd n : Int} {b : List UInt8} {y : UInt8} : (act s kd b n y).1.bs.length ≤ m := by
  have h1 := hs.len
  have h2 := hs.sf
  unfold act
  split
  · unfold app
    repeat' split
    all_goals (dsimp only; (try rw [List.length_append]); omega)
  split
  · unfold syn
    repeat' split
    all_goals exact h1
  split
  · unfold rep
    repeat' split
    all_goals (dsimp only; omega)
  split
  · unfold arm
    repeat' split
    all_goals exact h1
  · have h6 := stay_le s n
    have h7 := left_len h2 n y
    unfold rst
    dsimp only
    omega
/-- box p holds the document's tape s, its bytes told by A, n, c -/
structure BoxD (w : World) (p : Nat) (s : S) (A : Option Addr) (n c : Nat) : Prop where
  c0 : w.cell? ⟨p, 0, none⟩ = some (.int .i64 s.cap)
  c1 : w.cell? ⟨p, 1, none⟩ = some (.slice A n c)
  c2 : w.cell? ⟨p, 2, none⟩ = some (.int .i64 s.sf)
  c3 : w.cell? ⟨p, 3, none⟩ = some (.int .i64 s.fu)
  c4 : w.cell? ⟨p, 4, none⟩ = some (.bool s.lo)
  free : Free p w
section
variable {w w' : World} {B g p q a n c : Nat} {ob ob' qb : Option Nat} {s : S} {A : Option Addr} {P : Nat → Prop} {bs : List UInt8}
theorem BoxD.later (h : BoxD w p s A n c) (hb : Below w.heap.size w w') : BoxD w' p s A n c :=
  have hc : ∀ j, w'.cell? ⟨p, j, none⟩ = w.cell? ⟨p, j, none⟩ := fun j => hb.cell (p := ⟨p, j, none⟩) h.free.1
  ⟨(hc 0).trans h.c0, (hc 1).trans h.c1, (hc 2).trans h.c2, (hc 3).trans h.c3, (hc 4).trans h.c4, h.free.later hb⟩
theorem BoxD.two (h : BoxD w p s A n c) (ht : Two a qb w w') (h1 : p ≠ a) (h2 : some p ≠ qb) : BoxD w' p s A n c :=
  have hc : ∀ j, w'.cell? ⟨p, j, none⟩ = w.cell? ⟨p, j, none⟩ := fun j => ht.cell (p := ⟨p, j, none⟩) h.free.1 h1 h2
  ⟨(hc 0).trans h.c0, (hc 1).trans h.c1, (hc 2).trans h.c2, (hc 3).trans h.c3, (hc 4).trans h.c4, ⟨Nat.lt_of_lt_of_le h.free.1 ht.size, fun j => (ht.frozen (p := ⟨p, j, none⟩) h.free.1 h1 h2).trans (h.free.2 j)⟩⟩
/-- the document's tape in box p was written anew, and nothing else -/
structure CutM (w w' : World) (p : Nat) (s : S) (A : Option Addr) (n c : Nat) (ok : Nat → Prop) : Prop where
  two : Two p none w w'
  box : BoxD w' p s A n c
  len : s.bs.length = n
  rk : Rk w' ok A n c s.bs
/-- a new box -/
theorem BoxD.new (hw : w' = w.alloc (.cells #[.int .i64 s.cap, .slice A n c, .int .i64 s.sf, .int .i64 s.fu, .bool s.lo] 33)) : BoxD w' w.heap.size s A n c := by
  subst hw
  refine ⟨?_, ?_, ?_, ?_, ?_, by simp, fun j => ?_⟩ <;> go_simp
/-- the box is written anew -/
theorem BoxD.set {s0 : S} {A0 : Option Addr} {n0 c0 : Nat} (h : BoxD w p s0 A0 n0 c0) (hw : w' = ((((w.setCell ⟨p, 0, none⟩ (.int .i64 s.cap)).setCell ⟨p, 1, none⟩ (.slice A n c)).setCell ⟨p, 2, none⟩ (.int .i64 s.sf)).setCell ⟨p, 3, none⟩ (.int .i64 s.fu)).setCell ⟨p, 4, none⟩ (.bool s.lo)) : BoxD w' p s A n c ∧ Two p none w w' := by
  obtain ⟨l0, l1, l2, l3, l4⟩ := st5 hw h.c0 h.c1 h.c2 h.c3 h.c4
  have ht : Two p none w w' := by rw [hw]; exact (((((Two.refl p none w).setCell 0 _).setCell 1 _).setCell 2 _).setCell 3 _).setCell 4 _
  refine ⟨⟨l0, l1, l2, l3, l4, Nat.lt_of_lt_of_le h.free.1 ht.size, fun j => ?_⟩, ht⟩
  have := h.free.2 j
  rw [hw]
  go_simp
/-- bytes elsewhere, when something befell the tape -/
theorem Rk.did (h : Rk w (fun b => b ≠ g ∧ some b ≠ ob ∧ P b) A n c bs) (ht : Two g ob w w') (hf : Fresh ob ob' w) : Rk w' (fun b => b ≠ g ∧ some b ≠ ob' ∧ P b) A n c bs := by
  have h1 : Rk w (fun b => (b ≠ g ∧ some b ≠ ob) ∧ some b ≠ ob' ∧ P b) A n c bs := h.mono fun b hb hl => ⟨⟨hb.1, hb.2.1⟩, by
    rcases hf with rfl | rfl | ⟨k, rfl, hk⟩
    · simp
    · exact hb.2.1
    · intro e; injection e with e; omega, hb.2.2⟩
  have h2 := h1.two ht fun b hb _ => hb.1
  exact h2.mono fun b hb _ => ⟨hb.1.1, hb.2⟩
theorem Fresh.ne (hf : Fresh ob ob' w) (h : some p ≠ ob) (hp : p < w.heap.size) : some p ≠ ob' := by
  rcases hf with rfl | rfl | ⟨k, rfl, hk⟩
  · simp
  · exact h
  · intro e; injection e with e; omega
theorem Tp.free (h : Tp w B g ob s) (hp : w.heap.size ≤ p) : p ≠ g ∧ some p ≠ ob := ⟨fun e => by have := h.lo_.2; omega, fun e => by have := (h.obl p e.symm).2.1; omega⟩
theorem zero_box {g p n c : Nat} {ob : Option Nat} {A : Option Addr} {bs : List UInt8} (hok : ∀ b, w.heap.size ≤ b → b ≠ g ∧ some b ≠ ob ∧ b ≠ p) (hr : Rk w (fun b => b ≠ g ∧ some b ≠ ob ∧ b ≠ p) A n c bs) :
    Below w.heap.size w (w.alloc (.cells #[.int .i64 0, .slice none 0 0, .int .i64 0, .int .i64 0, .bool false] 33)).drew ∧ (∀ b, (w.alloc (.cells #[.int .i64 0, .slice none 0 0, .int .i64 0, .int .i64 0, .bool false] 33)).drew.heap.size ≤ b → b ≠ g ∧ some b ≠ ob ∧ b ≠ p ∧ b ≠ w.heap.size) ∧ Rk (w.alloc (.cells #[.int .i64 0, .slice none 0 0, .int .i64 0, .int .i64 0, .bool false] 33)).drew (fun b => b ≠ g ∧ some b ≠ ob ∧ b ≠ p ∧ b ≠ w.heap.size) A n c bs ∧ BoxD (w.alloc (.cells #[.int .i64 0, .slice none 0 0, .int .i64 0, .int .i64 0, .bool false] 33)).drew w.heap.size ⟨0, [], 0, 0, false⟩ none 0 0 := by
  have ha : Below w.heap.size w (w.alloc (.cells #[.int .i64 0, .slice none 0 0, .int .i64 0, .int .i64 0, .bool false] 33)) := (Below.refl _ _).alloc (Nat.le_refl _) _
  have hb : Below w.heap.size w (w.alloc (.cells #[.int .i64 0, .slice none 0 0, .int .i64 0, .int .i64 0, .bool false] 33)).drew := ha.trans ((bel_drewN (Below.refl _ _) 1).mono ha.size)
  have hz : (w.alloc (.cells #[.int .i64 0, .slice none 0 0, .int .i64 0, .int .i64 0, .bool false] 33)).drew.heap.size = w.heap.size + 1 := by show (w.alloc _).heap.size = _; simp
  refine ⟨hb, fun b h => ?_, (hr.mono fun b h hl => ⟨h.1, h.2.1, h.2.2, by omega⟩).later hb, ?_⟩
  · obtain ⟨h1, h2, h3⟩ := hok b (by omega)
    exact ⟨h1, h2, h3, by omega⟩
  · exact (BoxD.new (s := ⟨0, [], 0, 0, false⟩) rfl).later (bel_drewN (Below.refl _ _) 1)
end
end Tpe
end Go.Proofs.Ytcffbgehopjgpaa
