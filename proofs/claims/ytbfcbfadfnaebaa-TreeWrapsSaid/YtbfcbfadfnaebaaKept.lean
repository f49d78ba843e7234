/- Cells that are kept while other calls make memory. Nothing here speaks of a program. -/
import Derived.Test.YtbfcbfadfnaebaaWords
namespace Go.Proofs.Ytbfcbfadfnaebaa
open Go.RowKit
/-- the cells l lie there as they did; nothing that was there in w0 has turned -/
def Kept (l : List (Addr × Value)) (w0 w : World) : Prop := Below w0.heap.size w0 w ∧ ∀ x ∈ l, x.1.block < w.heap.size ∧ w.cell? x.1 = some x.2
namespace Kept
variable {l : List (Addr × Value)} {w0 w w' : World} {p : Addr} {v : Value}
theorem below (h : Kept l w0 w) : Below w0.heap.size w0 w := h.1
theorem nil (w : World) : Kept [] w w := ⟨Below.refl _ _, by simp⟩
theorem nil_of (h : Below w0.heap.size w0 w) : Kept [] w0 w := ⟨h, by simp⟩
theorem cons (h : Kept l w0 w) (hp : p.block < w.heap.size) (hv : w.cell? p = some v) : Kept ((p, v) :: l) w0 w :=
  ⟨h.1, fun x hx => by
    rcases List.mem_cons.1 hx with rfl | hx
    · exact ⟨hp, hv⟩
    · exact h.2 x hx⟩
theorem cons_of (h : Kept l w0 w) (hv : w.cell? p = some v) : Kept ((p, v) :: l) w0 w := h.cons (by obtain ⟨b, o, s⟩ := p; exact World.block_lt_of_cell? w _ hv) hv
theorem later (h : Kept l w0 w) (hb : Below w.heap.size w w') : Kept l w0 w' :=
  ⟨h.1.trans (hb.mono h.1.size), fun x hx => ⟨Nat.lt_of_lt_of_le (h.2 x hx).1 hb.size, (hb.cell (p := x.1) (h.2 x hx).1).trans (h.2 x hx).2⟩⟩
theorem alloc (h : Kept l w0 w) (o : Obj) : Kept l w0 (w.alloc o) := h.later ((Below.refl _ _).alloc (Nat.le_refl _) _)
theorem drew (h : Kept l w0 w) : Kept l w0 w.drew := h.later ((bel_drewN (Below.refl _ _) 1))
theorem drewN (h : Kept l w0 w) (n : Nat) : Kept l w0 (w.drewN n) := h.later ((bel_drewN (Below.refl _ _) n))
/-- a cell of a newer block is written -/
theorem set (h : Kept l w0 w) {a : Addr} (ha : w0.heap.size ≤ a.block) (hl : ∀ x ∈ l, x.1.block ≠ a.block) (u : Value) : Kept l w0 (w.setCell a u) :=
  ⟨h.1.setCell ha _, fun x hx => ⟨by simpa [World.setCell] using (h.2 x hx).1, (World.cell?_setCell_other w a x.1 u (fun e => hl x hx (by rw [e]))).trans (h.2 x hx).2⟩⟩
theorem tail {x : Addr × Value} (h : Kept (x :: l) w0 w) : Kept l w0 w := ⟨h.1, fun y hy => h.2 y (List.mem_cons_of_mem _ hy)⟩
theorem head {x : Addr × Value} (h : Kept (x :: l) w0 w) : w.cell? x.1 = some x.2 := (h.2 x (List.mem_cons_self)).2
theorem c0 (h : Kept ((p, v) :: l) w0 w) : w.cell? p = some v := h.head
theorem c1 {x0 : Addr × Value} (h : Kept (x0 :: (p, v) :: l) w0 w) : w.cell? p = some v := h.tail.head
theorem c2 {x0 x1 : Addr × Value} (h : Kept (x0 :: x1 :: (p, v) :: l) w0 w) : w.cell? p = some v := h.tail.tail.head
theorem c3 {x0 x1 x2 : Addr × Value} (h : Kept (x0 :: x1 :: x2 :: (p, v) :: l) w0 w) : w.cell? p = some v := h.tail.tail.tail.head
theorem c4 {x0 x1 x2 x3 : Addr × Value} (h : Kept (x0 :: x1 :: x2 :: x3 :: (p, v) :: l) w0 w) : w.cell? p = some v := h.tail.tail.tail.tail.head
theorem c5 {x0 x1 x2 x3 x4 : Addr × Value} (h : Kept (x0 :: x1 :: x2 :: x3 :: x4 :: (p, v) :: l) w0 w) : w.cell? p = some v := h.tail.tail.tail.tail.tail.head
theorem c6 {x0 x1 x2 x3 x4 x5 : Addr × Value} (h : Kept (x0 :: x1 :: x2 :: x3 :: x4 :: x5 :: (p, v) :: l) w0 w) : w.cell? p = some v := h.tail.tail.tail.tail.tail.tail.head
theorem c7 {x0 x1 x2 x3 x4 x5 x6 : Addr × Value} (h : Kept (x0 :: x1 :: x2 :: x3 :: x4 :: x5 :: x6 :: (p, v) :: l) w0 w) : w.cell? p = some v := h.tail.tail.tail.tail.tail.tail.tail.head
end Kept
/-- block g may be written -/
def Free (g : Nat) (w : World) : Prop := g < w.heap.size ∧ ∀ j, w.frozen? ⟨g, j, none⟩ = false
namespace Free
variable {g : Nat} {w w' : World}
theorem later (h : Free g w) (hb : Below w.heap.size w w') : Free g w' := ⟨Nat.lt_of_lt_of_le h.1 hb.size, fun j => (hb.frozen (p := ⟨g, j, none⟩) h.1).trans (h.2 j)⟩
theorem alloc (h : Free g w) (o : Obj) : Free g (w.alloc o) := h.later ((Below.refl _ _).alloc (Nat.le_refl _) _)
theorem drewN (h : Free g w) (n : Nat) : Free g (w.drewN n) := h.later ((bel_drewN (Below.refl _ _) n))
theorem drew (h : Free g w) : Free g w.drew := h.later ((bel_drewN (Below.refl _ _) 1))
theorem set (h : Free g w) (a : Addr) (u : Value) : Free g (w.setCell a u) := ⟨by simpa [World.setCell] using h.1, fun j => by rw [World.frozen?_setCell]; exact h.2 j⟩
end Free
/-- a contract that makes memory, with what is kept -/
theorem calls_kept {P : Program} {f : FuncId} {args : Array Value} {l : List (Addr × Value)} {w0 w : World} {r : Value} (hc : Calls P f args w fun e w' => e = .returned r ∧ Below w.heap.size w w') (h : Hid (Kept l w0 w)) :
    Calls P f args w fun e w' => e = .returned r ∧ Hid (Kept l w0 w') := hc.mono fun _ _ ⟨he, hb⟩ => ⟨he, h.out.later hb⟩
end Go.Proofs.Ytbfcbfadfnaebaa
