/- Cells that are kept while other calls make memory. Nothing here speaks of a program. -/
import Derived.Test.YtcffbgehopjgpaaWords
namespace Go.Proofs.Ytcffbgehopjgpaa
open Go.RowKit
/-- the cells l lie there as they did; nothing that was there in w0 has turned -/
def Kept (l : List (Addr × Value)) (w0 w : World) : Prop := Below w0.heap.size w0 w ∧ ∀ x ∈ l, x.1.block < w.heap.size ∧ w.cell? x.1 = some x.2
namespace Kept
variable {l : List (Addr × Value)} {w0 w w' : World} {p : Addr} {v : Value}
theorem below (h : Kept l w0 w) : Below w0.heap.size w0 w := h.1
theorem nil (w : World) : Kept [] w w := ⟨Below.refl _ _, by simp⟩
theorem nil_of (h : Below w0.heap.size w0 w) : Kept [] w0 w := ⟨h, by simp⟩
theorem cons (h : Kept l w0 w) (hp : p.block < w.heap.size) (hv : w.cell? p = some v) : Kept ((p, v) :: l) w0 w :=
  ⟨h.1, fun x hx => by
    rcases List.mem_cons.1 hx with rfl | hx
    · exact ⟨hp, hv⟩
    · exact h.2 x hx⟩
theorem cons_of (h : Kept l w0 w) (hv : w.cell? p = some v) : Kept ((p, v) :: l) w0 w := h.cons (by obtain ⟨b, o, s⟩ := p; exact World.block_lt_of_cell? w _ hv) hv
theorem later (h : Kept l w0 w) (hb : Below w.heap.size w w') : Kept l w0 w' :=
  ⟨h.1.trans (hb.mono h.1.size), fun x hx => ⟨Nat.lt_of_lt_of_le (h.2 x hx).1 hb.size, (hb.cell (p := x.1) (h.2 x hx).1).trans (h.2 x hx).2⟩⟩
theorem alloc (h : Kept l w0 w) (o : Obj) : Kept l w0 (w.alloc o) := h.later ((Below.refl _ _).alloc (Nat.le_refl _) _)
theorem drew (h : Kept l w0 w) : Kept l w0 w.drew := h.later ((bel_drewN (Below.refl _ _) 1))
theorem drewN (h : Kept l w0 w) (n : Nat) : Kept l w0 (w.drewN n) := h.later ((bel_drewN (Below.refl _ _) n))
/-- a cell of a newer block is written -/
theorem set (h : Kept l w0 w) {a : Addr} (ha : w0.heap.size ≤ a.block) (hl : ∀ x ∈ l, x.1.block ≠ a.block) (u : Value) : Kept l w0 (w.setCell a u) :=
  ⟨h.1.setCell ha _, fun x hx => ⟨by simpa [World.setCell] using (h.2 x hx).1, (World.cell?_setCell_other w a x.1 u (fun e => hl x hx (by rw [e]))).trans (h.2 x hx).2⟩⟩
theorem tail {x : Addr × Value} (h : Kept (x :: l) w0 w) : Kept l w0 w := ⟨h.1, fun y hy => h.2 y (List.mem_cons_of_mem _ hy)⟩
theorem head {x : Addr × Value} (h : Kept (x :: l) w0 w) : w.cell? x.1 = some x.2 := (h.2 x (List.mem_cons_self)).2
theorem c0 (h : Kept ((p, v) :: l) w0 w) : w.cell? p = some v := h.head
theorem c1 {x0 : Addr × Value} (h : Kept (x0 :: (p, v) :: l) w0 w) : w.cell? p = some v := h.tail.head
theorem c2 {x0 x1 : Addr × Value} (h : Kept (x0 :: x1 :: (p, v) :: l) w0 w) : w.cell? p = some v := h.tail.tail.head
theorem c3 {x0 x1 x2 : Addr × Value} (h : Kept (x0 :: x1 :: x2 :: (p, v) :: l) w0 w) : w.cell? p = some v := h.tail.tail.tail.head
theorem c4 {x0 x1 x2 x3 : Addr × Value} (h : Kept (x0 :: x1 :: x2 :: x3 :: (p, v) :: l) w0 w) : w.cell? p = some v := h.tail.tail.tail.tail.head
theorem c5 {x0 x1 x2 x3 x4 : Addr × Value} (h : Kept (x0 :: x1 :: x2 :: x3 :: x4 :: (p, v) :: l) w0 w) : w.cell? p = some v := h.tail.tail.tail.tail.tail.head
theorem c6 {x0 x1 x2 x3 x4 x5 : Addr × Value} (h : Kept (x0 :: x1 :: x2 :: x3 :: x4 :: x5 :: (p, v) :: l) w0 w) : w.cell? p = some v := h.tail.tail.tail.tail.tail.tail.head
theorem t8 {x0 x1 x2 x3 x4 x5 x6 x7 : Addr × Value} (h : Kept (x0 :: x1 :: x2 :: x3 :: x4 :: x5 :: x6 :: x7 :: l) w0 w) : Kept l w0 w := h.tail.tail.tail.tail.tail.tail.tail.tail
theorem c7 {x0 x1 x2 x3 x4 x5 x6 : Addr × Value} (h : Kept (x0 :: x1 :: x2 :: x3 :: x4 :: x5 :: x6 :: (p, v) :: l) w0 w) : w.cell? p = some v := h.tail.tail.tail.tail.tail.tail.tail.head
/-- three cells of a newer block are written -/
theorem st3 (h : Kept l w0 w) {g : Nat} (ha : w0.heap.size ≤ g) (hl : ∀ x ∈ l, x.1.block ≠ g) (a b c : Value) : Kept l w0 (((w.setCell ⟨g, 0, none⟩ a).setCell ⟨g, 1, none⟩ b).setCell ⟨g, 2, none⟩ c) := ((h.set (a := ⟨g, 0, none⟩) ha hl a).set (a := ⟨g, 1, none⟩) ha hl b).set (a := ⟨g, 2, none⟩) ha hl c
end Kept
/-- all of these cells hold what they are said to -/
def Conj : List (Addr × Value) → World → Prop
  | [], _ => True
  | (a, v) :: l, w => w.cell? a = some v ∧ Conj l w
theorem Kept.cj {w0 w : World} : ∀ {l : List (Addr × Value)}, Kept l w0 w → Conj l w
  | [], _ => trivial
  | (_, _) :: _, h => ⟨h.head, Kept.cj h.tail⟩
/-- block g may be written -/
def Free (g : Nat) (w : World) : Prop := g < w.heap.size ∧ ∀ j, w.frozen? ⟨g, j, none⟩ = false
namespace Free
variable {g : Nat} {w w' : World}
theorem later (h : Free g w) (hb : Below w.heap.size w w') : Free g w' := ⟨Nat.lt_of_lt_of_le h.1 hb.size, fun j => (hb.frozen (p := ⟨g, j, none⟩) h.1).trans (h.2 j)⟩
theorem alloc (h : Free g w) (o : Obj) : Free g (w.alloc o) := h.later ((Below.refl _ _).alloc (Nat.le_refl _) _)
theorem drewN (h : Free g w) (n : Nat) : Free g (w.drewN n) := h.later ((bel_drewN (Below.refl _ _) n))
theorem drew (h : Free g w) : Free g w.drew := h.later ((bel_drewN (Below.refl _ _) 1))
theorem set (h : Free g w) (a : Addr) (u : Value) : Free g (w.setCell a u) := ⟨by simpa [World.setCell] using h.1, fun j => by rw [World.frozen?_setCell]; exact h.2 j⟩
end Free
instance {l : List (Addr × Value)} {w0 : World} {v v' : World} : Las v v' (Kept l w0 v) (Kept l w0 v') := ⟨fun h hb => h.later hb⟩
instance {g : Nat} {v v' : World} : Las v v' (Free g v) (Free g v') := ⟨fun h hb => h.later hb⟩
/-- a region's first world -/
theorem drq (v : World) : ∃ v' : World, v' = v.drew ∧ Below v.heap.size v v' := ⟨_, rfl, bel_drewN (Below.refl _ _) 1⟩
/-- a box is laid -/
theorem bq1 (w : World) (a : Value) (t : TypeId) : ∃ (g : Nat) (W : World), g = w.heap.size ∧ W = w.alloc (.cells #[a] t) ∧ Below w.heap.size w W ∧ W.cell? ⟨g, 0, none⟩ = some a :=
  ⟨_, _, rfl, rfl, (Below.refl _ _).alloc (Nat.le_refl _) _, by go_simp⟩
theorem bq2 (w : World) (a b : Value) (t : TypeId) : ∃ (g : Nat) (W : World), g = w.heap.size ∧ W = w.alloc (.cells #[a, b] t) ∧ Below w.heap.size w W ∧ W.cell? ⟨g, 0, none⟩ = some a ∧ W.cell? ⟨g, 1, none⟩ = some b :=
  ⟨_, _, rfl, rfl, (Below.refl _ _).alloc (Nat.le_refl _) _, by go_simp, by go_simp⟩
theorem bq3 (w : World) (a b c : Value) (t : TypeId) : ∃ (g : Nat) (W : World), g = w.heap.size ∧ W = w.alloc (.cells #[a, b, c] t) ∧ Below w.heap.size w W ∧ W.cell? ⟨g, 0, none⟩ = some a ∧ W.cell? ⟨g, 1, none⟩ = some b ∧ W.cell? ⟨g, 2, none⟩ = some c :=
  ⟨_, _, rfl, rfl, (Below.refl _ _).alloc (Nat.le_refl _) _, by go_simp, by go_simp, by go_simp⟩
theorem bq4 (w : World) (a b c d : Value) (t : TypeId) : ∃ (g : Nat) (W : World), g = w.heap.size ∧ W = w.alloc (.cells #[a, b, c, d] t) ∧ Below w.heap.size w W ∧ W.cell? ⟨g, 0, none⟩ = some a ∧ W.cell? ⟨g, 1, none⟩ = some b ∧ W.cell? ⟨g, 2, none⟩ = some c ∧ W.cell? ⟨g, 3, none⟩ = some d :=
  ⟨_, _, rfl, rfl, (Below.refl _ _).alloc (Nat.le_refl _) _, by go_simp, by go_simp, by go_simp, by go_simp⟩
section
variable {w w' v W : World} {g r p o : Nat} {o' : Obj} {u a b c a' b' c' : Value}
theorem frq {cs : Array Value} {t : TypeId} (hg : g = v.heap.size) (hv : W = v.alloc (.cells cs t)) : Hid (Free g W) := ⟨by rw [hv, hg]; simp, fun j => by rw [hv, hg]; go_simp⟩
theorem szq (hg : g = v.heap.size) (h : Below w.heap.size w v) : w.heap.size ≤ g := by rw [hg]; exact h.size
theorem nbq (hg : g = v.heap.size) (hc : v.cell? ⟨p, o, none⟩ = some u) : p ≠ g := by
  have h := World.block_lt_of_cell? v _ hc
  dsimp only at h
  omega
theorem b3q (hW : W = ((v.setCell ⟨r, 0, none⟩ a).setCell ⟨r, 1, none⟩ b).setCell ⟨r, 2, none⟩ c) (h : Below w.heap.size w v) (hr : w.heap.size ≤ r) : Hid (Below w.heap.size w W) := by
  unfold Hid
  rw [hW]
  exact ((h.setCell (p := ⟨r, 0, none⟩) hr _).setCell (p := ⟨r, 1, none⟩) hr _).setCell (p := ⟨r, 2, none⟩) hr _
theorem l3q (hW : W = ((v.setCell ⟨r, 0, none⟩ a).setCell ⟨r, 1, none⟩ b).setCell ⟨r, 2, none⟩ c) (z0 : v.cell? ⟨r, 0, none⟩ = some a') (z1 : v.cell? ⟨r, 1, none⟩ = some b') (z2 : v.cell? ⟨r, 2, none⟩ = some c') : W.cell? ⟨r, 0, none⟩ = some a ∧ W.cell? ⟨r, 1, none⟩ = some b ∧ W.cell? ⟨r, 2, none⟩ = some c := by
  subst hW
  refine ⟨?_, ?_, ?_⟩ <;> go_simp
end
/-- a contract that makes memory, with what is kept -/
theorem calls_kept {P : Program} {f : FuncId} {args : Array Value} {l : List (Addr × Value)} {w0 w : World} {r : Value} (hc : Calls P f args w fun e w' => e = .returned r ∧ Below w.heap.size w w') (h : Hid (Kept l w0 w)) :
    Calls P f args w fun e w' => e = .returned r ∧ Hid (Kept l w0 w') := hc.mono fun _ _ ⟨he, hb⟩ => ⟨he, h.out.later hb⟩
end Go.Proofs.Ytcffbgehopjgpaa
