/- Texts of the lower layers, and of layer 9, put together. -/
import Derived.Test.YtolanjimmbpijaaGreatG140
import Derived.Test.YtolanjimmbpijaaGreatCauOwnRef
import Derived.Test.YtolanjimmbpijaaGreatCauAll
import Derived.Test.YtolanjimmbpijaaGreatG130
namespace Go.Proofs.YtolanjimmbpijaaGreat
open Go.ChangeShapes Go.WideShapes Go.ChangeAt Go.RowKit
namespace Cs
open Tr Cx Sp Rw Classical
def MidJ (v : World) (g : Nat) (p : CP) (w : World) : Prop := RdP w p ∧ Kept [(⟨g, 0, none⟩, .slice p.e.A p.e.n p.e.c), (⟨g, 1, none⟩, .slice p.d.A p.d.n p.d.c), (⟨g, 2, none⟩, .slice p.c.A p.c.n p.c.c)] v w
theorem cpV_flat : ∀ ps : List CP, (ps.flatMap cpV).length = ps.length * 3
 | [] => rfl
 | p :: ps => by rw [List.flatMap_cons, List.length_append, cpV_flat ps, cpV_len, List.length_cons]; omega
theorem rd_rowP (w : World) (ps : List CP) (cs : Array Value) (n : Nat) (hn : ps.length = n) (hcs : cs.toList = ps.flatMap cpV) : Rd (w.alloc (.cells cs 34)) (w.heap.size + 1) 3 (some ⟨w.heap.size, 0, none⟩) n n (ps.flatMap cpV) :=
 ⟨by rw [cpV_flat, hn], Nat.le_refl _, fun u hu => by
  obtain ⟨p, _, h⟩ := List.mem_flatMap.1 hu
  exact cpV_one p u h, fun _ => ⟨_, _, rfl, by omega, fun j u hu => by
  rw [Nat.zero_add, cell_of_row _ _ j _ _ (0, 0) (heap_alloc_new _ _), ← Array.getElem?_toList, hcs]
  exact hu⟩⟩
theorem AllJ.rot {a : K} {l : List K} {x y : K} (h : AllJ (a :: l) x) (h2 : AllJ (l ++ [a]) y) : x = y := ext_st h.right h2.right fun p q => by
 rw [h.st, h2.st, stAll_append, stAll_one]; exact mx_comm (st_at a p q) (stAll_at l p q)
end Cs
end Go.Proofs.YtolanjimmbpijaaGreat
namespace Go.Proofs.YtolanjimmbpijaaGreat
open Go.ChangeShapes Go.WideShapes Go.ChangeAt Go.RowKit
namespace Cs
open Tr Cx Sp Rw Classical
theorem rd_one (w : World) (p : CP) : Rd (w.alloc (.cells #[.slice p.e.A p.e.n p.e.c, .slice p.d.A p.d.n p.d.c, .slice p.c.A p.c.n p.c.c] 34)) (w.heap.size + 1) 3 (some ⟨w.heap.size, 0, none⟩) 1 1 ([p].flatMap cpV) :=
 ⟨rfl, Nat.le_refl _, fun u hu => cpV_one p u (by simpa using hu), fun _ => ⟨_, _, rfl, by omega, fun j u hu => by
  rw [Nat.zero_add, cell_of_row _ _ j _ _ (0, 0) (heap_alloc_new _ _)]
  simpa [cpV] using hu⟩⟩
set_option maxRecDepth 100000 in
theorem push_cau {w : World} {base n c : Nat} {A : Option Addr} {l : List CP} (h : Own w base 34 3 A n c (l.flatMap cpV)) (hb : base ≤ w.heap.size) (p : CP) (hn : n ≤ 1000) :
  ∃ A' c' w', (Builtin.append_ #[44, 44] 44 #[.slice A n c, .slice (some ⟨w.heap.size, 0, none⟩) 1 1]).run Tryz.prog (w.alloc (.cells #[.slice p.e.A p.e.n p.e.c, .slice p.d.A p.d.n p.d.c, .slice p.c.A p.c.n p.c.c] 34)) = .ok (.slice A' (n + 1) c') w' ∧ Own w' base 34 3 A' (n + 1) c' ((l ++ [p]).flatMap cpV) ∧ Below base w w' ∧ w.heap.size ≤ w'.heap.size ∧ ∀ b, b < w.heap.size → (Value.slice A n c).ownBlock ≠ some b → w'.heap[b]? = w.heap[b]? ∧ (Value.slice A' (n + 1) c').ownBlock ≠ some b := by
 obtain ⟨i0, hi0, hz0, hz1, hz2⟩ := info_of infoC; obtain ⟨W, hW⟩ : ∃ W, W = w.alloc (.cells #[.slice p.e.A p.e.n p.e.c, .slice p.d.A p.d.n p.d.c, .slice p.c.A p.c.n p.c.c] 34) := ⟨_, rfl⟩
 have hal : Below w.heap.size w W := by rw [hW]; exact (Below.refl _ _).alloc (Nat.le_refl _) _
 have hsz : W.heap.size = w.heap.size + 1 := by rw [hW]; simp
 have hone := rd_one w p; rw [← hW] at hone ⊢; obtain ⟨v', w', r1, r2, r3, r4⟩ := run_app (P := Tryz.prog) W base 44 44 34 i0 _ 3 72 Tryz.underlying44 hi0 hz0 hz1 hz2 rfl (by omega) (own_later h hal).row hone (by omega) (by omega) (by omega)
 have e1 : (l ++ [p]).flatMap cpV = l.flatMap cpV ++ [p].flatMap cpV := by simp
 rw [← e1] at r2
 obtain ⟨A', c', rfl, ho⟩ := Own.of_row r2 (fun u hu => by
  obtain ⟨x, _, hu⟩ := List.mem_flatMap.1 hu
  exact cpV_one x u hu)
 refine ⟨A', c', w', r1, ho, (hal.mono hb).trans ((Below.refl base W).grown r3 (by omega) (fun k hk => (h.row.lt k hk).1)), Nat.le_trans (by omega) r3.size, fun b hlt hne => ⟨?_, fun he => ?_⟩⟩
 ·rw [r3.block b (by omega) (fun e => hne e.symm)]
  exact hal.block b hlt
 ·rcases r4 with r4 | r4
  ·exact hne (r4.symm.trans he)
  ·have h3 : some b = some W.heap.size := he.symm.trans r4
   injection h3 with h3; omega
end Cs
end Go.Proofs.YtolanjimmbpijaaGreat
