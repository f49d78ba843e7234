/- An array of four in memory, cell by cell. -/
import Derived.Test.YtfkkjgebemnhnaaCtx1
namespace Go.Proofs.Ytfkkjgebemnhnaa
open Go.ChangeShapes Go.WideShapes Go.ChangeAt Go.RowKit
namespace Rw
open Sp
/-- block h holds four cells, and may be written -/
structure Cells4 (W : World) (h : Nat) (v : Nat → Value) : Prop where
  free : Free h W
  cell : ∀ j, j < 4 → W.cell? ⟨h, j, none⟩ = some (v j)
namespace Cells4
variable {W W' : World} {h : Nat} {v : Nat → Value}
theorem later (c : Cells4 W h v) (hb : Below W.heap.size W W') : Cells4 W' h v := ⟨c.free.later hb, fun j hj => (hb.cell (p := ⟨h, j, none⟩) c.free.1).trans (c.cell j hj)⟩
theorem new (W : World) (v : Nat → Value) (x0 x1 x2 x3 : Value) (t : TypeId) (e : (#[x0, x1, x2, x3] : Array Value) = #[v 0, v 1, v 2, v 3]) : Cells4 (W.alloc (.cells #[x0, x1, x2, x3] t)) W.heap.size v := by
  rw [e]
  refine ⟨⟨by simp, fun j => by go_simp⟩, fun j hj => ?_⟩
  rw [cell_of_row _ _ j _ _ (0, 0) (heap_alloc_new _ _)]
  rcases (by omega : j = 0 ∨ j = 1 ∨ j = 2 ∨ j = 3) with rfl | rfl | rfl | rfl <;> rfl
theorem set (c : Cells4 W h v) {d : Nat} (hd : d < 4) (u : Value) : Cells4 (W.setCell ⟨h, d, none⟩ u) h (upd v d u) := by
  refine ⟨c.free.set _ _, fun j hj => ?_⟩
  by_cases he : j = d
  · subst he
    rw [upd_same]
    have k0 := c.cell j hj
    have m0 := c.free.2 j
    go_simp
  · rw [upd_other _ _ he, World.cell?_setCell_other W ⟨h, d, none⟩ ⟨h, j, none⟩ _ (fun e => by injection e with _ e; exact he e.symm)]
    exact c.cell j hj
theorem other (c : Cells4 W h v) {a : Addr} (ha : a.block ≠ h) (u : Value) : Cells4 (W.setCell a u) h v :=
  ⟨c.free.set _ _, fun j hj => (World.cell?_setCell_other W a ⟨h, j, none⟩ u (fun e => ha (by rw [e]))).trans (c.cell j hj)⟩
theorem congr (c : Cells4 W h v) {v' : Nat → Value} (e : ∀ j, j < 4 → v j = v' j) : Cells4 W h v' := ⟨c.free, fun j hj => by rw [← e j hj]; exact c.cell j hj⟩
/-- all four are written -/
theorem put (c : Cells4 W h v) (x0 x1 x2 x3 : Value) : (Cx.put4 h x0 x1 x2 x3 W).cell? ⟨h, 0, none⟩ = some x0 ∧ (Cx.put4 h x0 x1 x2 x3 W).cell? ⟨h, 1, none⟩ = some x1 ∧ (Cx.put4 h x0 x1 x2 x3 W).cell? ⟨h, 2, none⟩ = some x2 ∧ (Cx.put4 h x0 x1 x2 x3 W).cell? ⟨h, 3, none⟩ = some x3 :=
  Cx.put4_cells c.free (c.cell 0 (by omega)) (c.cell 1 (by omega)) (c.cell 2 (by omega)) (c.cell 3 (by omega))
end Cells4
theorem rd_set {w : World} {B sz n c : Nat} {A : Option Addr} {xs : List Value} (h : Rd w B sz A n c xs) {a : Addr} (ha : ∀ b o, A = some ⟨b, o, none⟩ → 0 < n → b ≠ a.block) (u : Value) : Rd (w.setCell a u) B sz A n c xs :=
  ⟨h.len, h.cap, h.one, fun hn => by
    obtain ⟨b, o, e, hb, hc⟩ := h.at_ hn
    exact ⟨b, o, e, hb, fun j u' hu => (World.cell?_setCell_other w a ⟨b, o + j, none⟩ u (fun e2 => ha b o e hn (by rw [e2]))).trans (hc j u' hu)⟩⟩
theorem rb_set {w : World} {lo sz n c : Nat} {A : Option Addr} {xs : List Value} (h : Rb w lo sz A n c xs) {a : Addr} (ha : a.block < lo) (u : Value) : Rb (w.setCell a u) lo sz A n c xs :=
  ⟨h.len, h.cap, h.one, fun hn => by
    obtain ⟨b, o, e, hl, hb, hc⟩ := h.at_ hn
    exact ⟨b, o, e, hl, by simpa [World.setCell] using hb, fun j u' hu => (World.cell?_setCell_other w a ⟨b, o + j, none⟩ u (fun e2 => by rw [e2] at ha; dsimp only at ha; omega)).trans (hc j u' hu)⟩⟩
end Rw
end Go.Proofs.Ytfkkjgebemnhnaa
