/- The contracts of layer 6 as its laws use them, with names for what is answered: what is in a set, its front, how many; the front's numbers. -/
import Derived.Test.YtcdpmedihgobcaaSpanAwake
import Derived.Test.YtcdpmedihgobcaaSpanHas0
namespace Go.Proofs.Ytcdpmedihgobcaa
open Go.ChangeShapes Go.WideShapes Go.ChangeAt Go.RowKit
namespace Sp
section
variable (l : List (Int × Int)) (n : Nat) (A : Option Addr) (c : Nat) (w : World)
/-- a slice that reads as l -/
def SlIs (q : Nat) (u : List (Int × Int)) (w : World) (e : Ending) (w' : World) : Prop := ∃ A' c', e = .returned (.slice A' q c') ∧ Rd w' w'.heap.size 2 A' q c' (runsC u) ∧ Below w.heap.size w w'
theorem runs_to (hl : l.length = n) (hn : n ≤ 800000) (hr : Rd w w.heap.size 2 A n c (runsC l)) : Calls Try.prog 12 #[.slice A n c] w (SlIs n l w) :=
  (runs_any l n A c w hl hn hr).mono fun _ _ ⟨A', c', he, ho, hb⟩ => ⟨A', c', he, ho.rd, hb⟩
theorem plain_to (hl : l.length = n) (hn : n ≤ 800000) (hr : Rd w w.heap.size 2 A n c (runsC l)) : Calls Try.prog 30 #[.slice A n c] w (SlIs n l w) :=
  (plain_any l n A c w hl hn hr).mono fun _ _ ⟨A', c', he, ho, hb⟩ => ⟨A', c', he, ho.rd, hb⟩
theorem has_to (v : Int) (hl : l.length = n) (hn : n ≤ 800000) (hr : Rd w w.heap.size 2 A n c (runsC l)) (p : Bool) (hp : (rightB l && hasB l v) = p) : Calls Try.prog 22 #[.slice A n c, .int .i64 v] w fun e w' => e = .returned (.bool p) ∧ Below w.heap.size w w' := by
  subst hp; exact has_any l n A c v w hl (by omega) hr
theorem refhas_to (v : Int) (hl : l.length = n) (hn : n ≤ 800000) (hr : Rd w w.heap.size 2 A n c (runsC l)) (p : Bool) (hp : hasB l v = p) : Calls Try.prog 23 #[.slice A n c, .int .i64 v] w fun e w' => e = .returned (.bool p) ∧ Below w.heap.size w w' := by
  subst hp; exact (refhas_any l n A c w hl (by omega) hr v).mono fun _ _ ⟨he, hw⟩ => ⟨he, by rw [hw]; exact Below.refl _ _⟩
theorem right_to (hl : l.length = n) (hn : n ≤ 800000) (hr : Rd w w.heap.size 2 A n c (runsC l)) (b : Bool) (hb : rightB l = b) : Calls Try.prog 14 #[.slice A n c] w fun e w' => e = .returned (.bool b) ∧ Below w.heap.size w w' := by
  subst hb; exact right_any l n A c w hl (by omega) hr
theorem refright_to (hl : l.length = n) (hn : n ≤ 800000) (hr : Rd w w.heap.size 2 A n c (runsC l)) (b : Bool) (hb : rightB l = b) : Calls Try.prog 13 #[.slice A n c] w fun e w' => e = .returned (.bool b) ∧ Below w.heap.size w w' := by
  subst hb; exact refright_any l n A c w hl (by omega) hr
theorem front_to (hl : l.length = n) (hn : n ≤ 800000) (hr : Rd w w.heap.size 2 A n c (runsC l)) (b : Bool) (hb : rightB l = b) (x : Int) (hx : (if b then frontI l else 0) = x) : Calls Try.prog 15 #[.slice A n c] w fun e w' => e = .returned (.int .i64 x) ∧ Below w.heap.size w w' := by
  subst hx; exact front_any l n A c w hl (by omega) hr b hb
theorem count_to (hl : l.length = n) (hn : n ≤ 800000) (hr : Rd w w.heap.size 2 A n c (runsC l)) (b : Bool) (hb : rightB l = b) (x : Int) (hx : (if b then countI l else 0) = x) : Calls Try.prog 16 #[.slice A n c] w fun e w' => e = .returned (.int .i64 x) ∧ Below w.heap.size w w' := by
  subst hx; exact count_any l n A c w hl (by omega) hr b hb
theorem reffront_to (hl : l.length = n) (hn : n ≤ 800000) (hr : Rd w w.heap.size 2 A n c (runsC l)) (hR : RightF 1 l) (x : Int) (hx : frontI l = x) : Calls Try.prog 17 #[.slice A n c] w fun e w' => e = .returned (.int .i64 x) ∧ Below w.heap.size w w' := by
  subst hx; exact (reffront_any l n A c w hl (by omega) hr hR).mono fun _ _ ⟨he, hw⟩ => ⟨he, by rw [hw]; exact Below.refl _ _⟩
theorem refcount_to (hl : l.length = n) (hn : n ≤ 800000) (hr : Rd w w.heap.size 2 A n c (runsC l)) (hR : RightF 1 l) (x : Int) (hx : countI l = x) : Calls Try.prog 18 #[.slice A n c] w fun e w' => e = .returned (.int .i64 x) ∧ Below w.heap.size w w' := by
  subst hx; exact refcount_any l n A c w hl (by omega) hr hR
end
section
variable (a b : List (Int × Int)) (n m : Nat) (A B : Option Addr) (c d : Nat) (w : World)
theorem same_to (ha : a.length = n) (hb : b.length = m) (hn : n ≤ 800000) (hra : Rd w w.heap.size 2 A n c (runsC a)) (hrb : Rd w w.heap.size 2 B m d (runsC b)) (he : a = b) :
    Calls Try.prog 20 #[.slice A n c, .slice B m d] w fun e w' => e = .returned (.bool true) ∧ Below w.heap.size w w' := by
  have := same_any a b n m A B c d w ha hb hn hra hrb
  rwa [decide_eq_true he] at this
end
/-- a row of slices, new -/
theorem sets_to (ps : List SP) (cs : Array Value) (n : Nat) (w : World) (hcs : cs.toList = ps.map fun p => .slice p.A p.n p.c) (hn : ps.length = n) (hn10 : n ≤ 10) (hr : ∀ p ∈ ps, p.l.length = p.n ∧ Rd w w.heap.size 2 p.A p.n p.c (runsC p.l)) (z : Bool) (hz : ps.all SP.ok = z) :
    Calls Try.prog 27 #[.slice (some ⟨w.heap.size, 0, none⟩) n n] (w.alloc (.cells cs 22)) fun e w' => e = .returned (.bool z) ∧ Below w.heap.size w w' := by
  subst hz
  refine (sets_any ps n w.heap.size (w.alloc (.cells cs 22)) hn hn10 (by simp) (fun k hk => ?_) (fun p hp => ⟨(hr p hp).1, ((hr p hp).2.alloc (Nat.le_refl _) _).more (by simp)⟩)).mono fun e w' ⟨he, hb⟩ => ⟨he, ((Below.refl w.heap.size w).alloc (Nat.le_refl _) _).trans (hb.mono (by simp))⟩
  rw [cell_of_row _ _ k _ _ (0, 0) (heap_alloc_new _ _), ← Array.getElem?_toList, hcs]
  simp [hk]
theorem front_spec {l : List (Int × Int)} (h : RightF 1 l) : 0 ≤ frontI l ∧ frontI l ≤ 1099511627776 ∧ hasB l (frontI l + 1) = false ∧ ∀ n, 1 ≤ n → n ≤ frontI l → hasB l n = true := by
  cases l with
  | nil => exact ⟨Int.le_refl _, by decide, rfl, fun n h1 h2 => by have h2 : n ≤ 0 := h2; omega⟩
  | cons r l =>
    obtain ⟨h1, h2, h3, h4⟩ := h
    by_cases hr : r.1 = 1
    · have e : frontI (r :: l) = r.2 := by simp [frontI, hr]
      rw [e]
      refine ⟨by omega, h3, ?_, fun n n1 n2 => has_true.2 ⟨r, List.mem_cons_self, by omega, n2⟩⟩
      rw [has_cons, has_lt h4 (by omega)]
      simp; omega
    · have e : frontI (r :: l) = 0 := by simp [frontI, hr]
      rw [e]
      refine ⟨Int.le_refl _, by decide, ?_, fun n n1 n2 => by omega⟩
      rw [has_cons, has_lt h4 (by omega)]
      simp; omega
end Sp
end Go.Proofs.Ytcdpmedihgobcaa
