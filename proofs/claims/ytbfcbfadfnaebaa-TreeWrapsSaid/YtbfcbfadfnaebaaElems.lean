/- Rows of elements of k cells, whatever an element is ('f' tells its cells): what a slice tells, what is appended, what is written. -/
import Derived.Test.YtbfcbfadfnaebaaSpanMem
namespace Go.Proofs.Ytbfcbfadfnaebaa
open Go.ChangeShapes Go.WideShapes Go.ChangeAt Go.RowKit
namespace Rw
open Sp
section
variable {α : Type} {f : α → List Value} {k : Nat}
theorem flat_at (hf : ∀ a, (f a).length = k) : ∀ (l : List α) (i j : Nat) (hi : i < l.length), j < k → (l.flatMap f)[i * k + j]? = (f l[i])[j]?
  | [], i, _, hi, _ => by simp at hi
  | a :: l, 0, j, _, hj => by
    rw [List.flatMap_cons, Nat.zero_mul, Nat.zero_add, List.getElem?_append_left (by rw [hf]; exact hj)]
    rfl
  | a :: l, i + 1, j, hi, hj => by
    have ih := flat_at hf l i j (by simpa using hi) hj
    have e : (i + 1) * k + j = k + (i * k + j) := by rw [Nat.succ_mul]; omega
    rw [List.flatMap_cons, e, List.getElem?_append_right (by rw [hf]; omega), hf, Nat.add_sub_cancel_left, ih]
    rfl
/-- the cells of an element that a slice tells -/
theorem rd_elem (hf : ∀ a, (f a).length = k) {w : World} {B n c : Nat} {A : Option Addr} {l : List α} (h : Rd w B k A n c (l.flatMap f)) {m : Nat} (hm : m < n) :
    ∃ b o, A = some ⟨b, o, none⟩ ∧ b < B ∧ ∀ (i : Nat) (hi : i < l.length) (j : Nat) (u : Value), (f l[i])[j]? = some u → w.cell? ⟨b, o + i * k + j, none⟩ = some u := by
  obtain ⟨b, o, e, hb, hc⟩ := h.at_ (by omega)
  refine ⟨b, o, e, hb, fun i hi j u hu => ?_⟩
  have hj : j < k := by
    have := (List.getElem?_eq_some_iff.1 hu).1
    rwa [hf] at this
  rw [Nat.add_assoc]
  exact hc _ _ ((flat_at hf l i j hi hj).trans hu)
/-- append of one element that the call has just laid -/
theorem push (hf : ∀ a, (f a).length = k) (h1 : ∀ a, ∀ u ∈ f a, u.oneCell' = true) {t e by_ : Nat} {z : Value} (ht : Try.prog.underlying t = some (.slice e)) (hi : (Try.prog.info? e).map (fun i => (i.zero, i.size, i.bytes)) = some (some z, k, by_)) (hzs : z.cells.size = k) (hk : 0 < k) (hby : by_ ≤ 1000000)
    (W : World) (base q : Nat) (hq : W.heap.size = q) (hb : base ≤ W.heap.size) (v : Value) (l : List α) (hown : W.ownsRow base e k v l.length (l.flatMap f)) (a : α) (cs : Array Value) (hcs : cs = (f a).toArray) (hn : l.length ≤ 900000) :
    ∃ A' c' w', (Builtin.append_ #[t, t] t #[v, .slice (some ⟨q, 0, none⟩) 1 1]).run Try.prog (W.alloc (.cells cs e)) = .ok (.slice A' (l ++ [a]).length c') w' ∧
      Own w' base e k A' (l ++ [a]).length c' ((l ++ [a]).flatMap f) ∧ Below base W w' := by
  subst hcs
  obtain ⟨v', w', r1, r2, r3⟩ := run_push ht hi hzs hk hby W base q hq hb v l.length (l.flatMap f) hown (f a) 1 (by rw [hf, Nat.one_mul]) (h1 a) (by omega)
  have e1 : (l ++ [a]).flatMap f = l.flatMap f ++ f a := by simp
  have e2 : (l ++ [a]).length = l.length + 1 := by simp
  rw [← e1, ← e2] at r2
  obtain ⟨A', c', rfl, ho⟩ := Own.of_row r2 (fun u hu => by
    obtain ⟨b, _, hu⟩ := List.mem_flatMap.1 hu
    exact h1 b u hu)
  exact ⟨A', c', w', r1, ho, r3⟩
end
/-- an int, an int64, an int64: a span's cells -/
def spC (s : Int × Int × Int) : List Value := [.int .i64 s.1, .int .i64 s.2.1, .int .i64 s.2.2]
theorem spC_len (s : Int × Int × Int) : (spC s).length = 3 := rfl
theorem spC_one (s : Int × Int × Int) : ∀ u ∈ spC s, u.oneCell' = true := by
  intro u hu
  simp [spC] at hu
  rcases hu with rfl | rfl | rfl <;> rfl
def spsC (l : List (Int × Int × Int)) : List Value := l.flatMap spC
theorem rd_span {w : World} {B n c : Nat} {A : Option Addr} {l : List (Int × Int × Int)} (h : Rd w B 3 A n c (spsC l)) {m : Nat} (hm : m < n) :
    ∃ b o, A = some ⟨b, o, none⟩ ∧ b < B ∧ ∀ (i : Nat) (hi : i < l.length), w.cell? ⟨b, o + i * 3, none⟩ = some (.int .i64 l[i].1) ∧ w.cell? ⟨b, o + i * 3 + 1, none⟩ = some (.int .i64 l[i].2.1) ∧ w.cell? ⟨b, o + i * 3 + 2, none⟩ = some (.int .i64 l[i].2.2) := by
  obtain ⟨b, o, e, hb, hc⟩ := rd_elem spC_len h hm
  exact ⟨b, o, e, hb, fun i hi => ⟨hc i hi 0 _ rfl, hc i hi 1 _ rfl, hc i hi 2 _ rfl⟩⟩
end Rw
end Go.Proofs.Ytbfcbfadfnaebaa
