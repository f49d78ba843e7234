/- Bytes in memory: cuts of a slice of bytes, as equations for the walk and as what they read; bytes as a text. -/
import Derived.Test.YtcffbgehopjgpaaBytesMem
namespace Go.Proofs.Ytcffbgehopjgpaa
open Go.RowKit
/-- 's[i:j]', as a rule for the walk: the address under a name. -/
theorem run_cut_both {P : Program} (t e : TypeId) (sz : Nat) (ht : P.underlying t = some (.slice e)) {i : TypeInfo} (hi : P.info? e = some i) (hsz : i.size = sz) (A : Option Addr) (n c k j : Nat) (hk : k ≤ j) (hj : j ≤ c) (w : World) :
    (Instr.slice t (.slice A n c) (some (.int .i64 (k : Nat))) (some (.int .i64 (j : Nat))) none).run P w = .ok (.slice (if c = k then A else A.map (·.add (k * sz))) (j - k) (c - k)) w := by
  subst hsz
  simp [Instr.slice, Instr.sliceBounds, Instr.sliceBound, asIntOf, run_underlying ht, sizeOf, typeInfo, hi, hk, hj]
namespace By
/-- where 's[k:]' lies -/
def cutA (A : Option Addr) (c k : Nat) : Option Addr := if c = k then A else A.map (·.add (k * 1))
theorem cut_to (A : Option Addr) (n c k : Nat) (hk : k ≤ c) (W : World) : (Instr.slice 23 (.slice A n c) none (some (.int .i64 (k : Nat))) none).run Try.prog W = .ok (.slice A k c) W := by
  obtain ⟨i0, hi0, _, hz1, _⟩ := info_parts8
  exact run_cut_to (P := Try.prog) 23 5 1 Try.underlying23 hi0 hz1 A n c k hk W
theorem cut_from (A : Option Addr) (n c k : Nat) (hk : k ≤ n) (W : World) : (Instr.slice 23 (.slice A n c) (some (.int .i64 (k : Nat))) none none).run Try.prog W = .ok (.slice (cutA A c k) (n - k) (c - k)) W := by
  obtain ⟨i0, hi0, _, hz1, _⟩ := info_parts8
  exact run_cut_from (P := Try.prog) 23 5 1 Try.underlying23 hi0 hz1 A n c k hk W
theorem cut_both (A : Option Addr) (n c k j : Nat) (hk : k ≤ j) (hj : j ≤ c) (W : World) : (Instr.slice 23 (.slice A n c) (some (.int .i64 (k : Nat))) (some (.int .i64 (j : Nat))) none).run Try.prog W = .ok (.slice (cutA A c k) (j - k) (c - k)) W := by
  obtain ⟨i0, hi0, _, hz1, _⟩ := info_parts8
  exact run_cut_both (P := Try.prog) 23 5 1 Try.underlying23 hi0 hz1 A n c k j hk hj W
section
variable {w : World} {B n c : Nat} {A : Option Addr} {bs : List UInt8}
theorem take8 (h : Rd w B 1 A n c (u8s bs)) {k : Nat} (hk : k ≤ n) : Rd w B 1 A k c (u8s (bs.take k)) := by
  have := h.to_ hk
  rwa [Nat.mul_one, ← u8s_take] at this
theorem drop8 (h : Rd w B 1 A n c (u8s bs)) {k : Nat} (hk : k ≤ n) : Rd w B 1 (cutA A c k) (n - k) (c - k) (u8s (bs.drop k)) := by
  have := h.from_ hk
  rw [Nat.mul_one, ← u8s_drop] at this
  unfold cutA
  rw [Nat.mul_one]
  exact this
theorem mid8 (h : Rd w B 1 A n c (u8s bs)) {k j : Nat} (hk : k ≤ j) (hj : j ≤ n) : Rd w B 1 (cutA A c k) (j - k) (c - k) (u8s ((bs.drop k).take (j - k))) := take8 (drop8 h (by omega)) (by omega)
theorem len8 (h : Rd w B 1 A n c (u8s bs)) : bs.length = n := by have := h.len; rw [u8s_length] at this; omega
theorem str8 (h : Rd w B 1 A n c (u8s bs)) : (convert 23 9 (.slice A n c)).run Try.prog w = .ok (.string (strOf bs)) w :=
  run_str (P := Try.prog) w 23 9 5 Try.underlying23 Try.underlying5 Try.underlying9 h
end
/-- append to a new row without an element -/
theorem run_new8 (W : World) {B : Nat} {A : Option Addr} {n c : Nat} {bs : List UInt8} (hr : Rd W B 1 A n c (u8s bs)) (hB : B ≤ W.heap.size) (hn : n ≤ 1000000) :
    ∃ A' c' w', (Builtin.append_ #[23, 23] 23 #[.slice (some ⟨W.heap.size, 0, none⟩) 0 0, .slice A n c]).run Try.prog (W.alloc (.cells #[] 5)) = .ok (.slice A' n c') w' ∧
      Own w' W.heap.size 5 1 A' n c' (u8s bs) ∧ Below W.heap.size W w' := by
  obtain ⟨A', c', w', h1, h2, h3⟩ := run_app8 (W.alloc (.cells #[] 5)) W.heap.size (by simp) _ [] (own_empty W W.heap.size (Nat.le_refl _)) (hr.alloc hB _) (by simp; omega)
  have hl := len8 hr
  rw [List.nil_append, hl] at h1 h2
  exact ⟨A', c', w', h1, h2, ((Below.refl _ W).alloc (Nat.le_refl _) _).trans h3⟩
theorem str_beq (a b : List UInt8) : ((strOf a).toList == (strOf b).toList) = decide (a = b) := by
  rw [ByteArray.toList_eq, ByteArray.toList_eq, strOf_list, strOf_list]
  by_cases h : a = b
  · subst h; simp
  · simp [h]
/-- a new row whose cells are marked reads as it lies -/
theorem rd_mark (w : World) (C : Array Value) (t : TypeId) (f : Nat × Nat) (n : Nat) (hn : C.size = n) (h1 : ∀ u ∈ C.toList, u.oneCell' = true) : Rd (w.alloc (.cells C t f)) (w.alloc (.cells C t f)).heap.size 1 (some ⟨w.heap.size, 0, none⟩) n n C.toList :=
  ⟨by simp [hn], Nat.le_refl _, h1, fun _ => ⟨_, _, rfl, by simp, fun j u hu => by
    rw [Nat.zero_add, cell_of_row _ _ j _ _ f (heap_alloc_new _ _)]
    simpa using hu⟩⟩
end By
end Go.Proofs.Ytcffbgehopjgpaa
