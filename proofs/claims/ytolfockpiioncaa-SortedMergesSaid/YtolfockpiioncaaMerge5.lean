/- What is noted when two maps are merged, and what each pair of the merged map is: plain mathematics. -/
import Derived.Test.YtolfockpiioncaaMerge4
namespace Go.Proofs.Ytolfockpiioncaa
open Go.RowKit
namespace SortS
/-- what a key has on both sides -/
def bothOf (va vb : ByteArray → Option Int) (k : ByteArray) : Option (Int × Int) :=
  match va k, vb k with
  | some x, some y => some (x, y)
  | _, _ => none
/-- one pair of the merged map -/
def PairIs (va vb : ByteArray → Option Int) (p : ByteArray × Int) : Prop :=
  (va p.1 = some p.2 ∧ vb p.1 = none) ∨ (va p.1 = none ∧ vb p.1 = some p.2) ∨ ∃ x y, va p.1 = some x ∧ vb p.1 = some y ∧ p.2 = put2 x y
/-- what the two sides know of the rests -/
structure Knows (va vb : ByteArray → Option Int) (xs ys : Ps) : Prop where
  a : ∀ p ∈ xs, va p.1 = some p.2
  b : ∀ p ∈ ys, vb p.1 = some p.2
  na : ∀ q ∈ ys, (∀ p ∈ xs, p.1 ≠ q.1) → va q.1 = none
  nb : ∀ p ∈ xs, (∀ q ∈ ys, q.1 ≠ p.1) → vb p.1 = none
theorem met_is (va vb : ByteArray → Option Int) : ∀ (n : Nat) (xs ys : Ps), xs.length + ys.length ≤ n → PW xs → PW ys → Knows va vb xs ys →
    met xs ys = (mrg put2 xs ys).filterMap (fun p => bothOf va vb p.1) ∧ ∀ p ∈ mrg put2 xs ys, PairIs va vb p
  | _, [], ys, _, _, _, hk => by
    have hn : ∀ q ∈ ys, va q.1 = none := fun q hq => hk.na q hq (fun p hp => by simp at hp)
    rw [met_nil, mrg_nil]
    refine ⟨?_, fun p hp => .inr (.inl ⟨hn p hp, hk.b p hp⟩)⟩
    symm
    rw [List.filterMap_eq_nil_iff]
    intro q hq
    simp [bothOf, hn q hq]
  | _, x :: xs, [], _, _, _, hk => by
    have hn : ∀ p ∈ x :: xs, vb p.1 = none := fun p hp => hk.nb p hp (fun q hq => by simp at hq)
    rw [met_nil', mrg_nil']
    refine ⟨?_, fun p hp => .inl ⟨hk.a p hp, hn p hp⟩⟩
    symm
    rw [List.filterMap_eq_nil_iff]
    intro q hq
    simp only [bothOf, hn q hq]
    split <;> simp_all
  | 0, x :: xs, y :: ys, hn, _, _, _ => by simp at hn
  | n + 1, x :: xs, y :: ys, hn, hx, hy, hk => by
    simp only [List.length_cons] at hn
    have hxh := pw_head hx
    have hyh := pw_head hy
    have tr := tot_str.tr
    have ir := tot_str.irr
    rcases tot_str.tri x.1 y.1 with h | h | h
    · rw [mrg_lt h, met_lt h]
      have hny : ∀ q ∈ y :: ys, x.1 ≠ q.1 := by
        intro q hq e
        rcases List.mem_cons.1 hq with e2 | hq
        · rw [e2] at e; rw [e] at h; exact ir _ h
        · have := tr _ _ _ h (hyh q hq); rw [e] at this; exact ir _ this
      have hvb : vb x.1 = none := hk.nb x List.mem_cons_self (fun q hq e => hny q hq e.symm)
      have hva : va x.1 = some x.2 := hk.a x List.mem_cons_self
      obtain ⟨i1, i2⟩ := met_is va vb n xs (y :: ys) (by simp only [List.length_cons]; omega) (pw_tail hx) hy
        ⟨fun p hp => hk.a p (List.mem_cons_of_mem _ hp), hk.b, fun q hq hp => hk.na q hq (fun p hp' => by
          rcases List.mem_cons.1 hp' with e | hp'
          · rw [e]; exact hny q hq
          · exact hp p hp'), fun p hp => hk.nb p (List.mem_cons_of_mem _ hp)⟩
      refine ⟨?_, fun p hp => ?_⟩
      · rw [List.filterMap_cons_none (by simp [bothOf, hva, hvb])]; exact i1
      · rcases List.mem_cons.1 hp with e | hp
        · rw [e]; exact .inl ⟨hva, hvb⟩
        · exact i2 p hp
    · rw [mrg_eq h, met_eq h]
      have hva : va y.1 = some x.2 := by rw [← h]; exact hk.a x List.mem_cons_self
      have hvb : vb y.1 = some y.2 := hk.b y List.mem_cons_self
      obtain ⟨i1, i2⟩ := met_is va vb n xs ys (by omega) (pw_tail hx) (pw_tail hy)
        ⟨fun p hp => hk.a p (List.mem_cons_of_mem _ hp), fun q hq => hk.b q (List.mem_cons_of_mem _ hq), fun q hq hp => hk.na q (List.mem_cons_of_mem _ hq) (fun p hp' => by
          rcases List.mem_cons.1 hp' with e | hp'
          · rw [e, h]; intro e2; have := hyh q hq; rw [e2] at this; exact ir _ this
          · exact hp p hp'), fun p hp hq => hk.nb p (List.mem_cons_of_mem _ hp) (fun q hq' => by
          rcases List.mem_cons.1 hq' with e | hq'
          · rw [e, ← h]; intro e2; have := hxh p hp; rw [e2] at this; exact ir _ this
          · exact hq q hq')⟩
      refine ⟨?_, fun p hp => ?_⟩
      · rw [List.filterMap_cons_some (b := (x.2, y.2)) (by simp [bothOf, hva, hvb]), i1]
      · rcases List.mem_cons.1 hp with e | hp
        · rw [e]; exact .inr (.inr ⟨_, _, hva, hvb, rfl⟩)
        · exact i2 p hp
    · rw [mrg_gt h, met_gt h]
      have hnx : ∀ p ∈ x :: xs, p.1 ≠ y.1 := by
        intro q hq e
        rcases List.mem_cons.1 hq with e2 | hq
        · rw [e2] at e; rw [e] at h; exact ir _ h
        · have := tr _ _ _ h (hxh q hq); rw [e] at this; exact ir _ this
      have hva : va y.1 = none := hk.na y List.mem_cons_self hnx
      have hvb : vb y.1 = some y.2 := hk.b y List.mem_cons_self
      obtain ⟨i1, i2⟩ := met_is va vb n (x :: xs) ys (by simp only [List.length_cons]; omega) hx (pw_tail hy)
        ⟨hk.a, fun q hq => hk.b q (List.mem_cons_of_mem _ hq), fun q hq => hk.na q (List.mem_cons_of_mem _ hq), fun p hp hq => hk.nb p hp (fun q hq' => by
          rcases List.mem_cons.1 hq' with e | hq'
          · rw [e]; exact fun e2 => hnx p hp e2.symm
          · exact hq q hq')⟩
      refine ⟨?_, fun p hp => ?_⟩
      · rw [List.filterMap_cons_none (by simp [bothOf, hva])]; exact i1
      · rcases List.mem_cons.1 hp with e | hp
        · rw [e]; exact .inr (.inl ⟨hva, hvb⟩)
        · exact i2 p hp
theorem knows_of {a b : List Act} {ma mb : Ps} (ha : RepH (pts a) ma) (hb : RepH (pts b) mb) : Knows (valueOf (pts a)) (valueOf (pts b)) ma mb := by
  refine ⟨fun p hp => (ha.2 p).1 hp, fun p hp => (hb.2 p).1 hp, fun q _ h => ?_, fun p _ h => ?_⟩
  · cases hv : valueOf (pts a) q.1 with
    | none => rfl
    | some v => exact absurd rfl (h (q.1, v) ((ha.2 (q.1, v)).2 hv))
  · cases hv : valueOf (pts b) p.1 with
    | none => rfl
    | some v => exact absurd rfl (h (p.1, v) ((hb.2 (p.1, v)).2 hv))
/-- how many of the first k are on both sides -/
def cnt (va vb : ByteArray → Option Int) (M : Ps) (k : Nat) : Nat := ((M.take k).filterMap (fun p => bothOf va vb p.1)).length
section
variable {va vb : ByteArray → Option Int} {M : Ps} {k : Nat}
theorem cnt_zero : cnt va vb M 0 = 0 := by simp [cnt]
theorem cnt_none (hk : k < M.length) (h : bothOf va vb M[k].1 = none) : cnt va vb M (k + 1) = cnt va vb M k := by
  unfold cnt
  rw [List.take_succ_eq_append_getElem hk, List.filterMap_append, List.filterMap_cons_none (f := fun p : ByteArray × Int => bothOf va vb p.1) h]; simp
theorem cnt_some {z : Int × Int} (hk : k < M.length) (h : bothOf va vb M[k].1 = some z) : cnt va vb M (k + 1) = cnt va vb M k + 1 := by
  unfold cnt
  rw [List.take_succ_eq_append_getElem hk, List.filterMap_append, List.filterMap_cons_some (f := fun p : ByteArray × Int => bothOf va vb p.1) h]; simp
theorem cnt_all : cnt va vb M M.length = (M.filterMap (fun p => bothOf va vb p.1)).length := by unfold cnt; rw [List.take_length]
theorem cnt_at {z : Int × Int} (hk : k < M.length) (h : bothOf va vb M[k].1 = some z) : (M.filterMap (fun p => bothOf va vb p.1))[cnt va vb M k]? = some z := by
  have e : M = M.take k ++ M[k] :: M.drop (k + 1) := by rw [← List.drop_eq_getElem_cons hk, List.take_append_drop]
  conv => lhs; arg 1; rw [e]
  rw [List.filterMap_append, List.filterMap_cons_some (f := fun p : ByteArray × Int => bothOf va vb p.1) h]
  unfold cnt
  rw [List.getElem?_append_right (Nat.le_refl _), Nat.sub_self]
  rfl
end
theorem valueOf_in {a : List Act} {k : ByteArray} {v : Int} {lo hi : Int} (h : valueOf (pts a) k = some v) (hr : ∀ x ∈ a, lo ≤ x.v ∧ x.v ≤ hi) : lo ≤ v ∧ v ≤ hi := by
  unfold valueOf at h
  split at h
  · rename_i x hx
    have h1 := List.mem_of_find?_eq_some hx
    rw [List.mem_reverse] at h1
    unfold pts at h1
    obtain ⟨y, hy, rfl⟩ := List.mem_map.1 h1
    simp at h
    rw [← h]; exact hr y hy
  · cases h
end SortS
end Go.Proofs.Ytolfockpiioncaa
