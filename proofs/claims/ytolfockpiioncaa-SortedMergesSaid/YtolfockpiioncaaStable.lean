/- Sorting by keys, what is alike staying in order: plain mathematics. -/
import Derived.Test.YtolfockpiioncaaOrd
namespace Go.Proofs.Ytolfockpiioncaa
section
variable {K V : Type} [DecidableEq K] {lt : K → K → Prop}
/-- b may stand behind a -/
def Le (lt : K → K → Prop) (a b : K × V) : Prop := ¬ lt b.1 a.1
def Srt (lt : K → K → Prop) (l : List (K × V)) : Prop := l.Pairwise (Le lt)
/-- of each key the same elements in the same order -/
def Same (xs ys : List (K × V)) : Prop := ∀ k, ys.filter (fun p => p.1 = k) = xs.filter (fun p => p.1 = k)
theorem Same.refl (xs : List (K × V)) : Same xs xs := fun _ => rfl
theorem Same.trans {xs ys zs : List (K × V)} (h : Same xs ys) (k : Same ys zs) : Same xs zs := fun q => (k q).trans (h q)
theorem Same.symm {xs ys : List (K × V)} (h : Same xs ys) : Same ys xs := fun q => (h q).symm
theorem Same.app {xs ys xs' ys' : List (K × V)} (h : Same xs ys) (k : Same xs' ys') : Same (xs ++ xs') (ys ++ ys') := fun q => by
  rw [List.filter_append, List.filter_append, h q, k q]
theorem Same.mem {xs ys : List (K × V)} (h : Same xs ys) (p : K × V) : p ∈ ys ↔ p ∈ xs := by
  have := h p.1
  constructor
  · intro hp
    have h1 : p ∈ ys.filter (fun q => q.1 = p.1) := List.mem_filter.2 ⟨hp, by simp⟩
    rw [this] at h1
    exact (List.mem_filter.1 h1).1
  · intro hp
    have h1 : p ∈ xs.filter (fun q => q.1 = p.1) := List.mem_filter.2 ⟨hp, by simp⟩
    rw [← this] at h1
    exact (List.mem_filter.1 h1).1
/-- what is unlike may be exchanged -/
theorem Same.swap {x u : K × V} (h : x.1 ≠ u.1) (A B : List (K × V)) : Same (A ++ u :: x :: B) (A ++ x :: u :: B) := by
  intro k
  simp only [List.filter_append, List.filter_cons]
  by_cases h1 : x.1 = k
  · have h2 : u.1 ≠ k := fun h2 => h (h1.trans h2.symm)
    simp [h1, h2]
  · simp [h1]
omit [DecidableEq K] in
theorem Srt.ins (T : Tot lt) {U W : List (K × V)} {x : K × V} (hs : Srt lt (U ++ W)) (hW : ∀ v ∈ W, lt x.1 v.1) (hU : ∀ u ∈ U, Le lt u x) : Srt lt (U ++ x :: W) := by
  unfold Srt at *
  rw [List.pairwise_append] at *
  refine ⟨hs.1, List.pairwise_cons.2 ⟨fun v hv => T.asym (hW v hv), hs.2.1⟩, fun u hu v hv => ?_⟩
  rcases List.mem_cons.1 hv with rfl | hv
  · exact hU u hu
  · exact hs.2.2 u hu v hv
omit [DecidableEq K] in
theorem Srt.le_all (T : Tot lt) {U : List (K × V)} {u x : K × V} (hs : Srt lt (U ++ [u])) (h : ¬ lt x.1 u.1) : ∀ v ∈ U ++ [u], Le lt v x := by
  unfold Srt at hs
  rw [List.pairwise_append] at hs
  intro v hv
  rcases List.mem_append.1 hv with hv | hv
  · exact T.le_tr (hs.2.2 v hv u (by simp)) h
  · simp only [List.mem_singleton] at hv; subst hv; exact h
/-- sorted, and of each key the same: then the same -/
theorem srt_uniq (T : Tot lt) : ∀ {xs ys : List (K × V)}, Srt lt xs → Srt lt ys → Same xs ys → xs = ys
  | [], ys, _, _, h => by
    cases ys with
    | nil => rfl
    | cons y ys => have := h y.1; simp at this
  | x :: xs, [], _, _, h => by have := h x.1; simp at this
  | x :: xs, y :: ys, hx, hy, h => by
    have hx' := List.pairwise_cons.1 hx
    have hy' := List.pairwise_cons.1 hy
    have hxy : x.1 = y.1 := by
      have m1 : x ∈ y :: ys := (h.mem x).2 (by simp)
      have m2 : y ∈ x :: xs := (h.mem y).1 (by simp)
      have l1 : ¬ lt x.1 y.1 := by
        rcases List.mem_cons.1 m1 with e | e
        · rw [e]; exact T.irr _
        · exact hy'.1 x e
      have l2 : ¬ lt y.1 x.1 := by
        rcases List.mem_cons.1 m2 with e | e
        · rw [e]; exact T.irr _
        · exact hx'.1 y e
      rcases T.tri x.1 y.1 with e | e | e
      · exact (l1 e).elim
      · exact e
      · exact (l2 e).elim
    have h1 := h x.1
    simp only [List.filter_cons, hxy, decide_true, if_true] at h1
    injection h1 with e1 e2
    subst e1
    rw [srt_uniq T hx'.2 hy'.2 (fun k => by
      have := h k
      simp only [List.filter_cons] at this
      split at this
      · injection this
      · exact this)]

/-- segment [a, i) of xs sorted, the rest as it was -/
def Seg (lt : K → K → Prop) (xs ys : List (K × V)) (a i : Nat) : Prop :=
  ∃ P S S' T, xs = P ++ S ++ T ∧ ys = P ++ S' ++ T ∧ P.length = a ∧ P.length + S.length = i ∧ Srt lt S' ∧ Same S S' ∧ S'.length = S.length
/-- an element on its way down -/
def Way (lt : K → K → Prop) (xs ys : List (K × V)) (a i j : Nat) : Prop :=
  ∃ P S U x W T, xs = P ++ S ++ T ∧ ys = P ++ (U ++ x :: W) ++ T ∧ P.length = a ∧ P.length + S.length = i + 1 ∧ P.length + U.length = j ∧ Srt lt (U ++ W) ∧ (∀ v ∈ W, lt x.1 v.1) ∧ Same S (U ++ x :: W) ∧ (U ++ x :: W).length = S.length
omit [DecidableEq K] in
theorem srt_one (x : K × V) : Srt lt [x] := List.pairwise_singleton _ _
theorem Seg.start (xs : List (K × V)) (a : Nat) (h : a < xs.length) : Seg lt xs xs a (a + 1) := by
  refine ⟨xs.take a, [xs[a]], [xs[a]], xs.drop (a + 1), ?_, ?_, by simp; omega, by simp; omega, srt_one _, Same.refl _, rfl⟩
  all_goals simp [List.append_assoc]
theorem Seg.len {xs ys : List (K × V)} {a i : Nat} (h : Seg lt xs ys a i) : ys.length = xs.length := by
  obtain ⟨P, S, S', T, rfl, rfl, _, _, _, _, h7⟩ := h
  simp [h7]
theorem Way.len {xs ys : List (K × V)} {a i j : Nat} (h : Way lt xs ys a i j) : ys.length = xs.length := by
  obtain ⟨P, S, U, x, W, T, rfl, rfl, _, _, _, _, _, _, h9⟩ := h
  simp at h9 ⊢; omega
theorem Seg.way {xs ys : List (K × V)} {a i : Nat} (h : Seg lt xs ys a i) (hi : i < xs.length) : Way lt xs ys a i i := by
  obtain ⟨P, S, S', T, rfl, rfl, h1, h2, h3, h4, h5⟩ := h
  cases T with
  | nil => simp at hi; omega
  | cons x T =>
    refine ⟨P, S ++ [x], S', x, [], T, by simp, by simp, h1, by simp; omega, by omega, by simpa using h3, by simp, h4.app (Same.refl [x]), by simp [h5]⟩
theorem Way.here {xs ys : List (K × V)} {a i j : Nat} (h : Way lt xs ys a i j) : j < ys.length ∧ a ≤ j ∧ j ≤ i := by
  obtain ⟨P, S, U, x, W, T, rfl, rfl, h1, h2, h3, _, _, _, h9⟩ := h
  simp at h9 ⊢; omega
theorem Way.step (T : Tot lt) {xs ys : List (K × V)} {a i j : Nat} (h : Way lt xs ys a i (j + 1)) (ha : a < j + 1) (h0 : j < ys.length) (h1 : j + 1 < ys.length) (hlt : lt (ys[j + 1]).1 (ys[j]).1) :
    Way lt xs ((ys.set (j + 1) ys[j]).set j ys[j + 1]) a i j := by
  obtain ⟨P, S, U, x, W, R, rfl, rfl, h2, h3, h4, h5, h6, h7, h8⟩ := h
  have hU : U ≠ [] := by intro e; subst e; simp at h4; omega
  obtain ⟨U', u, rfl⟩ : ∃ U' u, U = U' ++ [u] := ⟨U.dropLast, U.getLast hU, (List.dropLast_concat_getLast hU).symm⟩
  have e0 : P.length + U'.length = j := by simp at h4; omega
  subst e0
  have hg0 : ((P ++ (U' ++ [u] ++ x :: W) ++ R)[P.length + U'.length]'h0) = u := by simp
  have hg1 : ((P ++ (U' ++ [u] ++ x :: W) ++ R)[P.length + U'.length + 1]'h1) = x := by simp [Nat.add_assoc]
  rw [hg0, hg1] at hlt
  rw [hg0, hg1]
  have hne : x.1 ≠ u.1 := fun e => T.irr u.1 (by rw [e] at hlt; exact hlt)
  refine ⟨P, S, U', x, u :: W, R, rfl, ?_, h2, h3, rfl, by simpa using h5, ?_, ?_, by simp at h8 ⊢; omega⟩
  · simp [List.set_append, Nat.add_assoc]
  · intro v hv
    rcases List.mem_cons.1 hv with rfl | hv
    · exact hlt
    · exact h6 v hv
  · have h9 : Same (U' ++ u :: x :: W) (U' ++ x :: u :: W) := Same.swap hne U' W
    exact h7.trans (by simpa using h9)
theorem Way.stop (T : Tot lt) {xs ys : List (K × V)} {a i j : Nat} (h : Way lt xs ys a i j) (hs : j = a ∨ ∃ (h0 : j - 1 < ys.length) (h1 : j < ys.length), ¬ lt (ys[j]).1 (ys[j - 1]).1) : Seg lt xs ys a (i + 1) := by
  obtain ⟨P, S, U, x, W, R, rfl, rfl, h2, h3, h4, h5, h6, h7, h8⟩ := h
  refine ⟨P, S, U ++ x :: W, R, rfl, rfl, h2, h3, h5.ins T h6 ?_, h7, h8⟩
  by_cases hU : U = []
  · subst hU; intro u hu; cases hu
  · rcases hs with hs | ⟨h0, h1, hn⟩
    · exfalso; apply hU; apply List.eq_nil_of_length_eq_zero; omega
    · obtain ⟨U', u, rfl⟩ : ∃ U' u, U = U' ++ [u] := ⟨U.dropLast, U.getLast hU, (List.dropLast_concat_getLast hU).symm⟩
      have hsU : Srt lt (U' ++ [u]) := (List.pairwise_append.1 h5).1
      refine hsU.le_all T ?_
      have e1 : ((P ++ (U' ++ [u] ++ x :: W) ++ R)[j]'h1) = x := by
        have : j = P.length + U'.length + 1 := by simp at h4; omega
        subst this
        simp [Nat.add_assoc]
      have e2 : ((P ++ (U' ++ [u] ++ x :: W) ++ R)[j - 1]'h0) = u := by
        have : j - 1 = P.length + U'.length := by simp at h4; omega
        simp only [this]
        simp
      rwa [e1, e2] at hn
end
end Go.Proofs.Ytolfockpiioncaa
