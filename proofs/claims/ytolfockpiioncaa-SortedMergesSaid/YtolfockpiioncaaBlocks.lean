/- Sorting block by block, block pairs merged: plain mathematics. -/
import Derived.Test.YtolfockpiioncaaMerging
namespace Go.Proofs.Ytolfockpiioncaa
set_option linter.unusedSectionVars false
section
variable {K V : Type} [DecidableEq K] {lt : K → K → Prop}

theorem Runs.ready (O : Tot lt) {xs : List (K × V)} {a m b : Nat} (h : Runs lt xs a m b)
    (hle : a = m ∨ m = b ∨ ∃ x y, xs[m - 1]? = some x ∧ xs[m]? = some y ∧ Le lt x y) : Merged lt xs xs a m b := by
  rcases hle with hle | hle | ⟨x', y', ex, ey, hle⟩
  · exact h.merged (.inl hle)
  · exact h.merged (.inr hle)
  obtain ⟨P, A, B, T, rfl, g1, g2, g3, hA, hB⟩ := h
  refine ⟨P, A, B, A ++ B, T, rfl, by simp, g1, g2, g3, Mrg.app (List.pairwise_append.2 ⟨hA, hB, le_of_ends O hA hB fun x y hx hy => ?_⟩)⟩
  obtain ⟨A', rfl⟩ := List.getLast?_eq_some_iff.1 hx
  obtain ⟨B', rfl⟩ := List.head?_eq_some_iff.1 hy
  have e1 : (P ++ (A' ++ [x]) ++ (y :: B') ++ T)[m - 1]? = some x := by
    have : m - 1 = (P ++ A').length := by simp at g2 ⊢; omega
    have f : P ++ (A' ++ [x]) ++ (y :: B') ++ T = (P ++ A') ++ x :: (y :: B' ++ T) := by simp
    rw [this, f]; simp
  have e2 : (P ++ (A' ++ [x]) ++ (y :: B') ++ T)[m]? = some y := by
    have : m = (P ++ (A' ++ [x])).length := by simp at g2 ⊢; omega
    have f : P ++ (A' ++ [x]) ++ (y :: B') ++ T = (P ++ (A' ++ [x])) ++ y :: (B' ++ T) := by simp
    rw [this, f]; simp
  rw [e1] at ex; rw [e2] at ey
  injection ex with ex; injection ey with ey
  rw [ex, ey]; exact hle

theorem Rotated.out {xs ys : List (K × V)} {s m e j : Nat} (h : Rotated xs ys s m e) (hj : j < s ∨ e ≤ j) : ys[j]? = xs[j]? := by
  obtain ⟨P, X, Y, T, rfl, rfl, g1, g2, g3⟩ := h
  simp only [List.append_assoc]
  rcases hj with hj | hj
  · rw [List.getElem?_append_left (by omega), List.getElem?_append_left (by omega)]
  · have e1 : P ++ (Y ++ (X ++ T)) = (P ++ Y ++ X) ++ T := by simp
    have e2 : P ++ (X ++ (Y ++ T)) = (P ++ X ++ Y) ++ T := by simp
    rw [e1, e2, List.getElem?_append_right (by simp; omega), List.getElem?_append_right (by simp; omega)]
    congr 1; simp; omega
/-- what was first stands behind the others -/
theorem Rotated.back {xs ys : List (K × V)} {s m e j : Nat} (h : Rotated xs ys s m e) (h1 : s ≤ j) (h2 : j < m) : ys[j + (e - m)]? = xs[j]? := by
  obtain ⟨P, X, Y, T, rfl, rfl, g1, g2, g3⟩ := h
  have e1 : P ++ Y ++ X ++ T = (P ++ Y) ++ (X ++ T) := by simp
  have e2 : P ++ X ++ Y ++ T = P ++ (X ++ (Y ++ T)) := by simp
  have l : (P ++ Y ++ X ++ T)[j + (e - m)]? = X[j - P.length]? := by
    rw [e1, List.getElem?_append_right (by simp; omega), List.getElem?_append_left (by simp; omega)]
    congr 1; simp; omega
  have r : (P ++ X ++ Y ++ T)[j]? = X[j - P.length]? := by
    rw [e2, List.getElem?_append_right (by omega), List.getElem?_append_left (by omega)]
  rw [l, r]
/-- what was behind stands first -/
theorem Rotated.ahead {xs ys : List (K × V)} {s m e j : Nat} (h : Rotated xs ys s m e) (h1 : m ≤ j) (h2 : j < e) : ys[s + (j - m)]? = xs[j]? := by
  obtain ⟨P, X, Y, T, rfl, rfl, g1, g2, g3⟩ := h
  have e1 : P ++ Y ++ X ++ T = P ++ (Y ++ (X ++ T)) := by simp
  have e2 : P ++ X ++ Y ++ T = (P ++ X) ++ (Y ++ T) := by simp
  have l : (P ++ Y ++ X ++ T)[s + (j - m)]? = Y[j - m]? := by
    rw [e1, List.getElem?_append_right (by omega), List.getElem?_append_left (by omega)]
    congr 1; omega
  have r : (P ++ X ++ Y ++ T)[j]? = Y[j - m]? := by
    rw [e2, List.getElem?_append_right (by simp; omega), List.getElem?_append_left (by simp; omega)]
    congr 1; simp; omega
  rw [l, r]

/-- a run of one element goes up into the latter run -/
theorem Runs.one_up (O : Tot lt) {xs ys : List (K × V)} {a i b : Nat} (h : Runs lt xs a (a + 1) b) (h1 : a + 1 ≤ i) (h2 : i ≤ b)
    (hl : i = a + 1 ∨ ∃ x y, xs[i - 1]? = some x ∧ xs[a]? = some y ∧ lt x.1 y.1) (hr : i = b ∨ ∃ x y, xs[a]? = some x ∧ xs[i]? = some y ∧ Le lt x y)
    (ht : Rotated xs ys a (a + 1) i) : Merged lt xs ys a (a + 1) b := by
  have hc : Cutting lt xs a (a + 1) b a i := h.cutting O (Nat.le_refl _) (by omega) h1 h2 (.inl rfl) (.inr hl)
  obtain ⟨r1, r2⟩ := hc.runs ht
  refine hc.done O ht (r1.merged (.inl rfl)) (r2.ready O ?_)
  rcases hr with hr | ⟨x, y, ex, ey, hle⟩
  · exact .inr (.inl hr)
  · refine .inr (.inr ⟨x, y, ?_, ?_, hle⟩)
    · rw [← ex, ← ht.back (Nat.le_refl _) (by omega)]; congr 1; omega
    · rw [← ey, ht.out (.inr (Nat.le_refl _))]
/-- a run of one element goes down into the former run -/
theorem Runs.one_down (O : Tot lt) {xs ys : List (K × V)} {a i m : Nat} (h : Runs lt xs a m (m + 1)) (h1 : a ≤ i) (h2 : i ≤ m)
    (hl : i = a ∨ ∃ x y, xs[i - 1]? = some x ∧ xs[m]? = some y ∧ Le lt x y) (hr : i = m ∨ ∃ x y, xs[m]? = some x ∧ xs[i]? = some y ∧ lt x.1 y.1)
    (ht : Rotated xs ys i m (m + 1)) : Merged lt xs ys a m (m + 1) := by
  have hc : Cutting lt xs a m (m + 1) i (m + 1) := h.cutting O h1 h2 (by omega) (Nat.le_refl _) (.inr (.inl rfl)) (by
    rcases hr with hr | hr
    · exact .inl hr
    · exact .inr (.inr (by simpa using hr)))
  obtain ⟨r1, r2⟩ := hc.runs ht
  refine hc.done O ht (r1.ready O ?_) (r2.merged (.inr rfl))
  rcases hl with hl | ⟨x, y, ex, ey, hle⟩
  · exact .inl hl.symm
  · by_cases hia : a = i
    · exact .inl hia
    refine .inr (.inr ⟨x, y, ?_, ?_, hle⟩)
    · rw [← ex, ht.out (.inl (by omega))]
    · rw [← ey, ← ht.ahead (Nat.le_refl m) (by omega)]; congr 1; omega

/-- what is from a up to b is in order, the rest as it was -/
def Dealt (lt : K → K → Prop) (xs ys : List (K × V)) (a b : Nat) : Prop :=
  ys.length = xs.length ∧ Same xs ys ∧ (∀ j, j < a ∨ b ≤ j → ys[j]? = xs[j]?) ∧ ∀ i j x y, a ≤ i → i < j → j < b → ys[i]? = some x → ys[j]? = some y → Le lt x y

theorem dealt_of {P A S T : List (K × V)} (hs : Srt lt S) (hm : Same A S) (hl : S.length = A.length) : Dealt lt (P ++ A ++ T) (P ++ S ++ T) P.length (P.length + A.length) := by
  refine ⟨by simp [hl], ((Same.refl P).app hm).app (Same.refl T), fun j hj => ?_, fun i j x y h1 h2 h3 hx hy => ?_⟩
  · rcases hj with hj | hj
    · simp only [List.append_assoc]
      rw [List.getElem?_append_left hj, List.getElem?_append_left hj]
    · rw [List.getElem?_append_right (by simp; omega), List.getElem?_append_right (by simp; omega)]
      congr 1; simp [hl]
  · have key : ∀ q z, P.length ≤ q → q < P.length + A.length → (P ++ S ++ T)[q]? = some z → ∃ hq : q - P.length < S.length, S[q - P.length] = z := by
      intro q z g1 g2 g3
      rw [List.append_assoc, List.getElem?_append_right g1, List.getElem?_append_left (by omega)] at g3
      exact List.getElem?_eq_some_iff.1 g3
    obtain ⟨k1, rfl⟩ := key i x h1 (by omega) hx
    obtain ⟨k2, rfl⟩ := key j y (by omega) h3 hy
    exact List.pairwise_iff_getElem.1 hs _ _ k1 k2 (by omega)
theorem Merged.dealt {xs ys : List (K × V)} {a m b : Nat} (h : Merged lt xs ys a m b) : Dealt lt xs ys a b := by
  obtain ⟨P, A, B, S, T, rfl, rfl, rfl, g2, rfl, hm⟩ := h
  have := dealt_of (P := P) (T := T) hm.1 hm.2.1 (by simpa using hm.2.2)
  simpa [List.append_assoc, Nat.add_assoc] using this
theorem Seg.dealt {xs ys : List (K × V)} {a b : Nat} (h : Seg lt xs ys a b) : Dealt lt xs ys a b := by
  obtain ⟨P, S, S', T, rfl, rfl, rfl, rfl, h3, h4, h5⟩ := h
  exact dealt_of h3 h4 h5

/-- from lo up to hi each block of s is in order -/
def Blk (lt : K → K → Prop) (ys : List (K × V)) (s lo hi : Nat) : Prop :=
  ∀ i j x y, lo ≤ i → i < j → j < hi → i / s = j / s → ys[i]? = some x → ys[j]? = some y → Le lt x y
theorem Blk.none (ys : List (K × V)) (s a : Nat) : Blk lt ys s a a := fun i j x y h1 h2 h3 => by omega
theorem Blk.part {ys : List (K × V)} {s a b c d : Nat} (h : Blk lt ys s a b) (h1 : a ≤ c) (h2 : d ≤ b) : Blk lt ys s c d :=
  fun i j x y g1 g2 g3 g4 => h i j x y (by omega) g2 (by omega) g4
/-- the next block is dealt with -/
theorem Blk.next {xs ys : List (K × V)} {s k b : Nat} (h : Blk lt xs s 0 (k * s)) (hb : b ≤ k * s + s) (hd : Dealt lt xs ys (k * s) b) : Blk lt ys s 0 b := by
  intro i j x y h1 h2 h3 h4 hx hy
  rcases Nat.lt_or_ge j (k * s) with h5 | h5
  · rw [hd.2.2.1 i (.inl (by omega))] at hx
    rw [hd.2.2.1 j (.inl h5)] at hy
    exact h i j x y h1 h2 h5 h4 hx hy
  · rcases Nat.lt_or_ge i (k * s) with h6 | h6
    · exfalso
      have a1 : i / s < k := Nat.div_lt_of_lt_mul (by rw [Nat.mul_comm]; exact h6)
      have hs : 0 < s := by
        rcases Nat.eq_zero_or_pos s with e | e
        · subst e; simp at h6
        · exact e
      have a2 : k ≤ j / s := (Nat.le_div_iff_mul_le hs).2 h5
      omega
    · exact hd.2.2.2 i j x y h6 h2 h3 hx hy
/-- what is behind stays -/
theorem Blk.rest {xs ys : List (K × V)} {s a b c n : Nat} (h : Blk lt xs s c n) (hc : b ≤ c) (hd : Dealt lt xs ys a b) : Blk lt ys s c n := by
  intro i j x y h1 h2 h3 h4 hx hy
  rw [hd.2.2.1 i (.inr (by omega))] at hx
  rw [hd.2.2.1 j (.inr (by omega))] at hy
  exact h i j x y h1 h2 h3 h4 hx hy
/-- two blocks beside one another -/
theorem Blk.runs {xs : List (K × V)} {s k b n : Nat} (h : Blk lt xs s (k * s) n) (h1 : k * s + s ≤ b) (h2 : b ≤ k * s + 2 * s) (hb : b ≤ n) (hn : n ≤ xs.length) (hs : 0 < s) : Runs lt xs (k * s) (k * s + s) b := by
  have srt : ∀ lo hi, k * s ≤ lo → hi ≤ n → (∀ i j, lo ≤ i → i < j → j < hi → i / s = j / s) → Srt lt ((xs.drop lo).take (hi - lo)) := by
    intro lo hi g1 g2 g3
    refine List.pairwise_iff_getElem.2 fun i j hi' hj' hij => ?_
    simp only [List.length_take, List.length_drop] at hi' hj'
    rw [List.getElem_take, List.getElem_take, List.getElem_drop, List.getElem_drop]
    exact h (lo + i) (lo + j) _ _ (by omega) (by omega) (by omega) (g3 _ _ (by omega) (by omega) (by omega)) (List.getElem?_eq_getElem _) (List.getElem?_eq_getElem _)
  have e1 : (xs.drop (k * s)).take s ++ (xs.drop (k * s + s)) = xs.drop (k * s) := by
    have := List.take_append_drop s (xs.drop (k * s))
    rwa [List.drop_drop] at this
  have e2 : (xs.drop (k * s + s)).take (b - (k * s + s)) ++ (xs.drop b) = xs.drop (k * s + s) := by
    have := List.take_append_drop (b - (k * s + s)) (xs.drop (k * s + s))
    rwa [List.drop_drop, show k * s + s + (b - (k * s + s)) = b by omega] at this
  have dv : ∀ q i, q * s ≤ i → i < q * s + s → i / s = q := by
    intro q i g1 g2
    refine Nat.div_eq_of_lt_le g1 ?_
    rw [Nat.add_mul, Nat.one_mul]; exact g2
  refine ⟨xs.take (k * s), (xs.drop (k * s)).take s, (xs.drop (k * s + s)).take (b - (k * s + s)), xs.drop b, ?_, by simp; omega, by simp; omega, by simp; omega, ?_, ?_⟩
  · rw [List.append_assoc, List.append_assoc, e2, e1, List.take_append_drop]
  · have := srt (k * s) (k * s + s) (Nat.le_refl _) (by omega) (fun i j g1 g2 g3 => by rw [dv k i g1 (by omega), dv k j (by omega) g3])
    simpa using this
  · exact srt (k * s + s) b (by omega) hb (fun i j g1 g2 g3 => by
      rw [dv (k + 1) i (by rw [Nat.add_mul, Nat.one_mul]; exact g1) (by rw [Nat.add_mul, Nat.one_mul]; omega), dv (k + 1) j (by rw [Nat.add_mul, Nat.one_mul]; omega) (by rw [Nat.add_mul, Nat.one_mul]; omega)])
/-- a last block alone -/
theorem Blk.last {xs : List (K × V)} {s k n : Nat} (h1 : Blk lt xs (2 * s) 0 (k * (2 * s))) (h2 : Blk lt xs s (k * (2 * s)) n) (hn : n ≤ k * (2 * s) + s) : Blk lt xs (2 * s) 0 n := by
  refine h1.next (b := n) (by omega) ⟨rfl, Same.refl _, fun _ _ => rfl, fun i j x y g1 g2 g3 hx hy => h2 i j x y g1 g2 g3 ?_ hx hy⟩
  have dv : ∀ i, k * (2 * s) ≤ i → i < k * (2 * s) + s → i / s = 2 * k := by
    intro i g1 g2
    have e : k * (2 * s) = 2 * k * s := by rw [← Nat.mul_assoc, Nat.mul_comm k 2]
    refine Nat.div_eq_of_lt_le (by omega) ?_
    rw [Nat.add_mul, Nat.one_mul]; omega
  rw [dv i g1 (by omega), dv j (by omega) (by omega)]
/-- one block alone -/
theorem Blk.srt {xs : List (K × V)} {s : Nat} (h : Blk lt xs s 0 xs.length) (hs : xs.length ≤ s) : Srt lt xs := by
  refine List.pairwise_iff_getElem.2 fun i j hi hj hij => ?_
  exact h i j _ _ (Nat.zero_le _) hij hj (by rw [Nat.div_eq_of_lt (by omega), Nat.div_eq_of_lt (by omega)]) (List.getElem?_eq_getElem _) (List.getElem?_eq_getElem _)
end
end Go.Proofs.Ytolfockpiioncaa
