/- Merging in place (rotations, a symmetric merge): plain mathematics. -/
import Derived.Test.YtolfockpiioncaaStable
namespace Go.Proofs.Ytolfockpiioncaa
set_option linter.unusedSectionVars false
section
variable {K V : Type} [DecidableEq K] {lt : K → K → Prop}

/-- S is A and B merged, A first of what is alike -/
def Mrg (lt : K → K → Prop) (A B S : List (K × V)) : Prop := Srt lt S ∧ Same (A ++ B) S ∧ S.length = A.length + B.length
/-- where two lists may be cut to be merged part by part -/
def CutAt (lt : K → K → Prop) (A1 A2 B1 B2 : List (K × V)) : Prop := (∀ x ∈ A1, ∀ y ∈ B2, Le lt x y) ∧ (∀ x ∈ A2, ∀ y ∈ B1, lt y.1 x.1)

theorem Mrg.nil_left {B : List (K × V)} (h : Srt lt B) : Mrg lt [] B B := ⟨h, Same.refl _, by simp⟩
theorem Mrg.nil_right {A : List (K × V)} (h : Srt lt A) : Mrg lt A [] A := ⟨h, by simpa using Same.refl A, by simp⟩
theorem Mrg.app {A B : List (K × V)} (h : Srt lt (A ++ B)) : Mrg lt A B (A ++ B) := ⟨h, Same.refl _, by simp⟩

/-- what has no key in common may be exchanged -/
theorem Same.cross {A B : List (K × V)} (h : ∀ x ∈ A, ∀ y ∈ B, y.1 ≠ x.1) : Same (A ++ B) (B ++ A) := by
  intro k
  rw [List.filter_append, List.filter_append]
  by_cases hA : A.filter (fun p => p.1 = k) = []
  · rw [hA]; simp
  · have hB : B.filter (fun p => p.1 = k) = [] := by
      rw [List.filter_eq_nil_iff]
      intro y hy hk
      apply hA
      rw [List.filter_eq_nil_iff]
      intro x hx hk2
      simp only [decide_eq_true_eq] at hk hk2
      exact h x hx y hy (hk.trans hk2.symm)
    rw [hB]; simp

theorem Mrg.mem {A B S : List (K × V)} (h : Mrg lt A B S) {p : K × V} (hp : p ∈ S) : p ∈ A ∨ p ∈ B := by
  have := (h.2.1.mem p).1 hp
  simpa using this

/-- parts that are merged, one behind the other, are the whole merged -/
theorem Mrg.cut (T : Tot lt) {A1 A2 B1 B2 S1 S2 : List (K × V)} (hA : Srt lt (A1 ++ A2)) (hB : Srt lt (B1 ++ B2)) (hc : CutAt lt A1 A2 B1 B2)
    (h1 : Mrg lt A1 B1 S1) (h2 : Mrg lt A2 B2 S2) : Mrg lt (A1 ++ A2) (B1 ++ B2) (S1 ++ S2) := by
  refine ⟨?_, ?_, ?_⟩
  · unfold Srt at *
    rw [List.pairwise_append] at hA hB
    refine List.pairwise_append.2 ⟨h1.1, h2.1, fun x hx y hy => ?_⟩
    rcases h1.mem hx with hx | hx <;> rcases h2.mem hy with hy | hy
    · exact hA.2.2 x hx y hy
    · exact hc.1 x hx y hy
    · exact T.asym (hc.2 y hy x hx)
    · exact hB.2.2 x hx y hy
  · have e1 : Same (A2 ++ B1) (B1 ++ A2) := Same.cross fun x hx y hy e => T.irr y.1 (by have := hc.2 x hx y hy; rw [← e] at this; exact this)
    have e2 : Same (A1 ++ (A2 ++ B1) ++ B2) (A1 ++ (B1 ++ A2) ++ B2) := ((Same.refl A1).app e1).app (Same.refl B2)
    have e3 : Same ((A1 ++ B1) ++ (A2 ++ B2)) (S1 ++ S2) := h1.2.1.app h2.2.1
    have e4 : A1 ++ (B1 ++ A2) ++ B2 = (A1 ++ B1) ++ (A2 ++ B2) := by simp
    have e5 : A1 ++ A2 ++ (B1 ++ B2) = A1 ++ (A2 ++ B1) ++ B2 := by simp
    rw [e5]
    exact e2.trans (by rw [e4]; exact e3)
  · simp only [List.length_append, h1.2.2, h2.2.2]; omega

omit [DecidableEq K] in
/-- from the last of what is ahead and the first of what is behind, all of them -/
theorem le_of_ends (T : Tot lt) {A B : List (K × V)} (hA : Srt lt A) (hB : Srt lt B)
    (h : ∀ x y, A.getLast? = some x → B.head? = some y → Le lt x y) : ∀ x ∈ A, ∀ y ∈ B, Le lt x y := by
  intro x hx y hy
  obtain ⟨A', a, rfl⟩ : ∃ A' a, A = A' ++ [a] := ⟨A.dropLast, A.getLast (List.ne_nil_of_mem hx), (List.dropLast_concat_getLast _).symm⟩
  obtain ⟨b, B', rfl⟩ : ∃ b B', B = b :: B' := List.exists_cons_of_ne_nil (List.ne_nil_of_mem hy)
  have hab : Le lt a b := h a b (by simp) (by simp)
  unfold Srt at hA hB
  rw [List.pairwise_append] at hA
  rw [List.pairwise_cons] at hB
  have hxa : x = a ∨ Le lt x a := by
    rcases List.mem_append.1 hx with hx | hx
    · exact .inr (hA.2.2 x hx a (by simp))
    · exact .inl (by simpa using hx)
  have hby : y = b ∨ Le lt b y := by
    rcases List.mem_cons.1 hy with hy | hy
    · exact .inl hy
    · exact .inr (hB.1 y hy)
  have h1 : Le lt x b := by
    rcases hxa with rfl | hxa
    · exact hab
    · exact T.le_tr hxa hab
  rcases hby with rfl | hby
  · exact h1
  · exact T.le_tr h1 hby

omit [DecidableEq K] in
theorem lt_of_ends (T : Tot lt) {A B : List (K × V)} (hA : Srt lt A) (hB : Srt lt B)
    (h : ∀ x y, A.head? = some x → B.getLast? = some y → lt y.1 x.1) : ∀ x ∈ A, ∀ y ∈ B, lt y.1 x.1 := by
  intro x hx y hy
  obtain ⟨a, A', rfl⟩ : ∃ a A', A = a :: A' := List.exists_cons_of_ne_nil (List.ne_nil_of_mem hx)
  obtain ⟨B', b, rfl⟩ : ∃ B' b, B = B' ++ [b] := ⟨B.dropLast, B.getLast (List.ne_nil_of_mem hy), (List.dropLast_concat_getLast _).symm⟩
  have hab : lt b.1 a.1 := h a b (by simp) (by simp)
  unfold Srt at hA hB
  rw [List.pairwise_append] at hB
  rw [List.pairwise_cons] at hA
  have hax : ¬ lt x.1 a.1 := by
    rcases List.mem_cons.1 hx with hx | hx
    · rw [hx]; exact T.irr _
    · exact hA.1 x hx
  have hyb : ¬ lt b.1 y.1 := by
    rcases List.mem_append.1 hy with hy | hy
    · exact hB.2.2 y hy b (by simp)
    · rw [List.mem_singleton.1 hy]; exact T.irr _
  have h1 : lt b.1 x.1 := by
    rcases T.tri b.1 x.1 with h | h | h
    · exact h
    · rw [← h] at hax; exact absurd hab hax
    · exact absurd (T.tr _ _ _ h hab) hax
  rcases T.tri y.1 x.1 with h | h | h
  · exact h
  · rw [h] at hyb; exact absurd h1 hyb
  · exact absurd (T.tr _ _ _ h1 h) hyb

/-- two neighbouring runs of xs, each sorted -/
def Runs (lt : K → K → Prop) (xs : List (K × V)) (a m b : Nat) : Prop :=
  ∃ P A B T, xs = P ++ A ++ B ++ T ∧ P.length = a ∧ P.length + A.length = m ∧ P.length + A.length + B.length = b ∧ Srt lt A ∧ Srt lt B
/-- they are merged, the rest as it was -/
def Merged (lt : K → K → Prop) (xs ys : List (K × V)) (a m b : Nat) : Prop :=
  ∃ P A B S T, xs = P ++ A ++ B ++ T ∧ ys = P ++ S ++ T ∧ P.length = a ∧ P.length + A.length = m ∧ P.length + A.length + B.length = b ∧ Mrg lt A B S
/-- ranges exchanged -/
def Swapped (xs ys : List (K × V)) (a b n : Nat) : Prop :=
  ∃ P X Q Y T, xs = P ++ X ++ Q ++ Y ++ T ∧ ys = P ++ Y ++ Q ++ X ++ T ∧ P.length = a ∧ X.length = n ∧ P.length + n + Q.length = b ∧ Y.length = n
/-- two neighbouring ranges, the latter first -/
def Rotated (xs ys : List (K × V)) (a m b : Nat) : Prop :=
  ∃ P X Y T, xs = P ++ X ++ Y ++ T ∧ ys = P ++ Y ++ X ++ T ∧ P.length = a ∧ P.length + X.length = m ∧ P.length + X.length + Y.length = b
/-- a rotation under way: i ahead of m and j behind it have still to change places -/
def Turning (xs ys : List (K × V)) (a m b i j : Nat) : Prop :=
  ∃ L X Y R, Rotated xs (L ++ Y ++ X ++ R) a m b ∧ ys = L ++ X ++ Y ++ R ∧ L.length + i = m ∧ X.length = i ∧ Y.length = j

omit [DecidableEq K] in
theorem Turning.start (xs : List (K × V)) {a m b : Nat} (h1 : a ≤ m) (h2 : m ≤ b) (h3 : b ≤ xs.length) : Turning xs xs a m b (m - a) (b - m) := by
  refine ⟨xs.take a, (xs.drop a).take (m - a), (xs.drop m).take (b - m), xs.drop b, ⟨xs.take a, (xs.drop a).take (m - a), (xs.drop m).take (b - m), xs.drop b, ?_, rfl, ?_, ?_, ?_⟩, ?_, ?_, ?_, ?_⟩
  case refine_1 | refine_5 =>
    have e1 : (xs.drop a).take (m - a) ++ (xs.drop m) = xs.drop a := by
      have := List.take_append_drop (m - a) (xs.drop a)
      rw [List.drop_drop, show a + (m - a) = m by omega] at this
      exact this
    have e2 : (xs.drop m).take (b - m) ++ (xs.drop b) = xs.drop m := by
      have := List.take_append_drop (b - m) (xs.drop m)
      rw [List.drop_drop, show m + (b - m) = b by omega] at this
      exact this
    rw [List.append_assoc, List.append_assoc, e2, e1, List.take_append_drop]
  all_goals simp only [List.length_take, List.length_drop]; omega

omit [DecidableEq K] in
theorem app_inj {A B C D : List (K × V)} (h : A ++ B = C ++ D) (hl : A.length = C.length) : A = C ∧ B = D := List.append_inj h hl

omit [DecidableEq K] in
theorem Turning.left {xs ys zs : List (K × V)} {a m b i j : Nat} (h : Turning xs ys a m b i j) (hij : j < i) (hs : Swapped ys zs (m - i) m j) : Turning xs zs a m b (i - j) j := by
  obtain ⟨L, X, Y, R, hR, rfl, h1, h2, h3⟩ := h
  obtain ⟨P, X1, Q, Y1, T, e1, rfl, g1, g2, g3, g4⟩ := hs
  have e2 : L ++ (X ++ (Y ++ R)) = P ++ ((X1 ++ Q) ++ (Y1 ++ T)) := by simpa using e1
  obtain ⟨rfl, e3⟩ := app_inj e2 (by omega)
  obtain ⟨rfl, e4⟩ := app_inj e3 (by simp; omega)
  obtain ⟨rfl, rfl⟩ := app_inj e4 (by omega)
  exact ⟨L ++ Y, Q, X1, R, by simpa using hR, by simp, by simp at h2 ⊢; omega, by simp at h2; omega, by omega⟩

omit [DecidableEq K] in
theorem Turning.right {xs ys zs : List (K × V)} {a m b i j : Nat} (h : Turning xs ys a m b i j) (hij : i ≤ j) (hs : Swapped ys zs (m - i) (m + j - i) i) : Turning xs zs a m b i (j - i) := by
  obtain ⟨L, X, Y, R, hR, rfl, h1, h2, h3⟩ := h
  obtain ⟨P, X1, Q, Y1, T, e1, rfl, g1, g2, g3, g4⟩ := hs
  have e2 : L ++ (X ++ (Y ++ R)) = P ++ (X1 ++ ((Q ++ Y1) ++ T)) := by simpa using e1
  obtain ⟨rfl, e3⟩ := app_inj e2 (by omega)
  obtain ⟨rfl, e4⟩ := app_inj e3 (by omega)
  obtain ⟨rfl, rfl⟩ := app_inj e4 (by simp; omega)
  exact ⟨L, Y1, Q, X ++ R, by simpa using hR, by simp, by omega, by omega, by simp at h3; omega⟩

omit [DecidableEq K] in
theorem Turning.stop {xs ys zs : List (K × V)} {a m b i : Nat} (h : Turning xs ys a m b i i) (hs : Swapped ys zs (m - i) m i) : Rotated xs zs a m b := by
  have := h.right (Nat.le_refl _) (by rw [show m + i - i = m by omega]; exact hs)
  obtain ⟨L, X, Y, R, hR, rfl, h1, h2, h3⟩ := this
  have : Y = [] := List.eq_nil_of_length_eq_zero (by omega)
  subst this
  simpa using hR
omit [DecidableEq K] in
theorem Turning.len {xs ys : List (K × V)} {a m b i j : Nat} (h : Turning xs ys a m b i j) : ys.length = xs.length := by
  obtain ⟨L, X, Y, R, ⟨P, X', Y', T, rfl, e, _⟩, rfl, _⟩ := h
  have := congrArg List.length e
  simp at this ⊢; omega
omit [DecidableEq K] in
theorem Rotated.none (xs : List (K × V)) {a m b : Nat} (h1 : a ≤ m) (h2 : m ≤ b) (h3 : b ≤ xs.length) (h : a = m ∨ m = b) : Rotated xs xs a m b := by
  obtain ⟨L, X, Y, R, ⟨P, X', Y', T, e, _, g1, g2, g3⟩, e2, h4, h5, h6⟩ := Turning.start xs h1 h2 h3
  refine ⟨P, X', Y', T, e, ?_, g1, g2, g3⟩
  rcases h with h | h
  · have : X' = [] := List.eq_nil_of_length_eq_zero (by omega)
    subst this; simpa using e
  · have : Y' = [] := List.eq_nil_of_length_eq_zero (by omega)
    subst this; simpa using e
omit [DecidableEq K] in
theorem Rotated.len {xs ys : List (K × V)} {a m b : Nat} (h : Rotated xs ys a m b) : ys.length = xs.length := by
  obtain ⟨P, X, Y, T, rfl, rfl, _⟩ := h
  simp; omega
omit [DecidableEq K] in
theorem Merged.len {xs ys : List (K × V)} [DecidableEq K] {a m b : Nat} (h : Merged lt xs ys a m b) : ys.length = xs.length := by
  obtain ⟨P, A, B, S, T, rfl, rfl, _, _, _, h⟩ := h
  simp [h.2.2]; omega
/-- one element goes up -/
theorem Rotated.up {xs ys : List (K × V)} {a k : Nat} (h : Rotated xs ys a (a + 1) (k + 1)) (h0 : k < ys.length) (h1 : k + 1 < ys.length) :
    Rotated xs ((ys.set k ys[k + 1]).set (k + 1) ys[k]) a (a + 1) (k + 2) := by
  obtain ⟨P, X, Y, T, rfl, rfl, g1, g2, g3⟩ := h
  obtain ⟨x, rfl⟩ : ∃ x, X = [x] := List.length_eq_one_iff.1 (by omega)
  have hk : P.length + Y.length = k := by simp at g3; omega
  obtain ⟨u, T, rfl⟩ : ∃ u T', T = u :: T' := List.exists_cons_of_ne_nil (by rintro rfl; simp at h1; omega)
  have e0 : (P ++ Y ++ [x] ++ u :: T)[k]'h0 = x := by subst hk; simp
  have e1 : (P ++ Y ++ [x] ++ u :: T)[k + 1]'h1 = u := by subst hk; simp [Nat.add_assoc]
  rw [e0, e1]
  refine ⟨P, [x], Y ++ [u], T, by simp, ?_, g1, g2, by simp; omega⟩
  subst hk
  simp [List.set_append, Nat.add_assoc]
/-- one element goes down -/
theorem Rotated.down {xs ys : List (K × V)} {k m : Nat} (h : Rotated xs ys (k + 1) m (m + 1)) (h0 : k < ys.length) (h1 : k + 1 < ys.length) :
    Rotated xs ((ys.set (k + 1) ys[k]).set k ys[k + 1]) k m (m + 1) := by
  obtain ⟨P, X, Y, T, rfl, rfl, g1, g2, g3⟩ := h
  obtain ⟨x, rfl⟩ : ∃ x, Y = [x] := List.length_eq_one_iff.1 (by omega)
  have hP : P ≠ [] := by rintro rfl; simp at g1
  obtain ⟨P, u, rfl⟩ : ∃ P' u, P = P' ++ [u] := ⟨P.dropLast, P.getLast hP, (List.dropLast_concat_getLast hP).symm⟩
  have hk : P.length = k := by simp at g1; omega
  subst hk
  have e0 : (P ++ [u] ++ [x] ++ X ++ T)[P.length]'h0 = u := by simp
  have e1 : (P ++ [u] ++ [x] ++ X ++ T)[P.length + 1]'h1 = x := by simp
  rw [e0, e1]
  refine ⟨P, u :: X, [x], T, by simp, ?_, rfl, by simp at g2 ⊢; omega, by simp at g3 ⊢; omega⟩
  simp [List.set_append]

/-- an exchange of ranges under way: k of n are exchanged -/
def Swapping (xs ys : List (K × V)) (a b n k : Nat) : Prop :=
  ∃ P X1 X2 Q Y1 Y2 T, xs = P ++ (X1 ++ X2) ++ Q ++ (Y1 ++ Y2) ++ T ∧ ys = P ++ (Y1 ++ X2) ++ Q ++ (X1 ++ Y2) ++ T ∧ P.length = a ∧ X1.length = k ∧ Y1.length = k ∧ X1.length + X2.length = n ∧ Y1.length + Y2.length = n ∧ P.length + n + Q.length = b
theorem Swapping.start (xs : List (K × V)) {a b n : Nat} (h1 : a + n ≤ b) (h2 : b + n ≤ xs.length) : Swapping xs xs a b n 0 := by
  refine ⟨xs.take a, [], (xs.drop a).take n, (xs.drop (a + n)).take (b - (a + n)), [], (xs.drop b).take n, xs.drop (b + n), ?_, ?_, by simp; omega, rfl, rfl, by simp; omega, by simp; omega, by simp; omega⟩
  all_goals
    have e1 : (xs.drop a).take n ++ (xs.drop (a + n)) = xs.drop a := by
      have := List.take_append_drop n (xs.drop a)
      rwa [List.drop_drop] at this
    have e2 : (xs.drop (a + n)).take (b - (a + n)) ++ (xs.drop b) = xs.drop (a + n) := by
      have := List.take_append_drop (b - (a + n)) (xs.drop (a + n))
      rwa [List.drop_drop, show a + n + (b - (a + n)) = b by omega] at this
    have e3 : (xs.drop b).take n ++ (xs.drop (b + n)) = xs.drop b := by
      have := List.take_append_drop n (xs.drop b)
      rwa [List.drop_drop] at this
    simp only [List.nil_append, List.append_assoc]
    rw [e3, e2, e1, List.take_append_drop]
theorem Swapping.step {xs ys : List (K × V)} {a b n k : Nat} (h : Swapping xs ys a b n k) (hk : k < n) (h0 : a + k < ys.length) (h1 : b + k < ys.length) :
    Swapping xs ((ys.set (a + k) ys[b + k]).set (b + k) ys[a + k]) a b n (k + 1) := by
  obtain ⟨P, X1, X2, Q, Y1, Y2, T, rfl, rfl, g1, g2, g3, g4, g5, g6⟩ := h
  obtain ⟨x, X2, rfl⟩ : ∃ x X', X2 = x :: X' := List.exists_cons_of_ne_nil (by rintro rfl; simp at g4; omega)
  obtain ⟨y, Y2, rfl⟩ : ∃ y Y', Y2 = y :: Y' := List.exists_cons_of_ne_nil (by rintro rfl; simp at g5; omega)
  have ea : a + k = (P ++ Y1).length := by simp; omega
  have eb : b + k = (P ++ Y1 ++ x :: X2 ++ Q ++ X1).length := by simp at g4 g5 ⊢; omega
  have f1 : P ++ (Y1 ++ x :: X2) ++ Q ++ (X1 ++ y :: Y2) ++ T = (P ++ Y1) ++ x :: (X2 ++ Q ++ X1 ++ y :: (Y2 ++ T)) := by simp
  have f2 : P ++ (Y1 ++ x :: X2) ++ Q ++ (X1 ++ y :: Y2) ++ T = (P ++ Y1 ++ x :: X2 ++ Q ++ X1) ++ y :: (Y2 ++ T) := by simp
  have e0 : (P ++ (Y1 ++ x :: X2) ++ Q ++ (X1 ++ y :: Y2) ++ T)[a + k]'h0 = x := by
    apply Option.some.inj; rw [← List.getElem?_eq_getElem, f1, ea]; simp
  have e1 : (P ++ (Y1 ++ x :: X2) ++ Q ++ (X1 ++ y :: Y2) ++ T)[b + k]'h1 = y := by
    apply Option.some.inj; rw [← List.getElem?_eq_getElem, f2, eb]; simp
  have f3 : (P ++ Y1 ++ x :: X2 ++ Q ++ X1).length = (P ++ Y1 ++ y :: X2 ++ Q ++ X1).length := by simp
  rw [e0, e1]
  refine ⟨P, X1 ++ [x], X2, Q, Y1 ++ [y], Y2, T, by simp, ?_, g1, by simp; omega, by simp; omega, by simp at g4 ⊢; omega, by simp at g5 ⊢; omega, g6⟩
  rw [f1, ea, List.set_append_right _ _ (Nat.le_refl _), Nat.sub_self, List.set_cons_zero]
  have f4 : P ++ Y1 ++ y :: (X2 ++ Q ++ X1 ++ y :: (Y2 ++ T)) = (P ++ Y1 ++ y :: X2 ++ Q ++ X1) ++ y :: (Y2 ++ T) := by simp
  rw [f4, eb, f3, List.set_append_right _ _ (Nat.le_refl _), Nat.sub_self, List.set_cons_zero]
  simp
theorem Swapping.stop {xs ys : List (K × V)} {a b n : Nat} (h : Swapping xs ys a b n n) : Swapped xs ys a b n := by
  obtain ⟨P, X1, X2, Q, Y1, Y2, T, rfl, rfl, g1, g2, g3, g4, g5, g6⟩ := h
  have e1 : X2 = [] := List.eq_nil_of_length_eq_zero (by omega)
  have e2 : Y2 = [] := List.eq_nil_of_length_eq_zero (by omega)
  subst e1 e2
  exact ⟨P, X1, Q, Y1, T, by simp, by simp, g1, by omega, g6, by omega⟩
theorem Swapping.len {xs ys : List (K × V)} {a b n k : Nat} (h : Swapping xs ys a b n k) : ys.length = xs.length := by
  obtain ⟨P, X1, X2, Q, Y1, Y2, T, rfl, rfl, g1, g2, g3, g4, g5, g6⟩ := h
  simp; omega

/-- where two runs may be cut -/
def Cutting (lt : K → K → Prop) (xs : List (K × V)) (a m b s e : Nat) : Prop :=
  ∃ P A1 A2 B1 B2 T, xs = P ++ (A1 ++ A2) ++ (B1 ++ B2) ++ T ∧ P.length = a ∧ a + A1.length = s ∧ s + A2.length = m ∧ m + B1.length = e ∧ e + B2.length = b ∧
    Srt lt (A1 ++ A2) ∧ Srt lt (B1 ++ B2) ∧ CutAt lt A1 A2 B1 B2
theorem Runs.cutting (T : Tot lt) {xs : List (K × V)} {a m b s e : Nat} (h : Runs lt xs a m b) (h1 : a ≤ s) (h2 : s ≤ m) (h3 : m ≤ e) (h4 : e ≤ b)
    (hl : s = a ∨ e = b ∨ ∃ x y, xs[s - 1]? = some x ∧ xs[e]? = some y ∧ Le lt x y)
    (hr : s = m ∨ e = m ∨ ∃ x y, xs[e - 1]? = some x ∧ xs[s]? = some y ∧ lt x.1 y.1) : Cutting lt xs a m b s e := by
  obtain ⟨P, A, B, R, rfl, g1, g2, g3, hA, hB⟩ := h
  obtain ⟨A1, A2, rfl, k1⟩ : ∃ A1 A2, A = A1 ++ A2 ∧ A1.length = s - a := ⟨A.take (s - a), A.drop (s - a), (List.take_append_drop _ _).symm, by simp; omega⟩
  obtain ⟨B1, B2, rfl, k2⟩ : ∃ B1 B2, B = B1 ++ B2 ∧ B1.length = e - m := ⟨B.take (e - m), B.drop (e - m), (List.take_append_drop _ _).symm, by simp; omega⟩
  simp only [List.length_append] at g2 g3
  refine ⟨P, A1, A2, B1, B2, R, rfl, g1, by omega, by omega, by omega, by omega, hA, hB, ?_, ?_⟩
  · have hA1 : Srt lt A1 := (List.pairwise_append.1 hA).1
    have hB2 : Srt lt B2 := (List.pairwise_append.1 hB).2.1
    refine le_of_ends T hA1 hB2 fun x y hx hy => ?_
    obtain ⟨A', rfl⟩ := List.getLast?_eq_some_iff.1 hx
    obtain ⟨B', rfl⟩ := List.head?_eq_some_iff.1 hy
    rcases hl with hl | hl | ⟨x', y', ex, ey, hle⟩
    · simp at k1; omega
    · simp only [List.length_append, List.length_cons, List.length_nil] at g2 g3 k1; omega
    · have e1 : (P ++ (A' ++ [x] ++ A2) ++ (B1 ++ y :: B') ++ R)[s - 1]? = some x := by
        have : s - 1 = (P ++ A').length := by simp at k1 ⊢; omega
        have f : P ++ (A' ++ [x] ++ A2) ++ (B1 ++ y :: B') ++ R = (P ++ A') ++ x :: (A2 ++ B1 ++ y :: B' ++ R) := by simp
        rw [this, f]; simp
      have e2 : (P ++ (A' ++ [x] ++ A2) ++ (B1 ++ y :: B') ++ R)[e]? = some y := by
        have : e = (P ++ (A' ++ [x] ++ A2) ++ B1).length := by simp at k1 g2 ⊢; omega
        have f : P ++ (A' ++ [x] ++ A2) ++ (B1 ++ y :: B') ++ R = (P ++ (A' ++ [x] ++ A2) ++ B1) ++ y :: (B' ++ R) := by simp
        rw [this, f]; simp
      rw [e1] at ex; rw [e2] at ey
      injection ex with ex; injection ey with ey
      rw [ex, ey]; exact hle
  · have hA2 : Srt lt A2 := (List.pairwise_append.1 hA).2.1
    have hB1 : Srt lt B1 := (List.pairwise_append.1 hB).1
    refine lt_of_ends T hA2 hB1 fun x y hx hy => ?_
    obtain ⟨A', rfl⟩ := List.head?_eq_some_iff.1 hx
    obtain ⟨B', rfl⟩ := List.getLast?_eq_some_iff.1 hy
    rcases hr with hr | hr | ⟨x', y', ex, ey, hle⟩
    · simp only [List.length_append, List.length_cons, List.length_nil] at g2 g3 k1; omega
    · simp only [List.length_append, List.length_cons, List.length_nil] at k2; omega
    · have e1 : (P ++ (A1 ++ x :: A') ++ (B' ++ [y] ++ B2) ++ R)[e - 1]? = some y := by
        have : e - 1 = (P ++ (A1 ++ x :: A') ++ B').length := by simp at k2 g2 ⊢; omega
        have f : P ++ (A1 ++ x :: A') ++ (B' ++ [y] ++ B2) ++ R = (P ++ (A1 ++ x :: A') ++ B') ++ y :: (B2 ++ R) := by simp
        rw [this, f]; simp
      have e2 : (P ++ (A1 ++ x :: A') ++ (B' ++ [y] ++ B2) ++ R)[s]? = some x := by
        have : s = (P ++ A1).length := by simp; omega
        have f : P ++ (A1 ++ x :: A') ++ (B' ++ [y] ++ B2) ++ R = (P ++ A1) ++ x :: (A' ++ B' ++ y :: B2 ++ R) := by simp
        rw [this, f]; simp
      rw [e1] at ex; rw [e2] at ey
      injection ex with ex; injection ey with ey
      rw [ex, ey]; exact hle

theorem Cutting.runs {xs ys : List (K × V)} {a m b s e : Nat} (h : Cutting lt xs a m b s e) (hr : Rotated xs ys s m e) : Runs lt ys a s (s + (e - m)) ∧ Runs lt ys (s + (e - m)) e b := by
  obtain ⟨P, A1, A2, B1, B2, T, rfl, g1, g2, g3, g4, g5, hA, hB, hc⟩ := h
  obtain ⟨P', X, Y, T', e1, rfl, k1, k2, k3⟩ := hr
  have e2 : (P ++ A1) ++ (A2 ++ (B1 ++ (B2 ++ T))) = P' ++ (X ++ (Y ++ T')) := by simpa using e1
  obtain ⟨rfl, e3⟩ := app_inj e2 (by simp; omega)
  obtain ⟨rfl, e4⟩ := app_inj e3 (by omega)
  obtain ⟨rfl, rfl⟩ := app_inj e4 (by omega)
  refine ⟨⟨P, A1, B1, A2 ++ (B2 ++ T), by simp, g1, by omega, by omega, (List.pairwise_append.1 hA).1, (List.pairwise_append.1 hB).1⟩,
    ⟨P ++ A1 ++ B1, A2, B2, T, by simp, by simp; omega, by simp; omega, by simp; omega, (List.pairwise_append.1 hA).2.1, (List.pairwise_append.1 hB).2.1⟩⟩

theorem Cutting.done (O : Tot lt) {xs ys zs us : List (K × V)} {a m b s e : Nat} (h : Cutting lt xs a m b s e) (hr : Rotated xs ys s m e)
    (h1 : Merged lt ys zs a s (s + (e - m))) (h2 : Merged lt zs us (s + (e - m)) e b) : Merged lt xs us a m b := by
  obtain ⟨P, A1, A2, B1, B2, T, rfl, g1, g2, g3, g4, g5, hA, hB, hc⟩ := h
  obtain ⟨P', X, Y, T', e1, rfl, k1, k2, k3⟩ := hr
  have e2 : (P ++ A1) ++ (A2 ++ (B1 ++ (B2 ++ T))) = P' ++ (X ++ (Y ++ T')) := by simpa using e1
  obtain ⟨rfl, e3⟩ := app_inj e2 (by simp; omega)
  obtain ⟨rfl, e4⟩ := app_inj e3 (by omega)
  obtain ⟨rfl, rfl⟩ := app_inj e4 (by omega)
  obtain ⟨P', X, Y, S1, T', e1, rfl, k1, k2, k3, m1⟩ := h1
  have e2 : P ++ (A1 ++ (B1 ++ (A2 ++ (B2 ++ T)))) = P' ++ (X ++ (Y ++ T')) := by simpa using e1
  obtain ⟨rfl, e3⟩ := app_inj e2 (by omega)
  obtain ⟨rfl, e4⟩ := app_inj e3 (by omega)
  obtain ⟨rfl, rfl⟩ := app_inj e4 (by omega)
  obtain ⟨P', X, Y, S2, T', e1, rfl, k1, k2, k3, m2⟩ := h2
  have e2 : (P ++ S1) ++ (A2 ++ (B2 ++ T)) = P' ++ (X ++ (Y ++ T')) := by simpa using e1
  have hS := m1.2.2
  obtain ⟨rfl, e3⟩ := app_inj e2 (by simp; omega)
  obtain ⟨rfl, e4⟩ := app_inj e3 (by omega)
  obtain ⟨rfl, rfl⟩ := app_inj e4 (by omega)
  refine ⟨P, A1 ++ A2, B1 ++ B2, S1 ++ S2, T, by simp, by simp, g1, by simp; omega, by simp; omega, Mrg.cut O hA hB hc m1 m2⟩

theorem Merged.runs {xs ys : List (K × V)} {a m b e c : Nat} (h : Merged lt xs ys a m b) (hr : Runs lt xs b e c) : Runs lt ys b e c := by
  obtain ⟨P, A, B, S, T, rfl, rfl, g1, g2, g3, hm⟩ := h
  obtain ⟨P', X, Y, T', e1, k1, k2, k3, hX, hY⟩ := hr
  have e2 : (P ++ A ++ B) ++ T = P' ++ (X ++ (Y ++ T')) := by simpa using e1
  obtain ⟨rfl, rfl⟩ := app_inj e2 (by simp; omega)
  have hS := hm.2.2
  exact ⟨P ++ S, X, Y, T', by simp, by simp; omega, by simp at k2 ⊢; omega, by simp at k3 ⊢; omega, hX, hY⟩

theorem Runs.merged {xs : List (K × V)} {a m b : Nat} (h : Runs lt xs a m b) (hab : a = m ∨ m = b) : Merged lt xs xs a m b := by
  obtain ⟨P, A, B, T, rfl, g1, g2, g3, hA, hB⟩ := h
  rcases hab with hab | hab
  · have : A = [] := List.eq_nil_of_length_eq_zero (by omega)
    subst this
    exact ⟨P, [], B, B, T, by simp, by simp, g1, g2, g3, Mrg.nil_left hB⟩
  · have : B = [] := List.eq_nil_of_length_eq_zero (by omega)
    subst this
    exact ⟨P, A, [], A, T, by simp, by simp, g1, g2, g3, Mrg.nil_right hA⟩
end
end Go.Proofs.Ytolfockpiioncaa
