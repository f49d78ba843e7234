/- Sets of numbers as rising lists of runs, as mathematics: what is right, what is in it, that a set has one such list; edges; what two sets make; how many numbers there are. Nothing here speaks of a program. -/
import Derived.Test.YtbfcbfadfnaebaaWords
namespace Go.Proofs.Ytbfcbfadfnaebaa
namespace Sp
/-- right, from m on -/
def RightF : Int → List (Int × Int) → Prop
  | _, [] => True
  | m, r :: l => m ≤ r.1 ∧ r.1 ≤ r.2 ∧ r.2 ≤ 1099511627776 ∧ RightF (r.2 + 2) l
instance decR : ∀ (m : Int) (l : List (Int × Int)), Decidable (RightF m l)
  | _, [] => .isTrue trivial
  | m, r :: l => by
    unfold RightF
    have := decR (r.2 + 2) l
    exact inferInstance
def rightB (l : List (Int × Int)) : Bool := decide (RightF 1 l)
def hasB (l : List (Int × Int)) (n : Int) : Bool := l.any fun r => decide (r.1 ≤ n ∧ n ≤ r.2)
theorem has_cons (r : Int × Int) (l : List (Int × Int)) (n : Int) : hasB (r :: l) n = (decide (r.1 ≤ n ∧ n ≤ r.2) || hasB l n) := rfl
theorem has_nil (n : Int) : hasB [] n = false := rfl
theorem has_append (a b : List (Int × Int)) (n : Int) : hasB (a ++ b) n = (hasB a n || hasB b n) := by simp [hasB]
theorem has_true {l : List (Int × Int)} {n : Int} : hasB l n = true ↔ ∃ r ∈ l, r.1 ≤ n ∧ n ≤ r.2 := by simp [hasB]
theorem has_false {l : List (Int × Int)} {n : Int} : hasB l n = false ↔ ∀ r ∈ l, ¬ (r.1 ≤ n ∧ n ≤ r.2) := by
  simp [hasB]
theorem RightF.mono {m m' : Int} (hm : m' ≤ m) : ∀ {l : List (Int × Int)}, RightF m l → RightF m' l
  | [], _ => trivial
  | r :: l, h => by obtain ⟨h1, h2, h3, h4⟩ := h; exact ⟨by omega, h2, h3, h4⟩
theorem RightF.mem : ∀ {l : List (Int × Int)} {m : Int}, RightF m l → ∀ r ∈ l, m ≤ r.1 ∧ r.1 ≤ r.2 ∧ r.2 ≤ 1099511627776
  | [], _, _, r, hr => by simp at hr
  | q :: l, m, h, r, hr => by
    obtain ⟨h1, h2, h3, h4⟩ := h
    rcases List.mem_cons.1 hr with rfl | hr
    · exact ⟨h1, h2, h3⟩
    · have := RightF.mem h4 r hr
      exact ⟨by omega, this.2⟩
theorem has_lt {l : List (Int × Int)} {m n : Int} (h : RightF m l) (hn : n < m) : hasB l n = false :=
  has_false.2 fun r hr => by have := h.mem r hr; omega
theorem has_gt {l : List (Int × Int)} {m n : Int} (h : RightF m l) (hn : 1099511627776 < n) : hasB l n = false :=
  has_false.2 fun r hr => by have := h.mem r hr; omega
theorem has_bounds {l : List (Int × Int)} {n : Int} (h : RightF 1 l) (hn : hasB l n = true) : 1 ≤ n ∧ n ≤ 1099511627776 := by
  obtain ⟨r, hr, h1, h2⟩ := has_true.1 hn
  have := h.mem r hr
  omega
/-- a set has one list -/
theorem ext : ∀ {a b : List (Int × Int)} {m m' : Int}, RightF m a → RightF m' b → (∀ n, hasB a n = hasB b n) → a = b
  | [], [], _, _, _, _, _ => rfl
  | [], r :: b, _, _, _, h, he => by
    have := he r.1
    rw [has_nil, has_cons] at this
    obtain ⟨_, h2, _⟩ := h
    simp [h2] at this
  | r :: a, [], _, _, h, _, he => by
    have := he r.1
    rw [has_nil, has_cons] at this
    obtain ⟨_, h2, _⟩ := h
    simp [h2] at this
  | (x, y) :: a, (u, v) :: b, m, m', ha, hb, he => by
    obtain ⟨a1, a2, a3, a4⟩ := ha
    obtain ⟨b1, b2, b3, b4⟩ := hb
    dsimp only at a1 a2 a3 a4 b1 b2 b3 b4
    have key : ∀ {l : List (Int × Int)} {x y n : Int}, RightF (y + 2) l → n ≤ y + 1 → hasB ((x, y) :: l) n = decide (x ≤ n ∧ n ≤ y) := by
      intro l x y n h hn
      rw [has_cons, has_lt h (by omega), Bool.or_false]
    have hxu : x = u := by
      have e1 := he x
      have e2 := he u
      rcases Int.lt_trichotomy x u with h | h | h
      · rw [key a4 (by omega), key b4 (by omega)] at e1
        have e3 : decide (x ≤ x ∧ x ≤ y) = true := by simp; omega
        have e4 : decide (u ≤ x ∧ x ≤ v) = false := by simp; omega
        rw [e3, e4] at e1
        cases e1
      · exact h
      · rw [key a4 (by omega), key b4 (by omega)] at e2
        have e3 : decide (x ≤ u ∧ u ≤ y) = false := by simp; omega
        have e4 : decide (u ≤ u ∧ u ≤ v) = true := by simp; omega
        rw [e3, e4] at e2
        cases e2
    subst hxu
    have hyv : y = v := by
      have e1 := he (y + 1)
      have e2 := he (v + 1)
      rcases Int.lt_trichotomy y v with h | h | h
      · rw [key a4 (by omega), key b4 (by omega)] at e1
        have e3 : decide (x ≤ y + 1 ∧ y + 1 ≤ y) = false := by simp; omega
        have e4 : decide (x ≤ y + 1 ∧ y + 1 ≤ v) = true := by simp; omega
        rw [e3, e4] at e1
        cases e1
      · exact h
      · rw [key a4 (by omega), key b4 (by omega)] at e2
        have e3 : decide (x ≤ v + 1 ∧ v + 1 ≤ v) = false := by simp; omega
        have e4 : decide (x ≤ v + 1 ∧ v + 1 ≤ y) = true := by simp; omega
        rw [e3, e4] at e2
        cases e2
    subst hyv
    have : a = b := by
      refine ext a4 b4 fun n => ?_
      by_cases hn : n ≤ y
      · rw [has_lt a4 (by omega), has_lt b4 (by omega)]
      · have e := he n
        rw [has_cons, has_cons] at e
        have e3 : decide (x ≤ n ∧ n ≤ y) = false := by simp; omega
        simpa [e3] using e
    rw [this]
theorem RightF.snoc : ∀ {l : List (Int × Int)} {m : Int}, RightF m l → ∀ {r : Int × Int}, (∀ q ∈ l, q.2 + 2 ≤ r.1) → m ≤ r.1 → r.1 ≤ r.2 → r.2 ≤ 1099511627776 → RightF m (l ++ [r])
  | [], _, _, _, _, h1, h2, h3 => ⟨h1, h2, h3, trivial⟩
  | q :: l, _, h, r, hq, _, h2, h3 => by
    obtain ⟨a1, a2, a3, a4⟩ := h
    exact ⟨a1, a2, a3, RightF.snoc a4 (fun p hp => hq p (List.mem_cons_of_mem _ hp)) (hq q List.mem_cons_self) h2 h3⟩
theorem RightF.of_snoc : ∀ {l : List (Int × Int)} {m : Int} {r : Int × Int}, RightF m (l ++ [r]) → RightF m l ∧ (∀ q ∈ l, q.2 + 2 ≤ r.1) ∧ m ≤ r.1 ∧ r.1 ≤ r.2 ∧ r.2 ≤ 1099511627776
  | [], _, _, h => ⟨trivial, by simp, h.1, h.2.1, h.2.2.1⟩
  | q :: l, _, r, h => by
    obtain ⟨a1, a2, a3, a4⟩ := h
    obtain ⟨b1, b2, b3, b4, b5⟩ := RightF.of_snoc a4
    refine ⟨⟨a1, a2, a3, b1⟩, fun p hp => ?_, by omega, b4, b5⟩
    rcases List.mem_cons.1 hp with rfl | hp
    · exact b3
    · exact b2 p hp
/-- the i-th of the numbers at which runs begin, or have just ended; behind them all one above every edge -/
def edge : List (Int × Int) → Nat → Int
  | [], _ => 1099511627778
  | r :: _, 0 => r.1
  | r :: _, 1 => r.2 + 1
  | _ :: l, i + 2 => edge l i
theorem edge_end : ∀ {l : List (Int × Int)} {i : Nat}, 2 * l.length ≤ i → edge l i = 1099511627778
  | [], _, _ => rfl
  | r :: l, 0, h => by simp at h
  | r :: l, 1, h => by simp at h; omega
  | r :: l, i + 2, h => edge_end (l := l) (i := i) (by simp at h; omega)
theorem edge_even : ∀ {l : List (Int × Int)} {k : Nat} (h : k < l.length), edge l (2 * k) = l[k].1
  | r :: l, 0, _ => rfl
  | r :: l, k + 1, h => by
    rw [show 2 * (k + 1) = 2 * k + 2 from by omega]
    show edge l (2 * k) = _
    rw [edge_even (by simpa using h)]
    rfl
theorem edge_odd : ∀ {l : List (Int × Int)} {k : Nat} (h : k < l.length), edge l (2 * k + 1) = l[k].2 + 1
  | r :: l, 0, _ => rfl
  | r :: l, k + 1, h => by
    rw [show 2 * (k + 1) + 1 = 2 * k + 1 + 2 from by omega]
    show edge l (2 * k + 1) = _
    rw [edge_odd (by simpa using h)]
    rfl
theorem edge_ge : ∀ {l : List (Int × Int)} {m : Int} {i : Nat}, RightF m l → i < 2 * l.length → m ≤ edge l i ∧ edge l i ≤ 1099511627777
  | [], _, _, _, h => by simp at h
  | r :: l, m, 0, h, _ => by obtain ⟨a1, a2, a3, _⟩ := h; exact ⟨a1, by show r.1 ≤ _; omega⟩
  | r :: l, m, 1, h, _ => by obtain ⟨a1, a2, a3, _⟩ := h; exact ⟨by show m ≤ r.2 + 1; omega, by show r.2 + 1 ≤ _; omega⟩
  | r :: l, m, i + 2, h, hi => by
    obtain ⟨a1, a2, a3, a4⟩ := h
    have := edge_ge (i := i) a4 (by simp at hi; omega)
    exact ⟨by show m ≤ edge l i; omega, this.2⟩
theorem edge_pos {l : List (Int × Int)} (h : RightF 1 l) (i : Nat) : 1 ≤ edge l i ∧ edge l i ≤ 1099511627778 := by
  by_cases hi : i < 2 * l.length
  · have := edge_ge h hi; omega
  · rw [edge_end (by omega)]; omega
theorem edge_lt : ∀ {l : List (Int × Int)} {m : Int} {i : Nat}, RightF m l → i < 2 * l.length → edge l i < edge l (i + 1)
  | [], _, _, _, h => by simp at h
  | r :: l, m, 0, h, _ => by obtain ⟨a1, a2, a3, _⟩ := h; show r.1 < r.2 + 1; omega
  | r :: l, m, 1, h, _ => by
    obtain ⟨a1, a2, a3, a4⟩ := h
    show r.2 + 1 < edge l 0
    cases l with
    | nil => show _ < (1099511627778 : Int); omega
    | cons q l => have := a4.1; show _ < q.1; omega
  | r :: l, m, i + 2, h, hi => by
    obtain ⟨a1, a2, a3, a4⟩ := h
    exact edge_lt (l := l) (i := i) a4 (by simp at hi; omega)
/-- between two edges all are within, or none is -/
theorem has_at : ∀ {l : List (Int × Int)} {m : Int} {k : Nat} {n : Int}, RightF m l → k ≤ 2 * l.length → (k = 0 ∨ edge l (k - 1) ≤ n) → (k = 2 * l.length ∨ n < edge l k) → hasB l n = decide (k % 2 = 1)
  | [], _, k, n, _, hk, _, _ => by
    have : k = 0 := by simpa using hk
    subst this; rfl
  | r :: l, m, 0, n, h, _, _, h2 => by
    have h2 : n < r.1 := by
      rcases h2 with h2 | h2
      · simp at h2
      · exact h2
    obtain ⟨a1, a2, a3, a4⟩ := h
    rw [has_cons, has_lt a4 (by omega)]
    simp; omega
  | r :: l, m, 1, n, h, _, h1, h2 => by
    obtain ⟨a1, a2, a3, a4⟩ := h
    have h1 : r.1 ≤ n := by
      rcases h1 with h1 | h1
      · omega
      · exact h1
    have h2 : n < r.2 + 1 := by
      rcases h2 with h2 | h2
      · simp at h2; omega
      · exact h2
    rw [has_cons]
    simp; left; omega
  | r :: l, m, k + 2, n, h, hk, h1, h2 => by
    obtain ⟨a1, a2, a3, a4⟩ := h
    have hl : r.2 < n := by
      rcases h1 with h1 | h1
      · omega
      · cases k with
        | zero => have : r.2 + 1 ≤ n := h1; omega
        | succ k =>
          have h1 : edge l k ≤ n := h1
          have := edge_ge (i := k) a4 (by simp at hk; omega)
          omega
    have ih := has_at (l := l) (k := k) (n := n) a4 (by simp at hk; omega)
      (by
        rcases h1 with h1 | h1
        · omega
        · cases k with
          | zero => exact .inl rfl
          | succ k => exact .inr h1)
      (by
        rcases h2 with h2 | h2
        · left; simp at h2; omega
        · exact .inr h2)
    rw [has_cons, ih]
    have e : decide (r.1 ≤ n ∧ n ≤ r.2) = false := by simp; omega
    rw [e, Bool.false_or]
    have : (k + 2) % 2 = k % 2 := by omega
    rw [this]
/-- what two sets make -/
structure Put (f : Bool → Bool → Bool) (a b l : List (Int × Int)) : Prop where
  right : RightF 1 l
  has : ∀ n, hasB l n = f (hasB a n) (hasB b n)
  len : l.length ≤ a.length + b.length
theorem Put.eq {f : Bool → Bool → Bool} {a b l l' : List (Int × Int)} (h : Put f a b l) (h' : Put f a b l') : l = l' := ext h.right h'.right fun n => by rw [h.has, h'.has]
/-- how far a join is: i edges of a and j edges of b lie at p or ahead of it -/
structure Join (f : Bool → Bool → Bool) (a b : List (Int × Int)) (i j : Nat) (p : Int) (done : List (Int × Int)) (s : Int) (within : Bool) : Prop where
  hi : i ≤ 2 * a.length
  hj : j ≤ 2 * b.length
  pi : i = 0 ∨ edge a (i - 1) ≤ p
  pj : j = 0 ∨ edge b (j - 1) ≤ p
  ni : p < edge a i
  nj : p < edge b j
  w : within = f (decide (i % 2 = 1)) (decide (j % 2 = 1))
  right : RightF 1 done
  ends : ∀ r ∈ done, r.2 + 1 ≤ p
  open_ : within = true → 1 ≤ s ∧ s ≤ p ∧ ∀ r ∈ done, r.2 + 2 ≤ s
  has : ∀ n, n ≤ p → (hasB done n || (within && decide (s ≤ n))) = f (hasB a n) (hasB b n)
  len : 2 * done.length + (if within then 1 else 0) ≤ i + j
theorem Join.zero {f : Bool → Bool → Bool} (hf : f false false = false) {a b : List (Int × Int)} (ha : RightF 1 a) (hb : RightF 1 b) (s : Int) : Join f a b 0 0 0 [] s false := by
  refine ⟨Nat.zero_le _, Nat.zero_le _, .inl rfl, .inl rfl, ?_, ?_, by simp [hf], trivial, by simp, by simp, fun n hn => ?_, by simp⟩
  · have := edge_pos ha 0; omega
  · have := edge_pos hb 0; omega
  · rw [has_lt ha (by omega), has_lt hb (by omega), hf]; simp [has_nil]
/-- the row that lies there -/
def rowJ (done : List (Int × Int)) (s : Int) (within : Bool) : List (Int × Int) := if within then done ++ [(s, 0)] else done
theorem Join.end {f : Bool → Bool → Bool} (hf : f false false = false) {a b done : List (Int × Int)} {i j : Nat} {p s : Int} {within : Bool} (ha : RightF 1 a) (hb : RightF 1 b) (h : Join f a b i j p done s within) (hi : 2 * a.length ≤ i) (hj : 2 * b.length ≤ j) : within = false ∧ Put f a b done := by
  have ei : i = 2 * a.length := Nat.le_antisymm h.hi hi
  have ej : j = 2 * b.length := Nat.le_antisymm h.hj hj
  have hw : within = false := by
    rw [h.w, ei, ej]
    simp [hf]
  refine ⟨hw, h.right, fun n => ?_, ?_⟩
  · by_cases hn : n ≤ p
    · have := h.has n hn
      rw [hw] at this
      simpa using this
    · have e1 := has_at (k := i) (n := n) ha h.hi (by have := h.pi; omega) (.inl ei)
      have e2 := has_at (k := j) (n := n) hb h.hj (by have := h.pj; omega) (.inl ej)
      have e3 : hasB done n = false := has_false.2 fun r hr => by have := h.ends r hr; omega
      rw [e1, e2, e3, ei, ej]
      simp [hf]
  · have := h.len
    omega
theorem Join.more {f : Bool → Bool → Bool} {a b done : List (Int × Int)} {i j i' j' : Nat} {p s at' : Int} {within kept : Bool} (ha : RightF 1 a) (hb : RightF 1 b) (h : Join f a b i j p done s within)
    (hlt : i < 2 * a.length ∨ j < 2 * b.length) (hat : at' = min (edge a i) (edge b j)) (hi' : i' = if edge a i = at' then i + 1 else i) (hj' : j' = if edge b j = at' then j + 1 else j) (hk : kept = f (decide (i' % 2 = 1)) (decide (j' % 2 = 1))) :
    1 ≤ at' ∧ at' ≤ 1099511627777 ∧ i + j < i' + j' ∧ Join f a b i' j' at' (if !kept && within then done ++ [(s, at' - 1)] else done) (if kept && !within then at' else s) kept := by
  have hle : at' ≤ 1099511627777 := by
    rw [hat]
    rcases hlt with h1 | h1
    · have := (edge_ge ha h1).2; omega
    · have := (edge_ge hb h1).2; omega
  have hp : p < at' := by have := h.ni; have := h.nj; omega
  have hpos : 1 ≤ at' := by have := (edge_pos ha i).1; have := (edge_pos hb j).1; omega
  have hii : edge a i = at' → i < 2 * a.length := fun e => by
    rcases Nat.lt_or_ge i (2 * a.length) with h1 | h1
    · exact h1
    · rw [edge_end h1] at e; omega
  have hjj : edge b j = at' → j < 2 * b.length := fun e => by
    rcases Nat.lt_or_ge j (2 * b.length) with h1 | h1
    · exact h1
    · rw [edge_end h1] at e; omega
  have hone : edge a i = at' ∨ edge b j = at' := by omega
  have h_i : i' ≤ 2 * a.length ∧ (i' = 0 ∨ edge a (i' - 1) ≤ at') ∧ at' < edge a i' := by
    by_cases e : edge a i = at'
    · rw [if_pos e] at hi'
      subst hi'
      have := edge_lt ha (hii e)
      exact ⟨hii e, .inr (by rw [Nat.add_sub_cancel]; omega), by omega⟩
    · rw [if_neg e] at hi'
      subst hi'
      exact ⟨h.hi, by have := h.pi; omega, by omega⟩
  have h_j : j' ≤ 2 * b.length ∧ (j' = 0 ∨ edge b (j' - 1) ≤ at') ∧ at' < edge b j' := by
    by_cases e : edge b j = at'
    · rw [if_pos e] at hj'
      subst hj'
      have := edge_lt hb (hjj e)
      exact ⟨hjj e, .inr (by rw [Nat.add_sub_cancel]; omega), by omega⟩
    · rw [if_neg e] at hj'
      subst hj'
      exact ⟨h.hj, by have := h.pj; omega, by omega⟩
  have hmid : ∀ n, p < n → n < at' → f (hasB a n) (hasB b n) = within := fun n h1 h2 => by
    have e1 := has_at (k := i) (n := n) ha h.hi (by have := h.pi; omega) (.inr (by omega))
    have e2 := has_at (k := j) (n := n) hb h.hj (by have := h.pj; omega) (.inr (by omega))
    rw [e1, e2, h.w]
  have hend : f (hasB a at') (hasB b at') = kept := by
    have e1 := has_at (k := i') (n := at') ha h_i.1 h_i.2.1 (.inr h_i.2.2)
    have e2 := has_at (k := j') (n := at') hb h_j.1 h_j.2.1 (.inr h_j.2.2)
    rw [e1, e2, hk]
  have hno : ∀ n, p ≤ n → hasB done n = false := fun n hn => has_false.2 fun r hr => by have := h.ends r hr; omega
  have hlen := h.len
  have hsum : i + j < i' + j' := by
    rcases hone with e | e
    · rw [if_pos e] at hi'
      have : j ≤ j' := by rw [hj']; split <;> omega
      omega
    · rw [if_pos e] at hj'
      have : i ≤ i' := by rw [hi']; split <;> omega
      omega
  refine ⟨hpos, hle, hsum, h_i.1, h_j.1, h_i.2.1, h_j.2.1, h_i.2.2, h_j.2.2, hk, ?_, ?_, ?_, ?_, ?_⟩
  · cases kept <;> cases hw : within <;> simp only [Bool.not_true, Bool.not_false, Bool.and_true, Bool.and_false, if_true, Bool.false_eq_true, if_false] <;> try exact h.right
    obtain ⟨s1, s2, s3⟩ := h.open_ hw
    exact h.right.snoc (fun q hq => s3 q hq) s1 (by show s ≤ at' - 1; omega) (by show at' - 1 ≤ _; omega)
  · intro r hr
    have hr' : r ∈ done ∨ r.2 = at' - 1 := by
      split at hr
      · rcases List.mem_append.1 hr with h1 | h1
        · exact .inl h1
        · rw [List.mem_singleton.1 h1]; exact .inr rfl
      · exact .inl hr
    rcases hr' with h1 | h1
    · have := h.ends r h1; omega
    · omega
  · intro hkt
    subst hkt
    cases hw : within with
    | true =>
      obtain ⟨s1, s2, s3⟩ := h.open_ hw
      simp only [Bool.not_true, Bool.and_false, Bool.false_and, Bool.false_eq_true, if_false]
      exact ⟨s1, by omega, s3⟩
    | false =>
      simp only [Bool.not_true, Bool.not_false, Bool.and_false, Bool.and_true, Bool.false_eq_true, if_false, if_true]
      exact ⟨hpos, Int.le_refl _, fun r hr => by have := h.ends r hr; omega⟩
  · intro n hn
    rcases (by omega : p < n ∨ n ≤ p) with h1 | h1
    · rcases (by omega : n < at' ∨ at' ≤ n) with h2 | h2
      · rw [hmid n h1 h2]
        have e0 := hno n (by omega)
        cases kept <;> cases hw : within
        · simp [e0]
        · obtain ⟨s1, s2, s3⟩ := h.open_ hw
          simp only [Bool.not_false, Bool.and_true, if_true, has_append, has_cons, has_nil, e0, Bool.false_or, Bool.or_false, Bool.false_and, decide_eq_true_eq]
          omega
        · have : ¬ at' ≤ n := by omega
          simp [e0, this]
        · obtain ⟨s1, s2, s3⟩ := h.open_ hw
          have : s ≤ n := by omega
          simp [e0, this]
      · have : n = at' := by omega
        subst this
        rw [hend]
        have e0 := hno n (by omega)
        cases kept <;> cases hw : within
        · simp [e0]
        · have e3 : decide (s ≤ n ∧ n ≤ n - 1) = false := by simp; omega
          simp only [Bool.not_false, Bool.and_true, if_true, has_append, has_cons, has_nil, e0, Bool.or_false, Bool.false_and, e3]
        · simp [e0]
        · obtain ⟨s1, s2, s3⟩ := h.open_ hw
          have : s ≤ n := by omega
          simp [e0, this]
    · have e := h.has n h1
      rw [← e]
      cases kept <;> cases hw : within
      · simp
      · have e3 : decide (s ≤ n ∧ n ≤ at' - 1) = decide (s ≤ n) := by
          congr 1
          exact propext ⟨fun h => h.1, fun h => ⟨h, by omega⟩⟩
        simp only [Bool.not_false, Bool.and_true, Bool.true_and, if_true, has_append, has_cons, has_nil, Bool.or_false, Bool.false_and, e3]
      · have : ¬ at' ≤ n := by omega
        simp [this]
      · simp
  · cases kept <;> cases hw : within <;> simp only [hw, Bool.not_true, Bool.not_false, Bool.and_true, Bool.and_false, if_true, Bool.false_eq_true, if_false, List.length_append, List.length_singleton] at hlen ⊢ <;> omega
end Sp
end Go.Proofs.Ytbfcbfadfnaebaa
