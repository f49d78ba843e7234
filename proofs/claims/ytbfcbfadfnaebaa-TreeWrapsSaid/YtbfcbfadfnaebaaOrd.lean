/- Keys in one order, lists of pairs that rise by their keys; the texts' order. Plain mathematics: nothing of a program. -/
import Derived.Test.YtbfcbfadfnaebaaWords
namespace Go.Proofs.Ytbfcbfadfnaebaa
open Go.RowKit

/-- a strict order in which any two unlike ones stand -/
structure Tot {K : Type} (lt : K → K → Prop) : Prop where
  irr : ∀ a, ¬ lt a a
  tr : ∀ a b c, lt a b → lt b c → lt a c
  tri : ∀ a b, lt a b ∨ a = b ∨ lt b a
theorem Tot.asym {K : Type} {lt : K → K → Prop} (h : Tot lt) {a b : K} (h1 : lt a b) : ¬ lt b a := fun h2 => h.irr a (h.tr _ _ _ h1 h2)
/-- not behind -/
theorem Tot.le_tr {K : Type} {lt : K → K → Prop} (h : Tot lt) {a b c : K} (h1 : ¬ lt b a) (h2 : ¬ lt c b) : ¬ lt c a := by
  intro h3
  rcases h.tri a b with h4 | h4 | h4
  · exact h2 (h.tr _ _ _ h3 h4)
  · subst h4; exact h2 h3
  · exact h1 h4

/-- texts by their bytes -/
def ltS (a b : ByteArray) : Prop := Op.bytesLess a.toList b.toList = true
theorem bytesLess_irr : ∀ l, Op.bytesLess l l = false
  | [] => rfl
  | a :: l => by
    have := bytesLess_irr l
    simp [Op.bytesLess, this]
theorem bytesLess_tr : ∀ a b c, Op.bytesLess a b = true → Op.bytesLess b c = true → Op.bytesLess a c = true
  | _, [], _ => by intro h; cases ‹List UInt8› <;> simp [Op.bytesLess] at h
  | [], _ :: _, [] => by intro _ h; simp [Op.bytesLess] at h
  | [], _ :: _, _ :: _ => by intro _ _; rfl
  | _ :: _, _ :: _, [] => by intro _ h; simp [Op.bytesLess] at h
  | x :: a, y :: b, z :: c => by
    intro h1 h2
    simp only [Op.bytesLess, Bool.or_eq_true, Bool.and_eq_true, decide_eq_true_eq, beq_iff_eq] at h1 h2 ⊢
    rcases h1 with h1 | ⟨rfl, h1⟩
    · rcases h2 with h2 | ⟨rfl, h2⟩
      · exact .inl (UInt8.lt_trans h1 h2)
      · exact .inl h1
    · rcases h2 with h2 | ⟨rfl, h2⟩
      · exact .inl h2
      · exact .inr ⟨rfl, bytesLess_tr a b c h1 h2⟩
theorem bytesLess_tri : ∀ a b, Op.bytesLess a b = true ∨ a = b ∨ Op.bytesLess b a = true
  | [], [] => .inr (.inl rfl)
  | [], _ :: _ => .inl rfl
  | _ :: _, [] => .inr (.inr rfl)
  | x :: a, y :: b => by
    simp only [Op.bytesLess, Bool.or_eq_true, Bool.and_eq_true, decide_eq_true_eq, beq_iff_eq]
    rcases Nat.lt_trichotomy x.toNat y.toNat with h | h | h
    · exact .inl (.inl (UInt8.lt_iff_toNat_lt.2 h))
    · have hxy : x = y := UInt8.toNat_inj.1 h
      subst hxy
      rcases bytesLess_tri a b with h1 | h1 | h1
      · exact .inl (.inr ⟨rfl, h1⟩)
      · subst h1; exact .inr (.inl rfl)
      · exact .inr (.inr (.inr ⟨rfl, h1⟩))
    · exact .inr (.inr (.inl (UInt8.lt_iff_toNat_lt.2 h)))
theorem tot_int : Tot (fun a b : Int => a < b) := ⟨by intros; omega, by intros; omega, by intros; omega⟩
theorem bytes_ext {a b : ByteArray} (h : a.toList = b.toList) : a = b := by
  rw [ByteArray.toList_eq, ByteArray.toList_eq] at h
  exact WideShapes.bytes_inj h
theorem tot_str : Tot ltS := by
  refine ⟨fun a h => ?_, fun a b c h1 h2 => bytesLess_tr _ _ _ h1 h2, fun a b => ?_⟩
  · unfold ltS at h; rw [bytesLess_irr] at h; cases h
  · rcases bytesLess_tri a.toList b.toList with h | h | h
    · exact .inl h
    · exact .inr (.inl (bytes_ext h))
    · exact .inr (.inr h)

/-- what cmp.Compare answers -/
noncomputable def cmpK {K : Type} (lt : K → K → Prop) (a b : K) : Int :=
  open Classical in if lt a b then -1 else if lt b a then 1 else 0
section
variable {K : Type} {lt : K → K → Prop} {a b : K}
theorem cmpK_lt (h : lt a b) : cmpK lt a b = -1 := by simp [cmpK, h]
theorem cmpK_gt (h : ¬ lt a b) (h2 : lt b a) : cmpK lt a b = 1 := by simp [cmpK, h, h2]
theorem cmpK_eq (h : ¬ lt a b) (h2 : ¬ lt b a) : cmpK lt a b = 0 := by simp [cmpK, h, h2]
theorem cmpK_neg (h : cmpK lt a b < 0) : lt a b := by
  by_cases h1 : lt a b
  · exact h1
  · by_cases h2 : lt b a <;> simp [cmpK, h1, h2] at h
theorem cmpK_nneg (h : 0 ≤ cmpK lt a b) : ¬ lt a b := by
  by_cases h1 : lt a b
  · simp [cmpK, h1] at h
  · exact h1
theorem cmpK_zero (T : Tot lt) : cmpK lt a b = 0 ↔ a = b := by
  rcases T.tri a b with h | h | h
  · rw [cmpK_lt h]; exact ⟨fun h0 => by omega, fun h0 => (T.irr b (h0 ▸ h)).elim⟩
  · subst h; rw [cmpK_eq (T.irr a) (T.irr a)]; simp
  · rw [cmpK_gt (T.asym h) h]; exact ⟨fun h0 => by omega, fun h0 => (T.irr a (h0 ▸ h)).elim⟩
end

section
variable {K V : Type} {lt : K → K → Prop}
/-- the keys rise -/
def Up (lt : K → K → Prop) (l : List (K × V)) : Prop := ∀ i j (hi : i < l.length) (hj : j < l.length), i < j → lt l[i].1 l[j].1
/-- i is where t stands, or would -/
def Place (lt : K → K → Prop) (l : List (K × V)) (t : K) (i : Nat) : Prop := i ≤ l.length ∧ (∀ k (h : k < l.length), k < i → lt l[k].1 t) ∧ (∀ k (h : k < l.length), i ≤ k → ¬ lt l[k].1 t)
def FoundAt (lt : K → K → Prop) (l : List (K × V)) (t : K) (i : Nat) : Prop := Place lt l t i ∧ ∃ h : i < l.length, l[i].1 = t
def NoneAt (lt : K → K → Prop) (l : List (K × V)) (t : K) (i : Nat) : Prop := Place lt l t i ∧ ∀ h : i < l.length, l[i].1 ≠ t
/-- what a search knows -/
def Inv (lt : K → K → Prop) (l : List (K × V)) (t : K) (i j : Nat) : Prop := (∀ k (h : k < l.length), k < i → lt l[k].1 t) ∧ (∀ k (h : k < l.length), j ≤ k → ¬ lt l[k].1 t)
variable (T : Tot lt) {l : List (K × V)}
include T
theorem Inv.up (hu : Up lt l) {t : K} {i j m : Nat} (h : Inv lt l t i j) (hm : m < l.length) (hc : lt l[m].1 t) : Inv lt l t (m + 1) j :=
  ⟨fun k hk hkm => by
    rcases Nat.lt_or_ge k m with h1 | h1
    · exact T.tr _ _ _ (hu k m hk hm h1) hc
    · obtain rfl : k = m := by omega
      exact hc, h.2⟩
theorem Inv.down (hu : Up lt l) {t : K} {i j m : Nat} (h : Inv lt l t i j) (hm : m < l.length) (hc : ¬ lt l[m].1 t) : Inv lt l t i m :=
  ⟨h.1, fun k hk hkm => by
    rcases Nat.lt_or_ge m k with h1 | h1
    · exact fun h2 => hc (T.tr _ _ _ (hu m k hm hk h1) h2)
    · obtain rfl : k = m := by omega
      exact hc⟩
theorem NoneAt.all (hu : Up lt l) {t : K} {i : Nat} (h : NoneAt lt l t i) : ∀ p ∈ l, p.1 ≠ t := by
  obtain ⟨⟨hi, h1, h2⟩, h3⟩ := h
  intro p hp he
  obtain ⟨k, hk, rfl⟩ := List.getElem_of_mem hp
  rcases Nat.lt_or_ge k i with hlt | hge
  · have := h1 k hk hlt; rw [he] at this; exact T.irr _ this
  · have hil : i < l.length := by omega
    have a1 := h2 i hil (Nat.le_refl _)
    have a2 := h3 hil
    rcases Nat.lt_or_ge i k with h4 | h4
    · have := hu i k hil hk h4; rw [he] at this; exact a1 this
    · obtain rfl : i = k := by omega
      exact a2 he
theorem FoundAt.uniq (hu : Up lt l) {t : K} {i j : Nat} (h : FoundAt lt l t i) (k : FoundAt lt l t j) : i = j := by
  obtain ⟨_, hi, he⟩ := h
  obtain ⟨_, hj, hf⟩ := k
  rcases Nat.lt_trichotomy i j with h1 | h1 | h1
  · have := hu i j hi hj h1; rw [he, hf] at this; exact (T.irr _ this).elim
  · exact h1
  · have := hu j i hj hi h1; rw [he, hf] at this; exact (T.irr _ this).elim
omit T in
theorem FoundAt.mem {t : K} {i : Nat} (h : FoundAt lt l t i) : ∃ p ∈ l, p.1 = t := by
  obtain ⟨_, hi, he⟩ := h
  exact ⟨l[i], List.getElem_mem hi, he⟩
omit T in
theorem NoneAt.uniq {t : K} {i j : Nat} (h : NoneAt lt l t i) (k : NoneAt lt l t j) : i = j := by
  obtain ⟨⟨hi, h1, h2⟩, _⟩ := h
  obtain ⟨⟨hj, h4, h5⟩, _⟩ := k
  rcases Nat.lt_trichotomy i j with h7 | h7 | h7
  · exact (h2 i (by omega) (Nat.le_refl _) (h4 i (by omega) h7)).elim
  · exact h7
  · exact (h5 j (by omega) (Nat.le_refl _) (h1 j (by omega) h7)).elim
theorem exists_at (l : List (K × V)) (hu : Up lt l) (t : K) : ∃ i, FoundAt lt l t i ∨ NoneAt lt l t i := by
  classical
  have key : ∀ n, n ≤ l.length → ∃ i, i ≤ n ∧ (∀ k (h : k < l.length), k < i → lt l[k].1 t) ∧ (∀ k (h : k < l.length), i ≤ k → k < n → ¬ lt l[k].1 t) := by
    intro n
    induction n with
    | zero => intro _; exact ⟨0, Nat.le_refl _, by intros; omega, by intros; omega⟩
    | succ n ih =>
      intro hn
      obtain ⟨i, hi, h1, h2⟩ := ih (by omega)
      by_cases hlt : lt l[n].1 t
      · refine ⟨n + 1, Nat.le_refl _, fun k hk hkn => ?_, by intros; omega⟩
        rcases Nat.lt_or_ge k n with h3 | h3
        · exact T.tr _ _ _ (hu k n hk (by omega) h3) hlt
        · obtain rfl : k = n := by omega
          exact hlt
      · refine ⟨i, by omega, h1, fun k hk hik hkn => ?_⟩
        rcases Nat.lt_or_ge k n with h3 | h3
        · exact h2 k hk hik h3
        · obtain rfl : k = n := by omega
          exact hlt
  obtain ⟨i, hi, h1, h2⟩ := key l.length (Nat.le_refl _)
  have hp : Place lt l t i := ⟨hi, h1, fun k hk hik => h2 k hk hik hk⟩
  refine ⟨i, ?_⟩
  by_cases h : ∃ h : i < l.length, l[i].1 = t
  · exact .inl ⟨hp, h⟩
  · exact .inr ⟨hp, fun hi he => h ⟨hi, he⟩⟩
end

section
variable {K V : Type} {lt : K → K → Prop}
theorem up_pair (l : List (K × V)) : Up lt l ↔ l.Pairwise (fun a b => lt a.1 b.1) :=
  ⟨fun h => List.pairwise_iff_getElem.2 fun i j hi hj hij => h i j hi hj hij, fun h i j hi hj hij => List.pairwise_iff_getElem.1 h i j hi hj hij⟩
/-- lists that rise and have the same elements are the same -/
theorem up_uniq (T : Tot lt) : ∀ {l m : List (K × V)}, Up lt l → Up lt m → (∀ p, p ∈ l ↔ p ∈ m) → l = m := by
  have key : ∀ {l m : List (K × V)}, l.Pairwise (fun a b => lt a.1 b.1) → m.Pairwise (fun a b => lt a.1 b.1) → (∀ p, p ∈ l ↔ p ∈ m) → l = m := by
    intro l
    induction l with
    | nil =>
      intro m _ _ h
      cases m with
      | nil => rfl
      | cons y m => have := (h y).2 (by simp); cases this
    | cons x l ih =>
      intro m hl hm h
      cases m with
      | nil => have := (h x).1 (by simp); cases this
      | cons y m =>
        have hl' := List.pairwise_cons.1 hl
        have hm' := List.pairwise_cons.1 hm
        have hxy : x = y := by
          rcases List.mem_cons.1 ((h x).1 (by simp)) with e | e
          · exact e
          · rcases List.mem_cons.1 ((h y).2 (by simp)) with f | f
            · exact f.symm
            · exact (T.asym (hm'.1 x e) (hl'.1 y f)).elim
        subst hxy
        rw [ih hl'.2 hm'.2 fun p => ?_]
        constructor
        · intro hp
          rcases List.mem_cons.1 ((h p).1 (List.mem_cons_of_mem _ hp)) with e | e
          · subst e; exact (T.irr _ (hl'.1 p hp)).elim
          · exact e
        · intro hp
          rcases List.mem_cons.1 ((h p).2 (List.mem_cons_of_mem _ hp)) with e | e
          · subst e; exact (T.irr _ (hm'.1 p hp)).elim
          · exact e
  exact fun {l m} hl hm h => key ((up_pair _).1 hl) ((up_pair _).1 hm) h
/-- m behind Put(t, v) -/
def PutIs (lt : K → K → Prop) (m : List (K × V)) (t : K) (v : V) (m' : List (K × V)) : Prop :=
  Up lt m' ∧ m'.length ≤ m.length + 1 ∧ ∀ p, p ∈ m' ↔ p = (t, v) ∨ (p ∈ m ∧ p.1 ≠ t)
/-- m behind Del(t) -/
def DelIs (lt : K → K → Prop) (m : List (K × V)) (t : K) (m' : List (K × V)) : Prop :=
  Up lt m' ∧ m'.length ≤ m.length ∧ ∀ p, p ∈ m' ↔ (p ∈ m ∧ p.1 ≠ t)
theorem split_at (m : List (K × V)) (i : Nat) (h : i < m.length) : m = m.take i ++ m[i] :: m.drop (i + 1) := by simp
theorem mem_take_lt {m : List (K × V)} {t : K} {i : Nat} (h : Place lt m t i) : ∀ p ∈ m.take i, lt p.1 t := by
  intro p hp
  obtain ⟨k, hk, rfl⟩ := List.getElem_of_mem hp
  simp at hk
  rw [List.getElem_take]
  exact h.2.1 k (by omega) (by omega)
theorem mem_drop_gt (T : Tot lt) {m : List (K × V)} (hu : Up lt m) {t : K} {i j : Nat} (h : Place lt m t i) (hij : i ≤ j) (hne : ∀ h : j < m.length, i = j → m[j].1 ≠ t) : ∀ p ∈ m.drop j, lt t p.1 := by
  intro p hp
  obtain ⟨k, hk, rfl⟩ := List.getElem_of_mem hp
  simp at hk
  rw [List.getElem_drop]
  have h1 := h.2.2 (j + k) (by omega) (by omega)
  rcases T.tri t (m[j + k]'(by omega)).1 with e | e | e
  · exact e
  · exfalso
    rcases Nat.eq_zero_or_pos k with rfl | hk0
    · rcases Nat.lt_or_ge i j with h2 | h2
      · have := hu i j (by omega) (by omega) h2
        exact h.2.2 i (by omega) (Nat.le_refl _) (by rw [e]; exact this)
      · exact hne (by omega) (by omega) e.symm
    · have := hu j (j + k) (by omega) (by omega) (by omega)
      exact h.2.2 j (by omega) hij (by rw [e]; exact this)
  · exact (h1 e).elim
theorem put_found_is (T : Tot lt) {m : List (K × V)} (hu : Up lt m) {t : K} (v : V) {i : Nat} (hf : FoundAt lt m t i) : PutIs lt m t v (m.take i ++ [(t, v)] ++ m.drop (i + 1)) := by
  obtain ⟨hp, hi, he⟩ := hf
  have h1 := mem_take_lt hp
  have h2 := mem_drop_gt T hu hp (j := i + 1) (by omega) (by intros; omega)
  have hpw := (up_pair m).1 hu
  rw [split_at m i hi] at hpw
  have hpw' := List.pairwise_append.1 hpw
  refine ⟨(up_pair _).2 ?_, by simp; omega, fun p => ?_⟩
  · rw [List.append_assoc, List.pairwise_append]
    refine ⟨hpw'.1, List.pairwise_cons.2 ⟨h2, (List.pairwise_cons.1 hpw'.2.1).2⟩, fun a ha b hb => ?_⟩
    rcases List.mem_cons.1 hb with rfl | hb
    · exact h1 a ha
    · exact T.tr _ _ _ (h1 a ha) (h2 b hb)
  · simp only [List.mem_append, List.mem_singleton]
    constructor
    · rintro ((h | h) | h)
      · exact .inr ⟨List.mem_of_mem_take h, fun e => T.irr t (e ▸ h1 p h)⟩
      · exact .inl h
      · exact .inr ⟨List.mem_of_mem_drop h, fun e => T.irr t (e ▸ h2 p h)⟩
    · rintro (h | ⟨h, hne⟩)
      · exact .inl (.inr h)
      · rw [split_at m i hi, List.mem_append, List.mem_cons] at h
        rcases h with h | h | h
        · exact .inl (.inl h)
        · exact (hne (h ▸ he)).elim
        · exact .inr h
theorem put_none_is (T : Tot lt) {m : List (K × V)} (hu : Up lt m) {t : K} (v : V) {i : Nat} (hf : NoneAt lt m t i) : PutIs lt m t v (m.take i ++ [(t, v)] ++ m.drop i) := by
  obtain ⟨hp, hne⟩ := hf
  have h1 := mem_take_lt hp
  have h2 := mem_drop_gt T hu hp (j := i) (Nat.le_refl _) (fun h _ => hne h)
  have hpw := (up_pair m).1 hu
  have hpw1 : (m.take i ++ m.drop i).Pairwise (fun a b => lt a.1 b.1) := by rwa [List.take_append_drop]
  have hpw' := List.pairwise_append.1 hpw1
  refine ⟨(up_pair _).2 ?_, by have := hp.1; simp; omega, fun p => ?_⟩
  · rw [List.append_assoc, List.pairwise_append]
    refine ⟨hpw'.1, List.pairwise_cons.2 ⟨h2, hpw'.2.1⟩, fun a ha b hb => ?_⟩
    rcases List.mem_cons.1 hb with rfl | hb
    · exact h1 a ha
    · exact T.tr _ _ _ (h1 a ha) (h2 b hb)
  · simp only [List.mem_append, List.mem_singleton]
    constructor
    · rintro ((h | h) | h)
      · exact .inr ⟨List.mem_of_mem_take h, fun e => T.irr t (e ▸ h1 p h)⟩
      · exact .inl h
      · exact .inr ⟨List.mem_of_mem_drop h, fun e => T.irr t (e ▸ h2 p h)⟩
    · rintro (h | ⟨h, hne'⟩)
      · exact .inl (.inr h)
      · rw [← List.take_append_drop i m, List.mem_append] at h
        rcases h with h | h
        · exact .inl (.inl h)
        · exact .inr h
theorem del_found_is (T : Tot lt) {m : List (K × V)} (hu : Up lt m) {t : K} {i : Nat} (hf : FoundAt lt m t i) : DelIs lt m t (m.take i ++ m.drop (i + 1)) := by
  obtain ⟨hp, hi, he⟩ := hf
  have h1 := mem_take_lt hp
  have h2 := mem_drop_gt T hu hp (j := i + 1) (by omega) (by intros; omega)
  have hpw := (up_pair m).1 hu
  rw [split_at m i hi] at hpw
  have hpw' := List.pairwise_append.1 hpw
  refine ⟨(up_pair _).2 ?_, by simp; omega, fun p => ?_⟩
  · rw [List.pairwise_append]
    exact ⟨hpw'.1, (List.pairwise_cons.1 hpw'.2.1).2, fun a ha b hb => T.tr _ _ _ (h1 a ha) (h2 b hb)⟩
  · simp only [List.mem_append]
    constructor
    · rintro (h | h)
      · exact ⟨List.mem_of_mem_take h, fun e => T.irr t (e ▸ h1 p h)⟩
      · exact ⟨List.mem_of_mem_drop h, fun e => T.irr t (e ▸ h2 p h)⟩
    · rintro ⟨h, hne⟩
      rw [split_at m i hi, List.mem_append, List.mem_cons] at h
      rcases h with h | h | h
      · exact .inl h
      · exact (hne (h ▸ he)).elim
      · exact .inr h
theorem del_len (T : Tot lt) {m m' : List (K × V)} (hu : Up lt m) {t : K} (h : DelIs lt m t m') (hm : ∃ p ∈ m, p.1 = t) : m'.length + 1 = m.length := by
  obtain ⟨p, hp, hpt⟩ := hm
  obtain ⟨i, hf | hf⟩ := exists_at T m hu t
  · have h1 := del_found_is T hu hf
    have e : m' = m.take i ++ m.drop (i + 1) := up_uniq T h.1 h1.1 fun q => (h.2.2 q).trans (h1.2.2 q).symm
    have := hf.2.1
    rw [e]; simp; omega
  · exact absurd hpt (hf.all T hu p hp)
theorem del_len_not (T : Tot lt) {m m' : List (K × V)} (hu : Up lt m) {t : K} (h : DelIs lt m t m') (hm : ∀ p ∈ m, p.1 ≠ t) : m'.length = m.length := by
  have e : m' = m := up_uniq T h.1 hu fun q => (h.2.2 q).trans ⟨fun h => h.1, fun h => ⟨h, hm q h⟩⟩
  rw [e]
theorem del_none_is (T : Tot lt) {m : List (K × V)} (hu : Up lt m) {t : K} {i : Nat} (hf : NoneAt lt m t i) : DelIs lt m t (m.take i ++ m.drop i) := by
  rw [List.take_append_drop]
  exact ⟨hu, Nat.le_refl _, fun p => ⟨fun h => ⟨h, hf.all T hu p h⟩, fun h => h.1⟩⟩
end

-- the cells of elements of two cells each
section
variable {α : Type} (f g : α → Value)
def flat2 (l : List α) : List Value := l.flatMap fun p => [f p, g p]
theorem flat2_len (l : List α) : (flat2 f g l).length = l.length * 2 := by
  induction l with
  | nil => rfl
  | cons p l ih => simp [flat2, List.flatMap_cons] at ih ⊢; omega
theorem flat2_fst (l : List α) : ∀ (j : Nat) (h : j < l.length), (flat2 f g l)[j * 2]? = some (f l[j]) := by
  induction l with
  | nil => intro j h; simp at h
  | cons p l ih =>
    intro j h
    cases j with
    | zero => rfl
    | succ j => have := ih j (by simpa using h); simpa [flat2, List.flatMap_cons, Nat.succ_mul] using this
theorem flat2_snd (l : List α) : ∀ (j : Nat) (h : j < l.length), (flat2 f g l)[j * 2 + 1]? = some (g l[j]) := by
  induction l with
  | nil => intro j h; simp at h
  | cons p l ih =>
    intro j h
    cases j with
    | zero => rfl
    | succ j => have := ih j (by simpa using h); simpa [flat2, List.flatMap_cons, Nat.succ_mul] using this
theorem flat2_append (a b : List α) : flat2 f g (a ++ b) = flat2 f g a ++ flat2 f g b := by simp [flat2]
theorem flat2_take (l : List α) : ∀ i, flat2 f g (l.take i) = (flat2 f g l).take (i * 2) := by
  induction l with
  | nil => intro i; simp [flat2]
  | cons p l ih =>
    intro i
    cases i with
    | zero => simp [flat2]
    | succ i => have := ih i; simp [flat2, Nat.succ_mul] at this ⊢; exact this
theorem flat2_drop (l : List α) : ∀ i, flat2 f g (l.drop i) = (flat2 f g l).drop (i * 2) := by
  induction l with
  | nil => intro i; simp [flat2]
  | cons p l ih =>
    intro i
    cases i with
    | zero => simp [flat2]
    | succ i => have := ih i; simp [flat2, Nat.succ_mul] at this ⊢; exact this
theorem flat2_set (l : List α) (e : α) : ∀ i, i < l.length → flat2 f g (l.set i e) = ((flat2 f g l).set (i * 2) (f e)).set (i * 2 + 1) (g e) := by
  induction l with
  | nil => intro i h; simp at h
  | cons p l ih =>
    intro i h
    cases i with
    | zero => simp [flat2]
    | succ i => have := ih i (by simpa using h); simp [flat2, Nat.succ_mul] at this ⊢; exact this
end
end Go.Proofs.Ytbfcbfadfnaebaa
