/- SortedOrder's own: of like keys the first one; puts in the other order. Plain mathematics. -/
import Derived.Test.YtolfockpiioncaaOf0
namespace Go.Proofs.Ytolfockpiioncaa
open Go.RowKit
namespace SortS
/-- the first ones of the first k acts -/
def firsts (h : List Act) : Nat → Ps
  | 0 => []
  | k + 1 => firsts h k ++ (match h[k]? with
    | some a => if (valueOf (pts (h.take k)) a.key).isSome then [] else [(a.key, a.v)]
    | none => [])
theorem firsts_old {h : List Act} {k : Nat} (hk : k < h.length) (hv : (valueOf (pts (h.take k)) h[k].key).isSome = true) : firsts h (k + 1) = firsts h k := by
  show firsts h k ++ _ = _
  rw [List.getElem?_eq_getElem hk]; simp [hv]
theorem firsts_new {h : List Act} {k : Nat} (hk : k < h.length) (hv : (valueOf (pts (h.take k)) h[k].key).isSome = false) : firsts h (k + 1) = firsts h k ++ [(h[k].key, h[k].v)] := by
  show firsts h k ++ _ = _
  rw [List.getElem?_eq_getElem hk]; simp [hv]
theorem firsts_len (h : List Act) : ∀ k, (firsts h k).length ≤ k
  | 0 => Nat.le_refl _
  | k + 1 => by
    have ih := firsts_len h k
    show (firsts h k ++ _).length ≤ _
    rw [List.length_append]
    split
    · split <;> simp <;> omega
    · simp; omega
theorem pts_take_succ {h : List Act} {k : Nat} (hk : k < h.length) : pts (h.take (k + 1)) = pts (h.take k) ++ [⟨h[k].key, h[k].v, false⟩] := by
  rw [List.take_succ_eq_append_getElem hk]; unfold pts; rw [List.map_append]; rfl
theorem firsts_keys (h : List Act) : ∀ k, k ≤ h.length → ∀ p ∈ firsts h k, (valueOf (pts (h.take k)) p.1).isSome = true
  | 0, _, p, hp => by simp [firsts] at hp
  | k + 1, hk, p, hp => by
    have hlt : k < h.length := hk
    have ih := firsts_keys h k (by omega)
    rw [pts_take_succ hlt, valueOf_snoc]
    by_cases e : h[k].key = p.1
    · rw [if_pos e]; rfl
    · rw [if_neg e]
      cases hv : (valueOf (pts (h.take k)) h[k].key).isSome with
      | true => rw [firsts_old hlt hv] at hp; exact ih p hp
      | false =>
        rw [firsts_new hlt hv, List.mem_append] at hp
        rcases hp with hp | hp
        · exact ih p hp
        · simp at hp; rw [hp] at e; exact absurd rfl e
/-- no key twice -/
def Uniq (l : Ps) : Prop := l.Pairwise fun p q => p.1 ≠ q.1
theorem firsts_uniq (h : List Act) : ∀ k, k ≤ h.length → Uniq (firsts h k)
  | 0, _ => List.Pairwise.nil
  | k + 1, hk => by
    have hlt : k < h.length := hk
    have ih := firsts_uniq h k (by omega)
    cases hv : (valueOf (pts (h.take k)) h[k].key).isSome with
    | true => rw [firsts_old hlt hv]; exact ih
    | false =>
      rw [firsts_new hlt hv]
      unfold Uniq
      rw [List.pairwise_append]
      refine ⟨ih, by simp, fun p hp q hq => ?_⟩
      simp at hq
      rw [hq]
      intro e
      have := firsts_keys h k (by omega) p hp
      rw [show p.1 = h[k].key from e, hv] at this
      cases this
theorem uniq_filter : ∀ {l : Ps}, Uniq l → ∀ p ∈ l, l.filter (fun q => q.1 = p.1) = [p]
  | q :: l, hu, p, hp => by
    have hu' := List.pairwise_cons.1 hu
    rcases List.mem_cons.1 hp with e | hp'
    · subst e
      rw [List.filter_cons_of_pos (by simp)]
      have : l.filter (fun q => q.1 = p.1) = [] := by
        rw [List.filter_eq_nil_iff]
        intro q hq
        have := hu'.1 q hq
        simp; exact fun e => this e.symm
      rw [this]
    · have hne := hu'.1 p hp'
      rw [List.filter_cons_of_neg (by simpa using hne)]
      exact uniq_filter hu'.2 p hp'
theorem ofIs_keys {l m : Ps} (hu : Uniq l) (h : OfIs ltS l m) : Up ltS m ∧ ∀ p, p ∈ m ↔ p ∈ l := by
  refine ⟨h.1, fun p => ?_⟩
  rw [h.2 p]
  constructor
  · intro e
    have := List.mem_of_getLast? e
    exact (List.mem_filter.1 this).1
  · intro hp
    rw [uniq_filter hu p hp]; rfl
/-- the last k of l are put -/
def BackIs (l : Ps) (k : Nat) (m : Ps) : Prop := Up ltS m ∧ m.length ≤ k ∧ ∀ p, p ∈ m ↔ p ∈ l.drop (l.length - k)
theorem BackIs.start (l : Ps) : BackIs l 0 [] := ⟨fun i j hi => by simp at hi, Nat.le_refl _, fun p => by simp⟩
theorem BackIs.step {l m m' : Ps} {k j : Nat} (hu : Uniq l) (hj : j < l.length) (hjk : j + k + 1 = l.length) (h : BackIs l k m) (hp : PutIs ltS m l[j].1 l[j].2 m') : BackIs l (k + 1) m' := by
  refine ⟨hp.1, by have := hp.2.1; have := h.2.1; omega, fun p => ?_⟩
  have e : l.length - (k + 1) = j := by omega
  have e2 : l.length - k = j + 1 := by omega
  rw [hp.2.2 p, e, List.drop_eq_getElem_cons hj, List.mem_cons, h.2.2 p, e2]
  constructor
  · rintro (h1 | ⟨h1, _⟩)
    · exact .inl h1
    · exact .inr h1
  · rintro (h1 | h1)
    · exact .inl h1
    · refine .inr ⟨h1, ?_⟩
      have hu2 : (l.drop j).Pairwise fun p q => p.1 ≠ q.1 := List.Pairwise.sublist (List.drop_sublist _ _) hu
      rw [List.drop_eq_getElem_cons hj] at hu2
      exact fun e => (List.pairwise_cons.1 hu2).1 p h1 e.symm
theorem order_eq {l m1 m2 : Ps} (hu : Uniq l) (h1 : OfIs ltS l m1) (h2 : BackIs l l.length m2) : m1 = m2 ∧ m1.length = l.length := by
  have k1 := ofIs_keys hu h1
  have e : m1 = m2 := up_uniq tot_str k1.1 h2.1 (fun p => by rw [k1.2 p, h2.2.2 p, Nat.sub_self, List.drop_zero])
  have hle : m1.length ≤ l.length := by rw [e]; exact h2.2.1
  refine ⟨e, Nat.le_antisymm hle ?_⟩
  have hn : l.Nodup := by
    refine List.Pairwise.imp ?_ hu
    intro a b hab e; exact hab (by rw [e])
  exact nodup_len l m1 hn (fun p hp => (k1.2 p).2 hp)
end SortS
end Go.Proofs.Ytolfockpiioncaa
