/- Two maps merged: plain mathematics. -/
import Derived.Test.YtolfockpiioncaaOf0
namespace Go.Proofs.Ytolfockpiioncaa
open Go.RowKit
namespace SortS
/-- merged, the values of one key put together by f -/
def mrg (f : Int → Int → Int) : Ps → Ps → Ps
  | [], ys => ys
  | x :: xs, [] => x :: xs
  | x :: xs, y :: ys =>
    if Op.bytesLess x.1.toList y.1.toList then x :: mrg f xs (y :: ys)
    else if Op.bytesLess y.1.toList x.1.toList then y :: mrg f (x :: xs) ys
    else (y.1, f x.2 y.2) :: mrg f xs ys
termination_by a b => a.length + b.length
/-- the values that are put together, in order -/
def met : Ps → Ps → List (Int × Int)
  | [], _ => []
  | _ :: _, [] => []
  | x :: xs, y :: ys =>
    if Op.bytesLess x.1.toList y.1.toList then met xs (y :: ys)
    else if Op.bytesLess y.1.toList x.1.toList then met (x :: xs) ys
    else (x.2, y.2) :: met xs ys
termination_by a b => a.length + b.length
section
variable {f : Int → Int → Int} {x y : ByteArray × Int} {xs ys : Ps}
theorem mrg_nil : mrg f [] ys = ys := by simp [mrg]
theorem mrg_nil' : mrg f xs [] = xs := by cases xs <;> simp [mrg]
theorem mrg_lt (h : ltS x.1 y.1) : mrg f (x :: xs) (y :: ys) = x :: mrg f xs (y :: ys) := by
  unfold ltS at h; rw [mrg, if_pos h]
theorem mrg_gt (h : ltS y.1 x.1) : mrg f (x :: xs) (y :: ys) = y :: mrg f (x :: xs) ys := by
  have h2 : ¬ ltS x.1 y.1 := tot_str.asym h
  unfold ltS at h h2; rw [mrg, if_neg h2, if_pos h]
theorem mrg_eq (h : x.1 = y.1) : mrg f (x :: xs) (y :: ys) = (y.1, f x.2 y.2) :: mrg f xs ys := by
  have h1 : ¬ ltS x.1 y.1 := by rw [h]; exact tot_str.irr _
  have h2 : ¬ ltS y.1 x.1 := by rw [h]; exact tot_str.irr _
  unfold ltS at h1 h2; rw [mrg, if_neg h1, if_neg h2]
theorem met_nil : met [] ys = [] := by simp [met]
theorem met_nil' : met xs [] = [] := by cases xs <;> simp [met]
theorem met_lt (h : ltS x.1 y.1) : met (x :: xs) (y :: ys) = met xs (y :: ys) := by
  unfold ltS at h; rw [met, if_pos h]
theorem met_gt (h : ltS y.1 x.1) : met (x :: xs) (y :: ys) = met (x :: xs) ys := by
  have h2 : ¬ ltS x.1 y.1 := tot_str.asym h
  unfold ltS at h h2; rw [met, if_neg h2, if_pos h]
theorem met_eq (h : x.1 = y.1) : met (x :: xs) (y :: ys) = (x.2, y.2) :: met xs ys := by
  have h1 : ¬ ltS x.1 y.1 := by rw [h]; exact tot_str.irr _
  have h2 : ¬ ltS y.1 x.1 := by rw [h]; exact tot_str.irr _
  unfold ltS at h1 h2; rw [met, if_neg h1, if_neg h2]
end
/-- rising, as pairs -/
abbrev PW (l : Ps) : Prop := l.Pairwise fun a b => ltS a.1 b.1
/-- what two rising lists merged have -/
structure MrgIs (f : Int → Int → Int) (xs ys m : Ps) : Prop where
  up : PW m
  key : ∀ p ∈ m, (∃ q ∈ xs, q.1 = p.1) ∨ ∃ q ∈ ys, q.1 = p.1
  fst : ∀ p ∈ xs, (∀ q ∈ ys, q.1 ≠ p.1) → p ∈ m
  snd : ∀ p ∈ ys, (∀ q ∈ xs, q.1 ≠ p.1) → p ∈ m
  both : ∀ p ∈ xs, ∀ q ∈ ys, p.1 = q.1 → (q.1, f p.2 q.2) ∈ m
theorem pw_head {x : ByteArray × Int} {xs : Ps} (h : PW (x :: xs)) : ∀ p ∈ xs, ltS x.1 p.1 := (List.pairwise_cons.1 h).1
theorem pw_tail {x : ByteArray × Int} {xs : Ps} (h : PW (x :: xs)) : PW xs := (List.pairwise_cons.1 h).2
theorem mrg_is (f : Int → Int → Int) : ∀ (n : Nat) (xs ys : Ps), xs.length + ys.length ≤ n → PW xs → PW ys → MrgIs f xs ys (mrg f xs ys)
  | _, [], ys, _, _, hy => by
    rw [mrg_nil]
    exact ⟨hy, fun p hp => .inr ⟨p, hp, rfl⟩, fun p hp => by simp at hp, fun p hp _ => hp, fun p hp => by simp at hp⟩
  | _, x :: xs, [], _, hx, _ => by
    rw [mrg_nil']
    exact ⟨hx, fun p hp => .inl ⟨p, hp, rfl⟩, fun p hp _ => hp, fun p hp => by simp at hp, fun p _ q hq => by simp at hq⟩
  | 0, x :: xs, y :: ys, hn, _, _ => by simp at hn
  | n + 1, x :: xs, y :: ys, hn, hx, hy => by
    simp only [List.length_cons] at hn
    have hxh := pw_head hx
    have hyh := pw_head hy
    have tr := tot_str.tr
    have ir := tot_str.irr
    rcases tot_str.tri x.1 y.1 with h | h | h
    · rw [mrg_lt h]
      have ih := mrg_is f n xs (y :: ys) (by simp only [List.length_cons]; omega) (pw_tail hx) hy
      have hlt : ∀ p ∈ mrg f xs (y :: ys), ltS x.1 p.1 := by
        intro p hp
        rcases ih.key p hp with ⟨q, hq, e⟩ | ⟨q, hq, e⟩
        · rw [← e]; exact hxh q hq
        · rw [← e]
          rcases List.mem_cons.1 hq with e2 | hq
          · rw [e2]; exact h
          · exact tr _ _ _ h (hyh q hq)
      have hny : ∀ q ∈ y :: ys, q.1 ≠ x.1 := by
        intro q hq e
        rcases List.mem_cons.1 hq with e2 | hq
        · rw [e2] at e; rw [e] at h; exact ir _ h
        · have := tr _ _ _ h (hyh q hq); rw [e] at this; exact ir _ this
      refine ⟨List.pairwise_cons.2 ⟨hlt, ih.up⟩, fun p hp => ?_, fun p hp hq => ?_, fun p hp hq => ?_, fun p hp q hq e => ?_⟩
      · rcases List.mem_cons.1 hp with rfl | hp
        · exact .inl ⟨p, List.mem_cons_self, rfl⟩
        · rcases ih.key p hp with ⟨q, hq, e⟩ | h2
          · exact .inl ⟨q, List.mem_cons_of_mem _ hq, e⟩
          · exact .inr h2
      · rcases List.mem_cons.1 hp with rfl | hp
        · exact List.mem_cons_self
        · exact List.mem_cons_of_mem _ (ih.fst p hp hq)
      · exact List.mem_cons_of_mem _ (ih.snd p hp fun q hq' => hq q (List.mem_cons_of_mem _ hq'))
      · rcases List.mem_cons.1 hp with rfl | hp
        · exact absurd e.symm (hny q hq)
        · exact List.mem_cons_of_mem _ (ih.both p hp q hq e)
    · rw [mrg_eq h]
      have ih := mrg_is f n xs ys (by omega) (pw_tail hx) (pw_tail hy)
      have hlt : ∀ p ∈ mrg f xs ys, ltS y.1 p.1 := by
        intro p hp
        rcases ih.key p hp with ⟨q, hq, e⟩ | ⟨q, hq, e⟩
        · rw [← e, ← h]; exact hxh q hq
        · rw [← e]; exact hyh q hq
      refine ⟨List.pairwise_cons.2 ⟨hlt, ih.up⟩, fun p hp => ?_, fun p hp hq => ?_, fun p hp hq => ?_, fun p hp q hq e => ?_⟩
      · rcases List.mem_cons.1 hp with rfl | hp
        · exact .inr ⟨y, List.mem_cons_self, rfl⟩
        · rcases ih.key p hp with ⟨q, hq, e⟩ | ⟨q, hq, e⟩
          · exact .inl ⟨q, List.mem_cons_of_mem _ hq, e⟩
          · exact .inr ⟨q, List.mem_cons_of_mem _ hq, e⟩
      · rcases List.mem_cons.1 hp with rfl | hp
        · exact absurd h.symm (hq y List.mem_cons_self)
        · exact List.mem_cons_of_mem _ (ih.fst p hp fun q hq' => hq q (List.mem_cons_of_mem _ hq'))
      · rcases List.mem_cons.1 hp with rfl | hp
        · exact absurd h (hq x List.mem_cons_self)
        · exact List.mem_cons_of_mem _ (ih.snd p hp fun q hq' => hq q (List.mem_cons_of_mem _ hq'))
      · rcases List.mem_cons.1 hp with rfl | hp <;> rcases List.mem_cons.1 hq with rfl | hq
        · exact List.mem_cons_self
        · have := hyh q hq; rw [← h, e] at this; exact absurd this (ir _)
        · have := hxh p hp; rw [h, e] at this; exact absurd this (ir _)
        · exact List.mem_cons_of_mem _ (ih.both p hp q hq e)
    · rw [mrg_gt h]
      have ih := mrg_is f n (x :: xs) ys (by simp only [List.length_cons]; omega) hx (pw_tail hy)
      have hlt : ∀ p ∈ mrg f (x :: xs) ys, ltS y.1 p.1 := by
        intro p hp
        rcases ih.key p hp with ⟨q, hq, e⟩ | ⟨q, hq, e⟩
        · rw [← e]
          rcases List.mem_cons.1 hq with e2 | hq
          · rw [e2]; exact h
          · exact tr _ _ _ h (hxh q hq)
        · rw [← e]; exact hyh q hq
      have hnx : ∀ q ∈ x :: xs, q.1 ≠ y.1 := by
        intro q hq e
        rcases List.mem_cons.1 hq with e2 | hq
        · rw [e2] at e; rw [e] at h; exact ir _ h
        · have := tr _ _ _ h (hxh q hq); rw [e] at this; exact ir _ this
      refine ⟨List.pairwise_cons.2 ⟨hlt, ih.up⟩, fun p hp => ?_, fun p hp hq => ?_, fun p hp hq => ?_, fun p hp q hq e => ?_⟩
      · rcases List.mem_cons.1 hp with rfl | hp
        · exact .inr ⟨p, List.mem_cons_self, rfl⟩
        · rcases ih.key p hp with h2 | ⟨q, hq, e⟩
          · exact .inl h2
          · exact .inr ⟨q, List.mem_cons_of_mem _ hq, e⟩
      · exact List.mem_cons_of_mem _ (ih.fst p hp fun q hq' => hq q (List.mem_cons_of_mem _ hq'))
      · rcases List.mem_cons.1 hp with rfl | hp
        · exact List.mem_cons_self
        · exact List.mem_cons_of_mem _ (ih.snd p hp hq)
      · rcases List.mem_cons.1 hq with rfl | hq
        · exact absurd e (hnx p hp)
        · exact List.mem_cons_of_mem _ (ih.both p hp q hq e)
theorem mrg_len (f : Int → Int → Int) : ∀ (n : Nat) (xs ys : Ps), xs.length + ys.length ≤ n → (mrg f xs ys).length + (met xs ys).length = xs.length + ys.length
  | _, [], ys, _ => by rw [mrg_nil, met_nil]; simp
  | _, x :: xs, [], _ => by rw [mrg_nil', met_nil']; simp
  | 0, x :: xs, y :: ys, hn => by simp at hn
  | n + 1, x :: xs, y :: ys, hn => by
    simp only [List.length_cons] at hn
    rcases tot_str.tri x.1 y.1 with h | h | h
    · rw [mrg_lt h, met_lt h]
      have := mrg_len f n xs (y :: ys) (by simp only [List.length_cons]; omega)
      simp only [List.length_cons] at this ⊢; omega
    · rw [mrg_eq h, met_eq h]
      have := mrg_len f n xs ys (by omega)
      simp only [List.length_cons] at this ⊢; omega
    · rw [mrg_gt h, met_gt h]
      have := mrg_len f n (x :: xs) ys (by simp only [List.length_cons]; omega)
      simp only [List.length_cons] at this ⊢; omega
theorem valueOf_append (a : List Act) (k : ByteArray) : ∀ (n : Nat) (b : List Act), b.length = n → valueOf (a ++ pts b) k = match valueOf (pts b) k with | some v => some v | none => valueOf a k
  | 0, b, hb => by
    obtain rfl := List.eq_nil_of_length_eq_zero hb
    simp [pts, valueOf_nil]
  | n + 1, b, hb => by
    have hne : b ≠ [] := by intro e; subst e; simp at hb
    have hs := List.dropLast_concat_getLast hne
    obtain ⟨t, ht⟩ : ∃ t, t = b.dropLast := ⟨_, rfl⟩
    obtain ⟨x, hx⟩ : ∃ x, x = b.getLast hne := ⟨_, rfl⟩
    rw [← ht, ← hx] at hs
    have ih := valueOf_append a k n t (by rw [ht, List.length_dropLast]; omega)
    rw [← hs]
    have e : pts (t ++ [x]) = pts t ++ [⟨x.key, x.v, false⟩] := by simp [pts]
    rw [e, ← List.append_assoc, valueOf_snoc, valueOf_snoc, ih]
    by_cases hk : x.key = k <;> simp [hk]
/-- merged by nothing: the latter map's values count -/
theorem RepH.later {a b : List Act} {ma mb : Ps} (ha : RepH (pts a) ma) (hb : RepH (pts b) mb) : RepH (pts a ++ pts b) (mrg (fun _ v => v) ma mb) := by
  have hm := mrg_is (fun _ v => v) _ ma mb (Nat.le_refl _) ((up_pair _).1 ha.1) ((up_pair _).1 hb.1)
  refine ⟨(up_pair _).2 hm.up, fun p => ?_⟩
  rw [valueOf_append _ _ _ b rfl]
  have uniq : ∀ q ∈ mrg (fun _ v => v) ma mb, q.1 = p.1 → p ∈ mrg (fun _ v => v) ma mb → q = p := by
    intro q hq e hp
    obtain ⟨i, hi, rfl⟩ := List.getElem_of_mem hq
    obtain ⟨j, hj, rfl⟩ := List.getElem_of_mem hp
    have hu := (up_pair _).2 hm.up
    rcases Nat.lt_trichotomy i j with h | h | h
    · have := hu i j hi hj h; rw [e] at this; exact absurd this (tot_str.irr _)
    · subst h; rfl
    · have := hu j i hj hi h; rw [e] at this; exact absurd this (tot_str.irr _)
  have inb : ∀ q ∈ mb, q.1 = p.1 → q ∈ mrg (fun _ v => v) ma mb := by
    intro q hq e
    by_cases hx : ∃ x ∈ ma, x.1 = q.1
    · obtain ⟨x, hx, e2⟩ := hx
      exact hm.both x hx q hq e2
    · exact hm.snd q hq (fun x hx' e2 => hx ⟨x, hx', e2⟩)
  cases hv : valueOf (pts b) p.1 with
  | some v =>
    have hq : (p.1, v) ∈ mb := (hb.2 (p.1, v)).2 hv
    have hq2 := inb _ hq rfl
    constructor
    · intro hp
      have := uniq _ hq2 rfl hp
      rw [← this]
    · intro e
      have e' : v = p.2 := by simpa using e
      have e2 : (p.1, v) = p := by rw [e']
      rw [← e2]; exact hq2
  | none =>
    have hno : ∀ q ∈ mb, q.1 ≠ p.1 := by
      intro q hq e
      have := (hb.2 q).1 hq
      rw [e, hv] at this; cases this
    constructor
    · intro hp
      rcases hm.key p hp with ⟨q, hq, e⟩ | ⟨q, hq, e⟩
      · have hq2 := hm.fst q hq (fun y hy => by rw [e]; exact hno y hy)
        have := uniq q hq2 e hp
        rw [← this]
        exact (ha.2 q).1 hq
      · exact absurd e (hno q hq)
    · intro e
      exact hm.fst p ((ha.2 p).2 e) hno
end SortS
end Go.Proofs.Ytolfockpiioncaa
