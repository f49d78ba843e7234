/- Two sets put together from place to place; the set of numbers, one by one: the document's way, as mathematics. -/
import Derived.Test.YtfkkjgebemnhnaaSpan4
namespace Go.Proofs.Ytfkkjgebemnhnaa
open Go.RowKit
namespace Sp
theorem run_apps {w : World} {base n m c c' : Nat} {A A' : Option Addr} {xs ys : List Int} (ho : Own w base 2 1 A n c (intsC xs)) (hr : Rd w w.heap.size 1 A' m c' (intsC ys)) (hn : n + m ≤ 1000000) (hb : base ≤ w.heap.size) :
    ∃ A2 c2 w2, (Builtin.append_ #[69, 69] 69 #[.slice A n c, .slice A' m c']).run Try.prog w = .ok (.slice A2 (n + m) c2) w2 ∧ Own w2 base 2 1 A2 (n + m) c2 (intsC (xs ++ ys)) ∧ Below base w w2 := by
  obtain ⟨i0, hi0, hz0, hz1, hz2⟩ := info_of infoI
  obtain ⟨v', w', h1, h2, h3, h4⟩ := run_app (P := Try.prog) w base 69 69 2 i0 _ 1 8 Try.underlying69 hi0 hz0 hz1 hz2 rfl (by omega) ho.row hr hn (by omega) hb
  rw [← intsC_append] at h2
  obtain ⟨A2, c2, rfl, h5⟩ := Own.of_row h2 (intsC_one _)
  exact ⟨A2, c2, w', h1, h5, (Below.refl base w).grown h3 hb (fun k hk => (ho.row.lt k hk).1)⟩
theorem nil_or_snoc (l : List (Int × Int)) : l = [] ∨ ∃ d r, l = d ++ [r] := by
  by_cases h : l = []
  · exact .inl h
  · exact .inr ⟨_, _, (List.dropLast_concat_getLast h).symm⟩
theorem ends_mem {l : List (Int × Int)} {r : Int × Int} (h : r ∈ l) : r.1 ∈ endsL l ∧ r.2 + 1 ∈ endsL l := ⟨List.mem_flatMap.2 ⟨r, h, by simp⟩, List.mem_flatMap.2 ⟨r, h, by simp⟩⟩
/-- no end between: alike -/
theorem has_between {l : List (Int × Int)} {u n : Int} (hu : u ≤ n) (h : ∀ x ∈ endsL l, u < x → n < x) : hasB l n = hasB l u := by
  have key : ∀ r ∈ l, (r.1 ≤ n ∧ n ≤ r.2) ↔ (r.1 ≤ u ∧ u ≤ r.2) := fun r hr => by
    obtain ⟨m1, m2⟩ := ends_mem hr
    have h1 := h _ m1
    have h2 := h _ m2
    omega
  cases hx : hasB l u with
  | true =>
    obtain ⟨r, hr, h2⟩ := has_true.1 hx
    exact has_true.2 ⟨r, hr, (key r hr).2 h2⟩
  | false => exact has_false.2 fun r hr h2 => has_false.1 hx r hr ((key r hr).1 h2)
theorem cnt_step : ∀ {L : List Int} {t u : Int}, t ∈ L → t < u → L.countP (fun x => decide (x < t)) + 1 ≤ L.countP (fun x => decide (x < u))
  | [], _, _, h, _ => by simp at h
  | x :: L, t, u, h, hu => by
    have mono : L.countP (fun x => decide (x < t)) ≤ L.countP (fun x => decide (x < u)) := List.countP_mono_left (fun y _ hy => by simp at hy ⊢; omega)
    rw [List.countP_cons, List.countP_cons]
    by_cases hx : x = t
    · subst hx
      have e1 : decide (x < x) = false := by simp
      have e2 : decide (x < u) = true := by simpa using hu
      simp only [e1, e2, if_true, Bool.false_eq_true, if_false]
      omega
    · have h' : t ∈ L := by
        rcases List.mem_cons.1 h with h | h
        · exact absurd h.symm hx
        · exact h
      have ih := cnt_step h' hu
      by_cases h1 : x < t
      · have e1 : decide (x < t) = true := by simpa using h1
        have e2 : decide (x < u) = true := by simp; omega
        simp only [e1, e2, if_true]
        omega
      · have e1 : decide (x < t) = false := by simpa using h1
        simp only [e1, Bool.false_eq_true, if_false]
        split <;> omega
theorem ends_bounds {l : List (Int × Int)} (h : RightF 1 l) {x : Int} (hx : x ∈ endsL l) : 1 ≤ x ∧ x ≤ 1099511627777 := by
  obtain ⟨r, hr, hx⟩ := List.mem_flatMap.1 hx
  have := h.mem r hr
  simp at hx
  omega
/-- how far the document's way is -/
structure ByInv (f : Bool → Bool → Bool) (a b out : List (Int × Int)) (t : Int) (ok : Bool) : Prop where
  right : RightF 1 out
  on : ok = true → t ∈ endsL a ++ endsL b ∧ 1 ≤ t ∧ t ≤ 1099511627777 ∧ (∀ r ∈ out, r.2 < t) ∧ (∀ n, n < t → hasB out n = f (hasB a n) (hasB b n)) ∧ out.length ≤ (endsL a ++ endsL b).countP (fun x => decide (x < t))
  off : ok = false → ∀ n, hasB out n = f (hasB a n) (hasB b n)
theorem between_both {a b : List (Int × Int)} {u n : Int} (hu : u ≤ n) (h : ∀ x ∈ endsL a ++ endsL b, u < x → n < x) : hasB a n = hasB a u ∧ hasB b n = hasB b u :=
  ⟨has_between hu fun x hx => h x (List.mem_append_left _ hx), has_between hu fun x hx => h x (List.mem_append_right _ hx)⟩
theorem ByInv.zero {f : Bool → Bool → Bool} (hf : f false false = false) {a b : List (Int × Int)} (ha : RightF 1 a) (hb : RightF 1 b) : ByInv f a b [] ((nextL 0 (endsL a ++ endsL b)).getD 0) (nextL 0 (endsL a ++ endsL b)).isSome := by
  have hN := nextL_is 0 (endsL a ++ endsL b)
  have h0 : ∀ n, n ≤ 0 → hasB a n = false ∧ hasB b n = false := fun n hn => ⟨has_lt ha (by omega), has_lt hb (by omega)⟩
  cases hx : nextL 0 (endsL a ++ endsL b) with
  | none =>
    rw [hx] at hN
    refine ⟨trivial, fun h => (by cases h), fun _ n => ?_⟩
    rcases (by omega : n ≤ 0 ∨ 0 < n) with hn | hn
    · rw [(h0 n hn).1, (h0 n hn).2, hf]; rfl
    · obtain ⟨e1, e2⟩ := between_both (a := a) (b := b) (u := 0) (n := n) (by omega) (fun x hx h => by have := hN x hx; omega)
      rw [e1, e2, (h0 0 (by omega)).1, (h0 0 (by omega)).2, hf]; rfl
  | some t =>
    rw [hx] at hN
    obtain ⟨h1, h2, h3⟩ := hN
    have hb' : 1 ≤ t ∧ t ≤ 1099511627777 := by
      rcases List.mem_append.1 h1 with h | h
      · exact ends_bounds ha h
      · exact ends_bounds hb h
    refine ⟨trivial, fun _ => ⟨h1, hb'.1, hb'.2, by simp, fun n hn => ?_, Nat.zero_le _⟩, fun h => by cases h⟩
    show hasB [] n = _
    rcases (by omega : n ≤ 0 ∨ 0 < n) with hn0 | hn0
    · rw [(h0 n hn0).1, (h0 n hn0).2, hf]; rfl
    · obtain ⟨e1, e2⟩ := between_both (a := a) (b := b) (u := 0) (n := n) (by omega) (fun x hx h => by have := h3 x hx h; have hn : n < t := hn; omega)
      rw [e1, e2, (h0 0 (by omega)).1, (h0 0 (by omega)).2, hf]; rfl
section
variable {f : Bool → Bool → Bool} {a b out : List (Int × Int)} {t : Int}
theorem ByInv.last (hf : f false false = false) (ha : RightF 1 a) (hb : RightF 1 b) (h : ByInv f a b out t true) (hN : nextL t (endsL a ++ endsL b) = none) : f (hasB a t) (hasB b t) = false ∧ ∀ u, ByInv f a b out u false := by
  have hN' := nextL_is t (endsL a ++ endsL b)
  rw [hN] at hN'
  obtain ⟨h1, h2, h3, h4, h5, h6⟩ := h.on rfl
  have hbt : ∀ n, t ≤ n → hasB a n = hasB a t ∧ hasB b n = hasB b t := fun n hn => between_both hn (fun x hx h => by have := hN' x hx; omega)
  have hz : f (hasB a t) (hasB b t) = false := by
    obtain ⟨e1, e2⟩ := hbt 1099511627778 (by omega)
    rw [← e1, ← e2, has_gt ha (by omega), has_gt hb (by omega), hf]
  refine ⟨hz, fun u => ⟨h.right, fun h => (by cases h), fun _ n => ?_⟩⟩
  rcases (by omega : n < t ∨ t ≤ n) with hn | hn
  · exact h5 n hn
  · obtain ⟨e1, e2⟩ := hbt n hn
    rw [e1, e2, hz]
    exact has_false.2 fun r hr => by have := h4 r hr; omega
theorem ByInv.next {u : Int} (ha : RightF 1 a) (hb : RightF 1 b) (h : ByInv f a b out t true) (hN : nextL t (endsL a ++ endsL b) = some u) :
    t < u ∧ 1 ≤ t ∧ u ≤ 1099511627777 ∧ (f (hasB a t) (hasB b t) = false → ByInv f a b out u true) ∧
    (f (hasB a t) (hasB b t) = true → (∀ r ∈ out, r.2 + 2 ≤ t) → ByInv f a b (out ++ [(t, u - 1)]) u true) ∧
    (f (hasB a t) (hasB b t) = true → ∀ d s, out = d ++ [(s, t - 1)] → ByInv f a b (d ++ [(s, u - 1)]) u true) := by
  have hN' := nextL_is t (endsL a ++ endsL b)
  rw [hN] at hN'
  obtain ⟨g1, g2, g3⟩ := hN'
  obtain ⟨h1, h2, h3, h4, h5, h6⟩ := h.on rfl
  have hbt : ∀ n, t ≤ n → n < u → hasB a n = hasB a t ∧ hasB b n = hasB b t := fun n hn hnu => between_both hn (fun x hx h => by have := g3 x hx h; omega)
  have hub : 1 ≤ u ∧ u ≤ 1099511627777 := by
    rcases List.mem_append.1 g1 with h | h
    · exact ends_bounds ha h
    · exact ends_bounds hb h
  have hcnt := cnt_step h1 g2
  have hno : ∀ n, t ≤ n → hasB out n = false := fun n hn => has_false.2 fun r hr => by have := h4 r hr; omega
  refine ⟨g2, h2, hub.2, fun hin => ?_, fun hin hgap => ?_, fun hin d s hd => ?_⟩
  · refine ⟨h.right, fun _ => ⟨g1, hub.1, hub.2, fun r hr => by have := h4 r hr; omega, fun n hn => ?_, by omega⟩, fun h => by cases h⟩
    rcases (by omega : n < t ∨ t ≤ n) with hn' | hn'
    · exact h5 n hn'
    · obtain ⟨e1, e2⟩ := hbt n hn' hn
      rw [e1, e2, hin, hno n hn']
  · refine ⟨h.right.snoc hgap h2 (by show t ≤ u - 1; omega) (by show u - 1 ≤ _; omega), fun _ => ⟨g1, hub.1, hub.2, fun r hr => ?_, fun n hn => ?_, by rw [List.length_append, List.length_singleton]; omega⟩, fun h => by cases h⟩
    · rcases List.mem_append.1 hr with hr | hr
      · have := h4 r hr; omega
      · rw [List.mem_singleton.1 hr]; show u - 1 < u; omega
    · rw [has_append, has_cons, has_nil, Bool.or_false]
      rcases (by omega : n < t ∨ t ≤ n) with hn' | hn'
      · have e : decide (t ≤ n ∧ n ≤ u - 1) = false := by simp; omega
        rw [e, Bool.or_false]
        exact h5 n hn'
      · obtain ⟨e1, e2⟩ := hbt n hn' hn
        have e : decide (t ≤ n ∧ n ≤ u - 1) = true := by simp; omega
        rw [e1, e2, hin, e, Bool.or_true]
  · subst hd
    obtain ⟨k1, k2, k3, k4, k5⟩ := h.right.of_snoc
    dsimp only at k2 k3 k4 k5
    refine ⟨k1.snoc k2 k3 (by show s ≤ u - 1; omega) (by show u - 1 ≤ _; omega), fun _ => ⟨g1, hub.1, hub.2, fun r hr => ?_, fun n hn => ?_, by rw [List.length_append, List.length_singleton] at h6 ⊢; omega⟩, fun h => by cases h⟩
    · rcases List.mem_append.1 hr with hr | hr
      · have := h4 r (List.mem_append_left _ hr); omega
      · rw [List.mem_singleton.1 hr]; show u - 1 < u; omega
    · rw [has_append, has_cons, has_nil, Bool.or_false]
      rcases (by omega : n < t ∨ t ≤ n) with hn' | hn'
      · have e5 := h5 n hn'
        rw [has_append, has_cons, has_nil, Bool.or_false] at e5
        have e : decide (s ≤ n ∧ n ≤ u - 1) = decide (s ≤ n ∧ n ≤ t - 1) := by
          congr 1
          exact propext ⟨fun h => ⟨h.1, by omega⟩, fun h => ⟨h.1, by omega⟩⟩
        rw [e]
        exact e5
      · obtain ⟨e1, e2⟩ := hbt n hn' hn
        have e : decide (s ≤ n ∧ n ≤ u - 1) = true := by simp; omega
        rw [e1, e2, hin, e, Bool.or_true]
end
/-- the set of numbers, as far as the document's way is -/
structure OfInv (ns : List Int) (out : List (Int × Int)) (t : Int) (ok : Bool) : Prop where
  right : RightF 1 out
  on : ok = true → t ∈ ns ∧ (∀ r ∈ out, r.2 < t) ∧ (∀ n, hasB out n = true ↔ (n ∈ ns ∧ n < t)) ∧ out.length ≤ ns.countP (fun x => decide (x < t))
  off : ok = false → ∀ n, hasB out n = true ↔ n ∈ ns
theorem OfInv.zero {ns : List Int} (hb : ∀ x ∈ ns, 1 ≤ x ∧ x ≤ 1099511627776) : OfInv ns [] ((nextL 0 ns).getD 0) (nextL 0 ns).isSome := by
  have hN := nextL_is 0 ns
  cases hx : nextL 0 ns with
  | none =>
    rw [hx] at hN
    refine ⟨trivial, fun h => (by cases h), fun _ n => ⟨fun h => (by cases h), fun h => ?_⟩⟩
    have := hN n h; have := hb n h; omega
  | some t =>
    rw [hx] at hN
    obtain ⟨h1, h2, h3⟩ := hN
    refine ⟨trivial, fun _ => ⟨h1, by simp, fun n => ⟨fun h => (by cases h), fun h => ?_⟩, Nat.zero_le _⟩, fun h => by cases h⟩
    have h' : n < t := h.2
    have := h3 n h.1 (by have := hb n h.1; omega)
    omega
section
variable {ns : List Int} {out : List (Int × Int)} {t : Int}
/-- one number more -/
theorem OfInv.one (_hb : ∀ x ∈ ns, 1 ≤ x ∧ x ≤ 1099511627776) (h : OfInv ns out t true) (out' : List (Int × Int)) (hr : RightF 1 out') (he : ∀ r ∈ out', r.2 ≤ t) (hh : ∀ n, hasB out' n = (hasB out n || decide (n = t))) (hl : out'.length ≤ out.length + 1) :
    OfInv ns out' ((nextL t ns).getD 0) (nextL t ns).isSome := by
  have hN := nextL_is t ns
  obtain ⟨h1, h2, h3, h4⟩ := h.on rfl
  have key : ∀ n, hasB out' n = true ↔ (n ∈ ns ∧ n ≤ t) := fun n => by
    rw [hh, Bool.or_eq_true, h3 n, decide_eq_true_eq]
    constructor
    · rintro (h | rfl)
      · exact ⟨h.1, by omega⟩
      · exact ⟨h1, Int.le_refl _⟩
    · rintro ⟨ha, hb⟩
      rcases (by omega : n < t ∨ n = t) with h | h
      · exact .inl ⟨ha, h⟩
      · exact .inr h
  cases hx : nextL t ns with
  | none =>
    rw [hx] at hN
    refine ⟨hr, fun h => (by cases h), fun _ n => (key n).trans ⟨fun h => h.1, fun h => ⟨h, hN n h⟩⟩⟩
  | some u =>
    rw [hx] at hN
    obtain ⟨g1, g2, g3⟩ := hN
    have hcnt := cnt_step h1 g2
    refine ⟨hr, fun _ => ⟨g1, fun r hr => ?_, fun n => (key n).trans ⟨fun h => ⟨h.1, ?_⟩, fun h => ⟨h.1, ?_⟩⟩, ?_⟩, fun h => by cases h⟩
    · have := he r hr
      show r.2 < u
      omega
    · show n < u
      omega
    · have h' : n < u := h.2
      rcases (by omega : n ≤ t ∨ t < n) with h2 | h2
      · exact h2
      · have := g3 n h.1 h2; omega
    · show out'.length ≤ ns.countP (fun x => decide (x < u))
      omega
/-- it stands by itself -/
theorem OfInv.push (hb : ∀ x ∈ ns, 1 ≤ x ∧ x ≤ 1099511627776) (h : OfInv ns out t true) (hg : ∀ r ∈ out, r.2 + 2 ≤ t) : OfInv ns (out ++ [(t, t)]) ((nextL t ns).getD 0) (nextL t ns).isSome := by
  obtain ⟨h1, h2, h3, h4⟩ := h.on rfl
  have hbt := hb t h1
  refine h.one hb _ (h.right.snoc hg hbt.1 (Int.le_refl _) hbt.2) (fun r hr => ?_) (fun n => ?_) (by simp)
  · rcases List.mem_append.1 hr with hr | hr
    · have := h2 r hr; omega
    · rw [List.mem_singleton.1 hr]; exact Int.le_refl _
  · rw [has_append, has_cons, has_nil, Bool.or_false]
    congr 2
    exact propext ⟨fun h => by dsimp only at h; omega, fun h => ⟨by dsimp only; omega, by dsimp only; omega⟩⟩
/-- it is the next one behind the last run -/
theorem OfInv.grow {d : List (Int × Int)} {s : Int} (hb : ∀ x ∈ ns, 1 ≤ x ∧ x ≤ 1099511627776) (h : OfInv ns (d ++ [(s, t - 1)]) t true) : OfInv ns (d ++ [(s, t)]) ((nextL t ns).getD 0) (nextL t ns).isSome := by
  obtain ⟨h1, h2, h3, h4⟩ := h.on rfl
  have hbt := hb t h1
  obtain ⟨k1, k2, k3, k4, k5⟩ := h.right.of_snoc
  dsimp only at k2 k3 k4 k5
  refine h.one hb _ (k1.snoc k2 k3 (by show s ≤ t; omega) hbt.2) (fun r hr => ?_) (fun n => ?_) (by simp)
  · rcases List.mem_append.1 hr with hr | hr
    · have := h2 r (List.mem_append_left _ hr); omega
    · rw [List.mem_singleton.1 hr]; exact Int.le_refl _
  · rw [has_append, has_append, has_cons, has_cons, has_nil, Bool.or_false, Bool.or_false, Bool.or_assoc]
    congr 1
    rw [← Bool.decide_or]
    congr 1
    exact propext ⟨fun h => by dsimp only at h ⊢; omega, fun h => by dsimp only at h ⊢; omega⟩
end
end Sp
end Go.Proofs.Ytfkkjgebemnhnaa
