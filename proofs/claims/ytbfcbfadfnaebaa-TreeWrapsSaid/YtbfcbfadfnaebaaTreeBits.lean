/- Trees of entries below keys, as mathematics: what is right, leaves, what is below a key, what is wrapped. Nothing here speaks of a program. -/
import Derived.Test.YtbfcbfadfnaebaaOrd
import Derived.Test.YtbfcbfadfnaebaaDot0
namespace Go.Proofs.Ytbfcbfadfnaebaa
namespace Tr
/-- an entry: its dot, its text, its number -/
structure E where
  a : Int
  n : Int
  s : ByteArray
  v : Int
/-- a tree: entries, trees below keys -/
inductive T where
  | mk (es : List E) (ks : List (ByteArray × T)) : T
def T.es : T → List E | .mk e _ => e
def T.ks : T → List (ByteArray × T) | .mk _ k => k
def none_ : T := .mk [] []
theorem T.eta (t : T) : T.mk t.es t.ks = t := by cases t; rfl
theorem kid_lt {es : List E} {ks : List (ByteArray × T)} {k : ByteArray × T} (h : k ∈ ks) : SizeOf.sizeOf k.2 < SizeOf.sizeOf (T.mk es ks) := by
  have h1 := List.sizeOf_lt_of_mem h
  cases k
  simp at h1 ⊢
  omega
theorem T.ind {P : T → Prop} (h : ∀ es ks, (∀ k ∈ ks, P k.2) → P (.mk es ks)) : ∀ t, P t
  | .mk es ks => h es ks fun k _hk => T.ind h k.2
termination_by t => SizeOf.sizeOf t
decreasing_by exact kid_lt _hk
/-- a tree's leaves: each an entry at the end of a path -/
def leaves : T → List (List ByteArray × E)
  | .mk es ks => es.map (fun e => ([], e)) ++ ks.attach.flatMap (fun k => (leaves k.1.2).map fun x => (k.1.1 :: x.1, x.2))
termination_by t => SizeOf.sizeOf t
decreasing_by exact kid_lt k.2
theorem attach_flat {α β : Type} (l : List α) (f : α → List β) : l.attach.flatMap (fun k => f k.1) = l.flatMap f := by
  conv => rhs; rw [← List.attach_map_subtype_val l]
  rw [List.flatMap_map]
def below (ks : List (ByteArray × T)) : List (List ByteArray × E) := ks.flatMap fun k => (leaves k.2).map fun x => (k.1 :: x.1, x.2)
theorem leaves_mk (es : List E) (ks : List (ByteArray × T)) : leaves (.mk es ks) = es.map (fun e => ([], e)) ++ below ks := by
  rw [leaves]
  unfold below
  rw [attach_flat ks fun k => (leaves k.2).map fun x => (k.1 :: x.1, x.2)]
/-- how many entries and kids there are, all in all -/
def nodes : T → Nat
  | .mk es ks => es.length + ks.length + (ks.attach.map fun k => nodes k.1.2).sum
termination_by t => SizeOf.sizeOf t
decreasing_by exact kid_lt k.2
theorem nodes_mk (es : List E) (ks : List (ByteArray × T)) : nodes (.mk es ks) = es.length + ks.length + (ks.map fun k => nodes k.2).sum := by
  rw [nodes]
  congr 2
  conv => rhs; rw [← List.attach_map_subtype_val ks]
  rw [List.map_map]
  rfl
/-- at most so many entries and kids anywhere -/
inductive LenT (m : Nat) : T → Prop where
  | mk {es : List E} {ks : List (ByteArray × T)} : es.length ≤ m → ks.length ≤ m → (∀ k ∈ ks, LenT m k.2) → LenT m (.mk es ks)
theorem LenT.es {m : Nat} {es : List E} {ks : List (ByteArray × T)} (h : LenT m (.mk es ks)) : es.length ≤ m := by cases h; assumption
theorem LenT.ks {m : Nat} {es : List E} {ks : List (ByteArray × T)} (h : LenT m (.mk es ks)) : ks.length ≤ m := by cases h; assumption
theorem LenT.kid {m : Nat} {es : List E} {ks : List (ByteArray × T)} (h : LenT m (.mk es ks)) {k : ByteArray × T} (hk : k ∈ ks) : LenT m k.2 := by
  cases h with
  | mk _ _ h3 => exact h3 k hk
theorem le_sum {α : Type} {f : α → Nat} : ∀ {l : List α} {a : α}, a ∈ l → f a ≤ (l.map f).sum
  | b :: l, a, h => by
    rw [List.map_cons, List.sum_cons]
    rcases List.mem_cons.1 h with rfl | h
    · omega
    · have := le_sum (f := f) h
      omega
theorem nodes_es (es : List E) (ks : List (ByteArray × T)) : es.length + ks.length ≤ nodes (.mk es ks) := by rw [nodes_mk]; omega
theorem nodes_kid {es : List E} {ks : List (ByteArray × T)} {k : ByteArray × T} (h : k ∈ ks) : nodes k.2 ≤ nodes (.mk es ks) := by
  have := le_sum (f := fun k : ByteArray × T => nodes k.2) h
  rw [nodes_mk]
  omega
/-- how many leaves there are -/
theorem leaves_len (es : List E) (ks : List (ByteArray × T)) : (leaves (.mk es ks)).length = es.length + (ks.map fun k => (leaves k.2).length).sum := by
  rw [leaves_mk, List.length_append, List.length_map]
  congr 1
  unfold below
  rw [List.length_flatMap]
  simp
theorem sum_mono {α : Type} {f g : α → Nat} : ∀ {l : List α}, (∀ a ∈ l, f a ≤ g a) → (l.map f).sum ≤ (l.map g).sum
  | [], _ => Nat.le_refl _
  | b :: l, h => by
    rw [List.map_cons, List.sum_cons, List.map_cons, List.sum_cons]
    have := h b List.mem_cons_self
    have := sum_mono (f := f) (g := g) fun a ha => h a (List.mem_cons_of_mem _ ha)
    omega
theorem leaves_nodes (t : T) : (leaves t).length ≤ nodes t := by
  induction t using T.ind with
  | h es ks ih =>
    rw [leaves_len, nodes_mk]
    have := sum_mono ih
    omega
/-- which entry is ahead -/
def ltE (x y : E) : Prop := Dt.lessB x.a x.n y.a y.n = true
theorem ltE_iff {x y : E} : ltE x y ↔ (x.a < y.a ∨ (x.a = y.a ∧ x.n < y.n)) := by unfold ltE Dt.lessB; exact decide_eq_true_iff
theorem ltE_tr {x y z : E} (h1 : ltE x y) (h2 : ltE y z) : ltE x z := by rw [ltE_iff] at *; omega
theorem ltE_irr (x : E) : ¬ ltE x x := by rw [ltE_iff]; omega
def RightE (e : E) : Prop := Dt.rightB e.a e.n = true ∧ e.s.size ≤ 30 ∧ -1099511627776 ≤ e.v ∧ e.v ≤ 1099511627776
def KeyOk (k : ByteArray) : Prop := 1 ≤ k.size ∧ k.size ≤ 30
/-- right, and at most so deep -/
def RightT : Nat → T → Prop
  | 0, _ => False
  | d + 1, .mk es ks => (∀ e ∈ es, RightE e) ∧ es.Pairwise ltE ∧ ks.Pairwise (fun x y => ltS x.1 y.1) ∧ ∀ k ∈ ks, KeyOk k.1 ∧ ¬ (k.2.es = [] ∧ k.2.ks = []) ∧ RightT d k.2
theorem RightT.more : ∀ {d : Nat} {t : T}, RightT d t → RightT (d + 1) t
  | _ + 1, .mk _ _, h => ⟨h.1, h.2.1, h.2.2.1, fun k hk => ⟨(h.2.2.2 k hk).1, (h.2.2.2 k hk).2.1, RightT.more (h.2.2.2 k hk).2.2⟩⟩
theorem RightT.none {d : Nat} : RightT (d + 1) none_ := ⟨by simp, by simp, by simp, by simp⟩
/-- a right tree that isn't empty has a leaf -/
theorem leaves_some : ∀ {d : Nat} {t : T}, RightT d t → ¬ (t.es = [] ∧ t.ks = []) → leaves t ≠ []
  | d + 1, .mk es ks, h, hn => by
    rw [leaves_mk]
    cases es with
    | cons e es => simp
    | nil =>
      cases ks with
      | nil => exact absurd ⟨rfl, rfl⟩ hn
      | cons k ks =>
        obtain ⟨_, h1, h2⟩ := h.2.2.2 k List.mem_cons_self
        have := leaves_some h2 h1
        intro h3
        simp [below] at h3
        exact this h3.1
/-- the leaves below a key, as seen from there -/
def under (l : List (List ByteArray × E)) (key : ByteArray) : List (List ByteArray × E) := l.filterMap fun x => match x.1 with
  | [] => none
  | k :: p => if k = key then some (p, x.2) else none
theorem under_append (a b : List (List ByteArray × E)) (key : ByteArray) : under (a ++ b) key = under a key ++ under b key := by simp [under]
theorem under_own (es : List E) (key : ByteArray) : under (es.map fun e => ([], e)) key = [] := by
  induction es with
  | nil => rfl
  | cons e es ih => simp [under]
theorem under_kid (k : ByteArray) (l : List (List ByteArray × E)) (key : ByteArray) : under (l.map fun x => (k :: x.1, x.2)) key = if k = key then l else [] := by
  induction l with
  | nil => simp [under]
  | cons x l ih =>
    have e : under ((x :: l).map fun x => (k :: x.1, x.2)) key = (if k = key then [x] else []) ++ under (l.map fun x => (k :: x.1, x.2)) key := by
      unfold under
      by_cases h : k = key <;> simp [h]
    rw [e, ih]
    by_cases h : k = key <;> simp [h]
/-- what hangs at a key -/
def kidAt : List (ByteArray × T) → ByteArray → T
  | [], _ => none_
  | k :: ks, key => if k.1 = key then k.2 else kidAt ks key
theorem leaves_none : leaves none_ = [] := by unfold none_; rw [leaves_mk]; rfl
theorem kidAt_not {ks : List (ByteArray × T)} {key : ByteArray} (h : ∀ k ∈ ks, k.1 ≠ key) : kidAt ks key = none_ := by
  induction ks with
  | nil => rfl
  | cons k ks ih =>
    unfold kidAt
    rw [if_neg (h k List.mem_cons_self)]
    exact ih fun k hk => h k (List.mem_cons_of_mem _ hk)
theorem under_below : ∀ {ks : List (ByteArray × T)} (key : ByteArray), ks.Pairwise (fun x y => ltS x.1 y.1) → under (below ks) key = leaves (kidAt ks key)
  | [], key, _ => by unfold below kidAt; rw [leaves_none]; rfl
  | k :: ks, key, h => by
    rw [List.pairwise_cons] at h
    have ih := under_below key h.2
    have e : below (k :: ks) = ((leaves k.2).map fun x => (k.1 :: x.1, x.2)) ++ below ks := by unfold below; rw [List.flatMap_cons]
    rw [e, under_append, under_kid, ih]
    by_cases hk : k.1 = key
    · have hn : kidAt ks key = none_ := kidAt_not fun x hx hxk => tot_str.irr key (by have := h.1 x hx; rwa [hk, hxk] at this)
      rw [if_pos hk, hn, leaves_none, List.append_nil]
      unfold kidAt
      rw [if_pos hk]
    · rw [if_neg hk, List.nil_append]
      conv => rhs; unfold kidAt
      rw [if_neg hk]
/-- the leaves below a key are those of the kid -/
theorem under_leaves {d : Nat} {t : T} (h : RightT d t) (key : ByteArray) : under (leaves t) key = leaves (kidAt t.ks key) := by
  cases d with
  | zero => exact h.elim
  | succ d =>
    cases t with
    | mk es ks =>
      rw [leaves_mk, under_append, under_own, List.nil_append, under_below key h.2.2.1]
      rfl
theorem kidAt_mem {ks : List (ByteArray × T)} {key : ByteArray} : (∃ k ∈ ks, k.1 = key ∧ kidAt ks key = k.2) ∨ ((∀ k ∈ ks, k.1 ≠ key) ∧ kidAt ks key = none_) := by
  induction ks with
  | nil => exact .inr ⟨by simp, rfl⟩
  | cons k ks ih =>
    unfold kidAt
    by_cases h : k.1 = key
    · rw [if_pos h]
      exact .inl ⟨k, List.mem_cons_self, h, rfl⟩
    · rw [if_neg h]
      rcases ih with ⟨x, h1, h2, h3⟩ | ⟨h1, h2⟩
      · exact .inl ⟨x, List.mem_cons_of_mem _ h1, h2, h3⟩
      · refine .inr ⟨fun x hx => ?_, h2⟩
        rcases List.mem_cons.1 hx with rfl | hx
        · exact h
        · exact h1 x hx
theorem RightT.kid {d : Nat} {t : T} (h : RightT (d + 1) t) (key : ByteArray) : RightT (d + 1) (kidAt t.ks key) := by
  cases t with
  | mk es ks =>
    rcases kidAt_mem (ks := ks) (key := key) with ⟨k, h1, _, h3⟩ | ⟨_, h2⟩
    · show RightT (d + 1) (kidAt ks key)
      rw [h3]
      exact (h.2.2.2 k h1).2.2.more
    · show RightT (d + 1) (kidAt ks key)
      rw [h2]
      exact RightT.none
/-- below keys, one by one -/
def getT (t : T) : List ByteArray → T
  | [] => t
  | k :: p => getT (kidAt t.ks k) p
/-- a tree of a path alone -/
def wrapT (t : T) : List ByteArray → T
  | [] => t
  | k :: p => .mk [] [(k, wrapT t p)]
theorem leaves_wrap (t : T) : ∀ p : List ByteArray, leaves (wrapT t p) = (leaves t).map fun x => (p ++ x.1, x.2)
  | [] => by unfold wrapT; simp
  | k :: p => by
    unfold wrapT
    rw [leaves_mk]
    unfold below
    rw [List.flatMap_cons, leaves_wrap t p]
    simp
theorem get_wrap (t : T) : ∀ p : List ByteArray, getT (wrapT t p) p = t
  | [] => rfl
  | k :: p => by
    unfold getT wrapT
    show getT (kidAt [(k, wrapT t p)] k) p = t
    unfold kidAt
    rw [if_pos rfl]
    exact get_wrap t p
theorem wrap_some {t : T} (h : ¬ (t.es = [] ∧ t.ks = [])) : ∀ p : List ByteArray, ¬ ((wrapT t p).es = [] ∧ (wrapT t p).ks = [])
  | [] => h
  | k :: p => by unfold wrapT; intro h2; cases h2.2
theorem RightT.wrap {d : Nat} {t : T} (h : RightT d t) (hn : ¬ (t.es = [] ∧ t.ks = [])) : ∀ {p : List ByteArray}, (∀ k ∈ p, KeyOk k) → RightT (d + p.length) (wrapT t p)
  | [], _ => h
  | k :: p, hk => by
    unfold wrapT
    refine ⟨by simp, by simp, by simp, fun x hx => ?_⟩
    rw [List.mem_singleton.1 hx]
    exact ⟨hk k List.mem_cons_self, wrap_some hn p, RightT.wrap h hn fun k hk2 => hk k (List.mem_cons_of_mem _ hk2)⟩
/-- the kids that a test lets through -/
def keepK (f : ByteArray → Bool) (ks : List (ByteArray × T)) : List (ByteArray × T) := ks.filter fun k => f k.1
theorem below_keep (f : ByteArray → Bool) (ks : List (ByteArray × T)) : (below ks).filter (fun x => match x.1 with | [] => false | k :: _ => f k) = below (keepK f ks) := by
  induction ks with
  | nil => rfl
  | cons k ks ih =>
    have e : below (k :: ks) = ((leaves k.2).map fun x => (k.1 :: x.1, x.2)) ++ below ks := by unfold below; rw [List.flatMap_cons]
    rw [e, List.filter_append, ih]
    unfold keepK
    cases hk : f k.1 with
    | true =>
      rw [List.filter_cons, hk, if_pos rfl]
      have e2 : below (k :: ks.filter fun k => f k.1) = ((leaves k.2).map fun x => (k.1 :: x.1, x.2)) ++ below (ks.filter fun k => f k.1) := by unfold below; rw [List.flatMap_cons]
      rw [e2]
      congr 1
      rw [List.filter_eq_self]
      intro x hx
      obtain ⟨y, _, rfl⟩ := List.mem_map.1 hx
      exact hk
    | false =>
      rw [List.filter_cons, hk, if_neg (by simp)]
      have : (((leaves k.2).map fun x => (k.1 :: x.1, x.2)).filter fun x => match x.1 with | [] => false | k :: _ => f k) = [] := by
        rw [List.filter_eq_nil_iff]
        intro x hx
        obtain ⟨y, _, rfl⟩ := List.mem_map.1 hx
        simp [hk]
      rw [this, List.nil_append]
theorem RightT.keep {d : Nat} {es : List E} {ks : List (ByteArray × T)} (h : RightT (d + 1) (.mk es ks)) (f : ByteArray → Bool) : RightT (d + 1) (.mk es (keepK f ks)) :=
  ⟨h.1, h.2.1, h.2.2.1.sublist List.filter_sublist, fun k hk => h.2.2.2 k (List.mem_filter.1 hk).1⟩
/-! ## a rising list, told one by one: each time the least one above the last one -/
/-- above the i-th one's forerunner -/
def Abv {α : Type} (lt : α → α → Prop) (l : List α) (i : Nat) (x : α) : Prop := ∀ (_ : 0 < i) (hi : i - 1 < l.length), lt l[i - 1] x
def LeastOf {α : Type} (lt : α → α → Prop) (m : List α) (above : α → Prop) : Option α → Prop
  | none => ∀ x ∈ m, ¬ above x
  | some b => b ∈ m ∧ above b ∧ ∀ x ∈ m, above x → ¬ lt x b
theorem rise_at {α : Type} {lt : α → α → Prop} {l : List α} (h : l.Pairwise lt) {i j : Nat} (hij : i < j) (hj : j < l.length) : lt (l[i]'(by omega)) l[j] := List.pairwise_iff_getElem.1 h i j (by omega) hj hij
/-- m: the same members as l, perhaps more than once, in whatever order -/
theorem least_at {α : Type} {lt : α → α → Prop} (irr : ∀ a, ¬ lt a a) (tr : ∀ a b c, lt a b → lt b c → lt a c) {l m : List α} (hm : ∀ x, x ∈ m ↔ x ∈ l) (h : l.Pairwise lt) {i : Nat} (hi : i ≤ l.length) {r : Option α} (hr : LeastOf lt m (Abv lt l i) r) : r = l[i]? := by
  have habv : ∀ (j : Nat) (hj : j < l.length), Abv lt l i l[j] ↔ i ≤ j := fun j hj => by
    constructor
    · intro ha
      rcases Nat.lt_or_ge j i with hlt | hge
      · have h1 := ha (by omega) (by omega)
        rcases Nat.lt_or_ge j (i - 1) with h2 | h2
        · exact absurd (tr _ _ _ h1 (rise_at h h2 (by omega))) (irr _)
        · have e : i - 1 = j := by omega
          have h3 : lt l[i - 1] l[i - 1] := by
            have : l[j] = l[i - 1] := by congr 1; omega
            rw [this] at h1
            exact h1
          exact absurd h3 (irr _)
      · exact hge
    · intro hij h0 h1
      exact rise_at h (by omega) hj
  cases r with
  | none =>
    rw [List.getElem?_eq_none]
    rcases Nat.lt_or_ge i l.length with hlt | hge
    · exact absurd ((habv i hlt).2 (Nat.le_refl _)) (hr _ ((hm _).2 (List.getElem_mem hlt)))
    · exact hge
  | some b =>
    obtain ⟨h1, h2, h3⟩ := hr
    obtain ⟨j, hj, rfl⟩ := List.getElem_of_mem ((hm _).1 h1)
    have hij := (habv j hj).1 h2
    rcases Nat.lt_or_ge i j with hlt | hge
    · exact absurd (rise_at h hlt hj) (h3 _ ((hm _).2 (List.getElem_mem (by omega))) ((habv i (by omega)).2 (Nat.le_refl _)))
    · have e : j = i := by omega
      subst e
      rw [List.getElem?_eq_getElem hj]
/-- the entries at the root, and the first keys, of leaves -/
def rootE (l : List (List ByteArray × E)) : List E := l.filterMap fun x => match x.1 with | [] => some x.2 | _ :: _ => none
def heads (l : List (List ByteArray × E)) : List ByteArray := l.filterMap fun x => match x.1 with | [] => none | k :: _ => some k
theorem rootE_below (ks : List (ByteArray × T)) : rootE (below ks) = [] := by
  unfold rootE below
  rw [List.filterMap_eq_nil_iff]
  intro x hx
  obtain ⟨k, _, hx⟩ := List.mem_flatMap.1 hx
  obtain ⟨y, _, rfl⟩ := List.mem_map.1 hx
  rfl
theorem rootE_leaves (es : List E) (ks : List (ByteArray × T)) : rootE (leaves (.mk es ks)) = es := by
  rw [leaves_mk]
  unfold rootE
  rw [List.filterMap_append]
  have h1 := rootE_below ks
  unfold rootE at h1
  rw [h1, List.append_nil, List.filterMap_map]
  exact List.filterMap_some
theorem heads_leaves {d : Nat} {es : List E} {ks : List (ByteArray × T)} (h : RightT (d + 1) (.mk es ks)) (k : ByteArray) : k ∈ heads (leaves (.mk es ks)) ↔ k ∈ ks.map (fun x => x.1) := by
  unfold heads
  rw [List.mem_filterMap]
  constructor
  · rintro ⟨x, hx, he⟩
    rw [leaves_mk] at hx
    rcases List.mem_append.1 hx with hx | hx
    · obtain ⟨e, _, rfl⟩ := List.mem_map.1 hx
      cases he
    · obtain ⟨y, hy, hx⟩ := List.mem_flatMap.1 hx
      obtain ⟨z, _, rfl⟩ := List.mem_map.1 hx
      injection he with he
      subst he
      exact List.mem_map.2 ⟨y, hy, rfl⟩
  · intro hk
    obtain ⟨y, hy, rfl⟩ := List.mem_map.1 hk
    obtain ⟨_, h1, h2⟩ := h.2.2.2 y hy
    have h3 := leaves_some h2 h1
    obtain ⟨z, hz⟩ := List.exists_mem_of_ne_nil _ h3
    refine ⟨(y.1 :: z.1, z.2), ?_, rfl⟩
    rw [leaves_mk]
    exact List.mem_append_right _ (List.mem_flatMap.2 ⟨y, hy, List.mem_map.2 ⟨z, hz, rfl⟩⟩)
end Tr
end Go.Proofs.Ytbfcbfadfnaebaa
