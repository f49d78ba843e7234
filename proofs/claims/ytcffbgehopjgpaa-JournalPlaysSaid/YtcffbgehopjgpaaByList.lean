/- Lists of slices of bytes in memory: as they came in, and in a row of the call's own that grows. -/
import Derived.Test.YtcffbgehopjgpaaByCut
namespace Go.Proofs.Ytcffbgehopjgpaa
open Go.ChangeShapes Go.WideShapes Go.ChangeAt Go.RowKit Go.ChangeMaps
namespace By
/-- The slice value '.slice A n c' holds slices that read as the members of l, all below block B. -/
structure RdL (w : World) (B : Nat) (A : Option Addr) (n c : Nat) (l : List (List UInt8)) : Prop where
  len : l.length = n
  cap : n ≤ c
  at_ : 0 < n → ∃ b o, A = some ⟨b, o, none⟩ ∧ b < B ∧ ∀ k (h : k < l.length), ∃ A' c', w.cell? ⟨b, o + k, none⟩ = some (.slice A' l[k].length c') ∧ Rd w B 1 A' l[k].length c' (u8s l[k])
section
variable {w w' : World} {B B' n c : Nat} {A : Option Addr} {l : List (List UInt8)}
theorem RdL.keep (h : RdL w B A n c l) (hk : ∀ p : Addr, p.block < B → w'.cell? p = w.cell? p) : RdL w' B A n c l :=
  ⟨h.len, h.cap, fun hn => by
    obtain ⟨b, o, e, hb, hc⟩ := h.at_ hn
    refine ⟨b, o, e, hb, fun k hkl => ?_⟩
    obtain ⟨A', c', h1, h2⟩ := hc k hkl
    exact ⟨A', c', (hk ⟨b, o + k, none⟩ hb).trans h1, h2.keep hk⟩⟩
theorem RdL.more (h : RdL w B A n c l) (hB : B ≤ B') : RdL w B' A n c l :=
  ⟨h.len, h.cap, fun hn => by
    obtain ⟨b, o, e, hb, hc⟩ := h.at_ hn
    refine ⟨b, o, e, by omega, fun k hkl => ?_⟩
    obtain ⟨A', c', h1, h2⟩ := hc k hkl
    exact ⟨A', c', h1, h2.more hB⟩⟩
theorem RdL.below (h : RdL w B A n c l) (hb : Below B w w') : RdL w' B A n c l := h.keep fun _ hp => hb.cell hp
theorem RdL.later (h : RdL w w.heap.size A n c l) (hb : Below w.heap.size w w') : RdL w' w'.heap.size A n c l := (h.below hb).more hb.size
theorem RdL.drewN (h : RdL w B A n c l) (k : Nat) : RdL (w.drewN k) B A n c l := h.keep fun _ _ => rfl
end
theorem infoL : (Try.prog.info? 23).map (fun i => (i.zero, i.size, i.bytes)) = some (some (.slice none 0 0), 1, 24) := by kernel_rfl
theorem info_partsL : ∃ i, Try.prog.info? 23 = some i ∧ i.zero = some (.slice none 0 0) ∧ i.size = 1 ∧ i.bytes = 24 := by
  have h := infoL
  cases hi : Try.prog.info? 23 with
  | none => rw [hi] at h; cases h
  | some i =>
    rw [hi] at h
    simp only [Option.map_some, Option.some.injEq, Prod.mk.injEq] at h
    exact ⟨i, rfl, h.1, h.2.1, h.2.2⟩
/-- xs lie in a block from lo on that isn't g -/
structure Rx (w : World) (lo : Nat) (g : Option Nat) (A : Option Addr) (n c : Nat) (xs : List Value) : Prop where
  len : xs.length = n
  cap : n ≤ c
  one : ∀ u ∈ xs, u.oneCell' = true
  at_ : 0 < n → ∃ b o, A = some ⟨b, o, none⟩ ∧ lo ≤ b ∧ b < w.heap.size ∧ some b ≠ g ∧ ∀ j u, xs[j]? = some u → w.cell? ⟨b, o + j, none⟩ = some u
section
variable {w w' : World} {lo n c : Nat} {g g' : Option Nat} {A : Option Addr} {xs : List Value}
theorem Rx.rd (h : Rx w lo g A n c xs) : Rd w w.heap.size 1 A n c xs :=
  ⟨by rw [h.len]; omega, h.cap, h.one, fun hn => by obtain ⟨b, o, e, _, hb, _, hc⟩ := h.at_ hn; exact ⟨b, o, e, hb, hc⟩⟩
theorem Rx.grown (h : Rx w lo g A n c xs) (hg : w.grownBy w' g) (h' : g' = g ∨ ∃ k, g' = some k ∧ w.heap.size ≤ k) : Rx w' lo g' A n c xs :=
  ⟨h.len, h.cap, h.one, fun hn => by
    obtain ⟨b, o, e, h1, hb, h2, hc⟩ := h.at_ hn
    refine ⟨b, o, e, h1, Nat.lt_of_lt_of_le hb hg.size, ?_, fun j u hu => (World.cell?_of_block (hg.block b hb h2)).trans (hc j u hu)⟩
    rcases h' with rfl | ⟨k, rfl, hk⟩
    · exact h2
    · intro e; injection e with e; omega⟩
theorem Rx.later (h : Rx w lo g A n c xs) (hb : Below w.heap.size w w') : Rx w' lo g A n c xs :=
  h.grown ⟨hb.os, hb.tape, hb.output, hb.size, fun k hk _ => hb.block k hk⟩ (.inl rfl)
theorem Rx.of_own {base lo' : Nat} {e : TypeId} (h : Own w base e 1 A n c xs) (hlo : lo' ≤ base) (hg : ∀ k, g = some k → k < base) : Rx w lo' g A n c xs := by
  have hrd := h.rd
  refine ⟨by rw [hrd.len]; omega, hrd.cap, h.one, fun hn => ?_⟩
  obtain ⟨b, o, e, hb, hc⟩ := hrd.at_ hn
  have hbase : base ≤ b := by
    rcases h.row.2 with ⟨_, h0⟩ | ⟨q, _, _, hv, hq, _⟩
    · omega
    · injection hv with hv; rw [e] at hv; injection hv with hv; injection hv with hv; omega
  exact ⟨b, o, e, by omega, hb, fun e2 => by have := hg b e2.symm; omega, hc⟩
end
/-- a row of the call's own that holds slices that read as the members of l -/
def LogL (base : Nat) (w : World) (v : Value) (l : List (List UInt8)) : Prop :=
  ∃ vs, w.ownsRow base 23 1 v l.length vs ∧ vs.length = l.length ∧ ∀ k (h : k < l.length), ∃ A c, vs[k]? = some (.slice A l[k].length c) ∧ Rx w base v.ownBlock A l[k].length c (u8s l[k])
section
variable {w w' : World} {base : Nat} {v : Value} {l : List (List UInt8)}
theorem LogL.nil (base : Nat) (w : World) : LogL base w (.slice none 0 0) [] := ⟨[], World.ownsRow_nil _ _ _ _, rfl, fun k h => absurd h (by simp)⟩
theorem LogL.later (h : LogL base w v l) (hb : Below w.heap.size w w') : LogL base w' v l := by
  obtain ⟨vs, h1, h2, h3⟩ := h
  refine ⟨vs, ownsRow_later h1 hb, h2, fun k hk => ?_⟩
  obtain ⟨A, c, h4, h5⟩ := h3 k hk
  exact ⟨A, c, h4, h5.later hb⟩
theorem LogL.rdL (h : LogL base w v l) : ∃ A c, v = .slice A l.length c ∧ RdL w w.heap.size A l.length c l := by
  obtain ⟨vs, h1, h2, h3⟩ := h
  have hone : ∀ u ∈ vs, u.oneCell' = true := by
    intro u hu
    obtain ⟨k, hk, rfl⟩ := List.getElem_of_mem hu
    obtain ⟨A, c, h4, _⟩ := h3 k (by omega)
    rw [List.getElem?_eq_getElem hk] at h4
    injection h4 with h4
    rw [h4]; rfl
  obtain ⟨A, c, rfl, hr⟩ := Rd.of_own h1 hone
  refine ⟨A, c, rfl, rfl, hr.cap, fun hn => ?_⟩
  obtain ⟨b, o, e, hb, hc⟩ := hr.at_ hn
  refine ⟨b, o, e, hb, fun k hk => ?_⟩
  obtain ⟨A', c', h4, h5⟩ := h3 k hk
  exact ⟨A', c', hc k _ h4, h5.rd⟩
theorem LogL.push (h : LogL base w v l) (hb : Below w.heap.size w w') (hbase : base ≤ w.heap.size) (hl : l.length ≤ 900000) {A : Option Addr} {n c : Nat} {x : List UInt8} (hx : x.length = n) (ho : Own w' w.heap.size 5 1 A n c (u8s x)) :
    ∃ v' w2, (Builtin.append_ #[54, 54] 54 #[v, .slice (some ⟨w'.heap.size, 0, none⟩) 1 1]).run Try.prog (w'.alloc (.cells #[.slice A n c] 23)) = .ok v' w2 ∧
      LogL base w2 v' (l ++ [x]) ∧ Below base w' w2 := by
  obtain ⟨vs, h1, h2, h3⟩ := h
  obtain ⟨i0, hi0, hz0, hz1, hz2⟩ := info_partsL
  have hvlt : ∀ k, v.ownBlock = some k → k < w.heap.size := fun k hk => (ownBlock_lt h1 hk).2
  have h1' := ownsRow_later h1 hb
  have hs := hb.size
  obtain ⟨v', w2, hr, ho2, hg2, hat⟩ := run_app (P := Try.prog) (w'.alloc (.cells #[.slice A n c] 23)) base 54 54 23 i0 _ 1 24 Try.underlying54 hi0 hz0 hz1 hz2 rfl (by omega)
    (h1'.alloc _) (B := w'.heap.size + 1) (A := some ⟨w'.heap.size, 0, none⟩) (m := 1) (c := 1) (news := [.slice A n c])
    ⟨rfl, by omega, by intro u hu; simp only [List.mem_cons, List.not_mem_nil, or_false] at hu; rcases hu with rfl; rfl, fun _ => ⟨_, _, rfl, by omega, fun j u hu => by
      rw [Nat.zero_add, cell_of_row _ _ j _ _ (0, 0) (heap_alloc_new _ _)]
      simpa using hu⟩⟩ (by omega) (by omega) (by simp; omega)
  have hba : Below w'.heap.size w' (w'.alloc (.cells #[.slice A n c] 23)) := (Below.refl _ _).alloc (Nat.le_refl _) _
  have hg' : v'.ownBlock = v.ownBlock ∨ ∃ k, v'.ownBlock = some k ∧ (w'.alloc (.cells #[.slice A n c] 23)).heap.size ≤ k := by
    rcases hat with h | h
    · exact .inl h
    · exact .inr ⟨_, h, Nat.le_refl _⟩
  refine ⟨v', w2, hr, ⟨vs ++ [.slice A n c], ?_, by simp [h2], fun k hk => ?_⟩, ?_⟩
  · rw [List.length_append]; exact ho2
  · rw [List.length_append] at hk
    rcases Nat.lt_or_ge k l.length with hkl | hkl
    · obtain ⟨A', c', h4, h5⟩ := h3 k hkl
      rw [List.getElem_append_left hkl]
      exact ⟨A', c', by rw [List.getElem?_append_left (by omega)]; exact h4, ((h5.later hb).later hba).grown hg2 hg'⟩
    · have hkl2 : k = l.length := by simp at hk; omega
      subst hkl2
      have e : (l ++ [x])[l.length]'(by simp) = x := by simp
      refine ⟨A, c, ?_, ?_⟩
      · rw [e, ← h2, List.getElem?_append_right (Nat.le_refl _), Nat.sub_self, hx]; rfl
      · rw [e, hx]
        exact ((Rx.of_own ho hbase hvlt).later hba).grown hg2 hg'
  · exact ((Below.refl base w').alloc (by omega) _).grown hg2 (by simp; omega) (fun k hk => (ownBlock_lt h1 hk).1)
end
/-- slices of bytes that came in -/
theorem list_of_trod {H : Type} {enc : TypeId × Value → H} {W : World} {A : Option Addr} {len cap fuel : Nat} {x : DataW H × List MemPlace}
    (h : DataW.trod enc Try.prog W 0 (fun _ => true) true fuel 54 (Value.slice A len cap).cells.toList = some x) :
    ∃ l : List (List UInt8), l.length = len ∧ RdL W W.heap.size A len cap l ∧ len ≤ maxLen := by
  obtain ⟨ps, h1, h2, h3⟩ := rd_of_trod (sz := 1) (α := { p : Value // ∃ A c bs, p = .slice A bs.length c ∧ Rd W W.heap.size 1 A bs.length c (u8s bs) }) (fun p => [p.1]) (fun _ => rfl)
    (fun p u hu => by
      simp only [List.mem_cons, List.not_mem_nil, or_false] at hu
      obtain ⟨v, A, c, bs, rfl, _⟩ := p
      subst hu; rfl) (Nat.zero_lt_one) Try.underlying54 (by kernel_rfl)
    (fun n cs y hy => by
      rcases Deep.open_slice Try.underlying23 hy with ⟨rfl, _⟩ | ⟨a, len', cap', m, n', D, Pl, rfl, _⟩
      · exact ⟨⟨.slice none 0 0, none, 0, [], rfl, Rd.nil _⟩, rfl⟩
      · obtain ⟨bs, hl, hr, _⟩ := bytes_of_trod (A := some a) (len := len') (cap := cap') hy
        subst hl
        exact ⟨⟨.slice (some a) bs.length cap', some a, cap', bs, rfl, hr⟩, rfl⟩) h
  have key : ∀ ps : List { p : Value // ∃ A c bs, p = .slice A bs.length c ∧ Rd W W.heap.size 1 A bs.length c (u8s bs) },
      ∃ l : List (List UInt8), l.length = ps.length ∧ ∀ k (hk : k < l.length), ∃ A' c', (ps.flatMap fun p => [p.1])[k]? = some (.slice A' l[k].length c') ∧ Rd W W.heap.size 1 A' l[k].length c' (u8s l[k]) := by
    intro ps
    induction ps with
    | nil => exact ⟨[], rfl, fun k hk => absurd hk (by simp)⟩
    | cons p ps ih =>
      obtain ⟨l, hl, hc⟩ := ih
      obtain ⟨v, A', c', bs, rfl, hr⟩ := p
      refine ⟨bs :: l, by simp [hl], fun k hk => ?_⟩
      cases k with
      | zero => exact ⟨A', c', by simp, hr⟩
      | succ k =>
        obtain ⟨A2, c2, h4, h5⟩ := hc k (by simpa using hk)
        exact ⟨A2, c2, by simpa using h4, by simpa using h5⟩
  obtain ⟨l, hl, hc⟩ := key ps
  refine ⟨l, by omega, ⟨by omega, h2.cap, fun hn => ?_⟩, h3⟩
  obtain ⟨b, o, e, hb, hcell⟩ := h2.at_ hn
  refine ⟨b, o, e, hb, fun k hk => ?_⟩
  obtain ⟨A', c', h4, h5⟩ := hc k hk
  exact ⟨A', c', hcell k _ h4, h5⟩
theorem wf_u16 {n : Int} (h : (Lit.int .u16 n).wf = true) : 0 ≤ n ∧ n ≤ 65535 := by
  have e1 : IntKind.u16.min = 0 := by decide
  have e2 : IntKind.u16.max = 65535 := by decide
  simp [Lit.wf, e1, e2] at h
  exact h
end By
end Go.Proofs.Ytcffbgehopjgpaa
