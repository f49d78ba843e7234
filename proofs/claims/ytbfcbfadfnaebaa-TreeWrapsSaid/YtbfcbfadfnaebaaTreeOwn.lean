/- Trees in memory of a call's own: rows that grow, subtrees that stay; what is written over. -/
import Derived.Test.YtbfcbfadfnaebaaTreeMem
namespace Go.Proofs.Ytbfcbfadfnaebaa
open Go.ChangeShapes Go.WideShapes Go.ChangeAt Go.RowKit
namespace Tr
open Rw Sp
/-- The slice value holds the cells xs, in a block that meets ok and may be written. -/
structure RO (w : World) (ok : Nat → Prop) (sz : Nat) (A : Option Addr) (n c : Nat) (xs : List Value) : Prop where
  len : xs.length = n * sz
  cap : n ≤ c
  one : ∀ u ∈ xs, u.oneCell' = true
  at_ : 0 < n → ∃ b o, A = some ⟨b, o, none⟩ ∧ ok b ∧ b < w.heap.size ∧ (∀ j, w.frozen? ⟨b, j, none⟩ = false) ∧ ∀ j u, xs[j]? = some u → w.cell? ⟨b, o + j, none⟩ = some u
namespace RO
variable {w w' : World} {ok ok' : Nat → Prop} {sz n c : Nat} {A : Option Addr} {xs : List Value}
theorem nil (w : World) (ok : Nat → Prop) (sz : Nat) (A : Option Addr) (c : Nat) : RO w ok sz A 0 c [] := ⟨by simp, Nat.zero_le _, by simp, fun h => absurd h (by omega)⟩
theorem rd (h : RO w ok sz A n c xs) : Rd w w.heap.size sz A n c xs := ⟨h.len, h.cap, h.one, fun hn => by obtain ⟨b, o, e, _, hb, _, hc⟩ := h.at_ hn; exact ⟨b, o, e, hb, hc⟩⟩
theorem mono (h : RO w ok sz A n c xs) (ho : ∀ b, ok b → b < w.heap.size → ok' b) : RO w ok' sz A n c xs :=
  ⟨h.len, h.cap, h.one, fun hn => by obtain ⟨b, o, e, h1, hb, h2, hc⟩ := h.at_ hn; exact ⟨b, o, e, ho b h1 hb, hb, h2, hc⟩⟩
theorem keep (h : RO w ok sz A n c xs) (hs : w.heap.size ≤ w'.heap.size) (hk : ∀ b, ok b → b < w.heap.size → w'.heap[b]? = w.heap[b]?) : RO w' ok sz A n c xs :=
  ⟨h.len, h.cap, h.one, fun hn => by
    obtain ⟨b, o, e, h1, hb, h2, hc⟩ := h.at_ hn
    exact ⟨b, o, e, h1, Nat.lt_of_lt_of_le hb hs, fun j => (World.frozen?_of_block (a := ⟨b, j, none⟩) (hk b h1 hb)).trans (h2 j), fun j u hu => (World.cell?_of_block (a := ⟨b, o + j, none⟩) (hk b h1 hb)).trans (hc j u hu)⟩⟩
theorem of_own {base e : Nat} (h : Own w base e sz A n c xs) : RO w (fun b => base ≤ b ∧ (Value.slice A n c).ownBlock = some b) sz A n c xs :=
  ⟨h.rd.len, h.rd.cap, h.one, fun hn => by
    obtain ⟨g, rfl, h1, h2, h3, h4⟩ := Sp.Own.place h hn
    exact ⟨g, 0, rfl, ⟨h1, by simp [Value.ownBlock]⟩, h2, h3, fun j u hu => by rw [Nat.zero_add]; exact h4 j u hu⟩⟩
end RO
/-- the two slices read as the tree, in blocks that meet ok and may be written -/
def RdO (w : World) (ok : Nat → Prop) : T → SV → SV → Prop
  | .mk es ks, se, sk => es.length = se.n ∧ RO w ok 4 se.A se.n se.c (entsC es) ∧ ks.length = sk.n ∧ ∃ xs : List Value, RO w ok 3 sk.A sk.n sk.c xs ∧
      ∀ (i : Nat) (h : i < ks.length), ∃ se' sk' : SV, xs[i * 3]? = some (.string (ks[i]).1) ∧ xs[i * 3 + 1]? = some (.slice se'.A se'.n se'.c) ∧ xs[i * 3 + 2]? = some (.slice sk'.A sk'.n sk'.c) ∧ RdO w ok (ks[i]).2 se' sk'
termination_by t => SizeOf.sizeOf t
decreasing_by exact at_lt h es
theorem rdO_mk (w : World) (ok : Nat → Prop) (es : List E) (ks : List (ByteArray × T)) (se sk : SV) : RdO w ok (.mk es ks) se sk ↔ (es.length = se.n ∧ RO w ok 4 se.A se.n se.c (entsC es) ∧ ks.length = sk.n ∧ ∃ xs : List Value, RO w ok 3 sk.A sk.n sk.c xs ∧
      ∀ (i : Nat) (h : i < ks.length), ∃ se' sk' : SV, xs[i * 3]? = some (.string (ks[i]).1) ∧ xs[i * 3 + 1]? = some (.slice se'.A se'.n se'.c) ∧ xs[i * 3 + 2]? = some (.slice sk'.A sk'.n sk'.c) ∧ RdO w ok (ks[i]).2 se' sk') := by
  rw [RdO]
theorem RdO.rd {w : World} {ok : Nat → Prop} : ∀ (t : T) {se sk : SV}, RdO w ok t se sk → RdT w w.heap.size t se sk := by
  intro t
  induction t using T.ind with
  | h es ks ih =>
    intro se sk h
    rw [rdO_mk] at h
    rw [rdT_mk]
    obtain ⟨h1, h2, h3, xs, h4, h5⟩ := h
    refine ⟨h1, h2.rd, h3, xs, h4.rd, fun i hi => ?_⟩
    obtain ⟨se', sk', e1, e2, e3, e4⟩ := h5 i hi
    exact ⟨se', sk', e1, e2, e3, ih _ (List.getElem_mem hi) e4⟩
theorem RdO.mono {w : World} {ok ok' : Nat → Prop} (ho : ∀ b, ok b → b < w.heap.size → ok' b) : ∀ (t : T) {se sk : SV}, RdO w ok t se sk → RdO w ok' t se sk := by
  intro t
  induction t using T.ind with
  | h es ks ih =>
    intro se sk h
    rw [rdO_mk] at h ⊢
    obtain ⟨h1, h2, h3, xs, h4, h5⟩ := h
    refine ⟨h1, h2.mono ho, h3, xs, h4.mono ho, fun i hi => ?_⟩
    obtain ⟨se', sk', e1, e2, e3, e4⟩ := h5 i hi
    exact ⟨se', sk', e1, e2, e3, ih _ (List.getElem_mem hi) e4⟩
theorem RdO.keep {w w' : World} {ok : Nat → Prop} (hs : w.heap.size ≤ w'.heap.size) (hk : ∀ b, ok b → b < w.heap.size → w'.heap[b]? = w.heap[b]?) : ∀ (t : T) {se sk : SV}, RdO w ok t se sk → RdO w' ok t se sk := by
  intro t
  induction t using T.ind with
  | h es ks ih =>
    intro se sk h
    rw [rdO_mk] at h ⊢
    obtain ⟨h1, h2, h3, xs, h4, h5⟩ := h
    refine ⟨h1, h2.keep hs hk, h3, xs, h4.keep hs hk, fun i hi => ?_⟩
    obtain ⟨se', sk', e1, e2, e3, e4⟩ := h5 i hi
    exact ⟨se', sk', e1, e2, e3, ih _ (List.getElem_mem hi) e4⟩
theorem RdO.later {w w' : World} {ok : Nat → Prop} {t : T} {se sk : SV} (h : RdO w ok t se sk) (hb : Below w.heap.size w w') : RdO w' ok t se sk := RdO.keep hb.size (fun b _ hlt => hb.block b hlt) t h
theorem RdO.none (w : World) (ok : Nat → Prop) (A A' : Option Addr) (c c' : Nat) : RdO w ok none_ ⟨A, 0, c⟩ ⟨A', 0, c'⟩ := by
  unfold none_
  rw [rdO_mk]
  exact ⟨rfl, RO.nil _ _ _ _ _, rfl, [], RO.nil _ _ _ _ _, fun i hi => by simp at hi⟩
/-- a kid's cells -/
def kidC (k : ByteArray × SV × SV) : List Value := [.string k.1, .slice k.2.1.A k.2.1.n k.2.1.c, .slice k.2.2.A k.2.2.n k.2.2.c]
theorem kidC_len (k : ByteArray × SV × SV) : (kidC k).length = 3 := rfl
theorem kidC_one (k : ByteArray × SV × SV) : ∀ u ∈ kidC k, u.oneCell' = true := by
  intro u hu
  simp [kidC] at hu
  rcases hu with rfl | rfl | rfl <;> rfl
/-- a row of the call's own, of type e, that holds these kids, each in blocks of the call's own, none of them the row's -/
structure KidRow (w : World) (base e : Nat) (A : Option Addr) (n c : Nat) (ks : List (ByteArray × T)) (kr : List (ByteArray × SV × SV)) : Prop where
  len : ks.length = n
  lenr : kr.length = n
  own : Own w base e 3 A n c (kr.flatMap kidC)
  kid : ∀ (i : Nat) (h : i < ks.length) (h' : i < kr.length), kr[i].1 = ks[i].1 ∧ RdO w (fun b => base ≤ b ∧ (Value.slice A n c).ownBlock ≠ some b) ks[i].2 kr[i].2.1 kr[i].2.2
namespace KidRow
variable {w w' : World} {base e n c : Nat} {A : Option Addr} {ks : List (ByteArray × T)} {kr : List (ByteArray × SV × SV)}
theorem nil (w : World) (base e : Nat) : KidRow w base e none 0 0 [] [] := ⟨rfl, rfl, ⟨World.ownsRow_nil _ _ _ _, by simp⟩, fun i h => by simp at h⟩
theorem later (h : KidRow w base e A n c ks kr) (hb : Below w.heap.size w w') : KidRow w' base e A n c ks kr :=
  ⟨h.len, h.lenr, own_later h.own hb, fun i hi hi' => ⟨(h.kid i hi hi').1, (h.kid i hi hi').2.later hb⟩⟩
/-- read as a tree's kids -/
theorem tree (h : KidRow w base e A n c ks kr) {ok : Nat → Prop} (hok : ∀ b, base ≤ b → b < w.heap.size → ok b) {es : List E} {se : SV} (hes : es.length = se.n) (hse : RO w ok 4 se.A se.n se.c (entsC es)) : RdO w ok (.mk es ks) se ⟨A, n, c⟩ := by
  rw [rdO_mk]
  refine ⟨hes, hse, h.len, kr.flatMap kidC, (RO.of_own h.own).mono fun b hb hlt => hok b hb.1 hlt, fun i hi => ?_⟩
  have hi' : i < kr.length := by have h1 := h.len; have h2 := h.lenr; omega
  obtain ⟨e1, e2⟩ := h.kid i hi hi'
  have f0 := flat_at kidC_len kr i 0 hi' (by omega)
  have f1 := flat_at kidC_len kr i 1 hi' (by omega)
  have f2 := flat_at kidC_len kr i 2 hi' (by omega)
  refine ⟨kr[i].2.1, kr[i].2.2, ?_, f1, f2, RdO.mono (fun b hb hlt => hok b hb.1 hlt) _ e2⟩
  rw [← e1]
  exact f0
/-- one kid is appended, of memory laid since -/
theorem push {t by_ : Nat} {z : Value} (ht : Try.prog.underlying t = some (.slice e)) (hi : (Try.prog.info? e).map (fun i => (i.zero, i.size, i.bytes)) = some (some z, 3, by_)) (hzs : z.cells.size = 3) (hby : by_ ≤ 1000000)
    (h : KidRow w base e A n c ks kr) (p : Nat) (hp : w.heap.size = p) (hb : base ≤ w.heap.size) {k : ByteArray × SV × SV} {u : T} (hu : RdO w (fun b => base ≤ b ∧ (Value.slice A n c).ownBlock ≠ some b) u k.2.1 k.2.2) (hn : n ≤ 900000) (cs : Array Value) (hcs : cs = (kidC k).toArray) :
    ∃ A' c' w', (Builtin.append_ #[t, t] t #[.slice A n c, .slice (some ⟨p, 0, none⟩) 1 1]).run Try.prog (w.alloc (.cells cs e)) = .ok (.slice A' (n + 1) c') w' ∧
      KidRow w' base e A' (n + 1) c' (ks ++ [(k.1, u)]) (kr ++ [k]) ∧ Below base w w' ∧ ∀ b, (Value.slice A n c).ownBlock ≠ some b → b < w.heap.size → w'.heap[b]? = w.heap[b]? := by
  subst hp
  subst hcs
  obtain ⟨i0, hi0, hz0, hz1, hz2⟩ := info_of hi
  have hown := h.own.row
  obtain ⟨v', w', r1, r2, r3, r4⟩ := run_app (P := Try.prog) (w.alloc (.cells (kidC k).toArray e)) base t t e i0 z 3 by_ ht hi0 hz0 hz1 hz2 hzs (by omega)
    (hown.alloc _) (B := w.heap.size + 1) (A := some ⟨w.heap.size, 0, none⟩) (m := 1) (c := 1) (news := kidC k)
    ⟨rfl, by omega, kidC_one k, fun _ => ⟨_, _, rfl, by omega, fun j u hu => by
      rw [Nat.zero_add, cell_of_row _ _ j _ _ (0, 0) (heap_alloc_new _ _)]
      simpa using hu⟩⟩ (by omega) hby (by simp; omega)
  obtain ⟨A', c', rfl, ho⟩ := Own.of_row r2 (fun u hu => by
    rcases List.mem_append.1 hu with hu | hu
    · exact h.own.one u hu
    · exact kidC_one k u hu)
  have hbel : Below base w w' := ((Below.refl base w).alloc hb _).grown r3 (by simp; omega) (fun k hk => (hown.lt k hk).1)
  have hsize : w.heap.size ≤ w'.heap.size := by have := r3.size; simp at this; omega
  have hnew : ∀ b, (base ≤ b ∧ (Value.slice A n c).ownBlock ≠ some b) → b < w.heap.size → base ≤ b ∧ (Value.slice A' (n + 1) c').ownBlock ≠ some b := fun b hb hlt => ⟨hb.1, fun he => by
    rcases r4 with r4 | r4
    · exact hb.2 (r4.symm.trans he)
    · have : some b = some (w.alloc (.cells (kidC k).toArray e)).heap.size := he.symm.trans r4
      injection this with this
      simp at this
      omega⟩
  have hto : ∀ {t : T} {se sk : SV}, RdO w (fun b => base ≤ b ∧ (Value.slice A n c).ownBlock ≠ some b) t se sk → RdO w' (fun b => base ≤ b ∧ (Value.slice A' (n + 1) c').ownBlock ≠ some b) t se sk := fun {t se sk} ht =>
    RdO.keep hsize (fun b hb hlt => (r3.block b (by simp; omega) (fun e => hb.2.2 e.symm)).trans (heap_alloc_old w _ hlt)) t (RdO.mono (ok' := fun b => (base ≤ b ∧ (Value.slice A' (n + 1) c').ownBlock ≠ some b) ∧ (base ≤ b ∧ (Value.slice A n c).ownBlock ≠ some b)) (fun b hb hlt => ⟨hnew b hb hlt, hb⟩) t ht) |> RdO.mono (fun b hb _ => hb.1) t
  refine ⟨A', c', w', r1, ⟨by simp [h.len], by simp [h.lenr], ?_, fun i hi hi' => ?_⟩, hbel, fun b hb hlt => (r3.block b (by simp; omega) (fun e => hb e.symm)).trans (heap_alloc_old w _ hlt)⟩
  · have e1 : (kr ++ [k]).flatMap kidC = kr.flatMap kidC ++ kidC k := by simp
    rw [e1]
    exact ho
  · by_cases hlt : i < n
    · have h1 : i < ks.length := by rw [h.len]; exact hlt
      have h2 : i < kr.length := by rw [h.lenr]; exact hlt
      rw [List.getElem_append_left h1, List.getElem_append_left h2]
      exact ⟨(h.kid i h1 h2).1, hto (h.kid i h1 h2).2⟩
    · have e0 : i = n := by simp [h.len] at hi; omega
      have e1 : (ks ++ [(k.1, u)])[i] = (k.1, u) := by rw [List.getElem_append_right (by rw [h.len]; omega)]; simp
      have e2 : (kr ++ [k])[i] = k := by rw [List.getElem_append_right (by rw [h.lenr]; omega)]; simp
      rw [e1, e2]
      exact ⟨rfl, hto hu⟩
end KidRow
end Tr
end Go.Proofs.Ytbfcbfadfnaebaa
