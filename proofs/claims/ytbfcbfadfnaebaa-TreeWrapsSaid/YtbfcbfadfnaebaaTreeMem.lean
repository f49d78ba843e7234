/- Trees in memory: what a tree's two slices read as; whatever is written elsewhere. -/
import Derived.Test.YtbfcbfadfnaebaaTreeBits
import Derived.Test.YtbfcbfadfnaebaaRows4
namespace Go.Proofs.Ytbfcbfadfnaebaa
open Go.ChangeShapes Go.WideShapes Go.ChangeAt Go.RowKit
namespace Tr
open Rw
/-- an entry's cells -/
def entC (e : E) : List Value := [.int .i64 e.a, .int .i64 e.n, .string e.s, .int .i64 e.v]
theorem entC_len (e : E) : (entC e).length = 4 := rfl
theorem entC_one (e : E) : ∀ u ∈ entC e, u.oneCell' = true := by
  intro u hu
  simp [entC] at hu
  rcases hu with rfl | rfl | rfl | rfl <;> rfl
def entsC (l : List E) : List Value := l.flatMap entC
theorem at_lt {ks : List (ByteArray × T)} {i : Nat} (h : i < ks.length) (es : List E) : SizeOf.sizeOf (ks[i]).2 < SizeOf.sizeOf (T.mk es ks) := kid_lt (List.getElem_mem h)
/-- the two slices read as the tree, all below block B -/
def RdT (w : World) (B : Nat) : T → SV → SV → Prop
  | .mk es ks, se, sk => es.length = se.n ∧ Rd w B 4 se.A se.n se.c (entsC es) ∧ ks.length = sk.n ∧ ∃ xs : List Value, Rd w B 3 sk.A sk.n sk.c xs ∧
      ∀ (i : Nat) (h : i < ks.length), ∃ se' sk' : SV, xs[i * 3]? = some (.string (ks[i]).1) ∧ xs[i * 3 + 1]? = some (.slice se'.A se'.n se'.c) ∧ xs[i * 3 + 2]? = some (.slice sk'.A sk'.n sk'.c) ∧ RdT w B (ks[i]).2 se' sk'
termination_by t => SizeOf.sizeOf t
decreasing_by exact at_lt h es
theorem rdT_mk (w : World) (B : Nat) (es : List E) (ks : List (ByteArray × T)) (se sk : SV) : RdT w B (.mk es ks) se sk ↔ (es.length = se.n ∧ Rd w B 4 se.A se.n se.c (entsC es) ∧ ks.length = sk.n ∧ ∃ xs : List Value, Rd w B 3 sk.A sk.n sk.c xs ∧
      ∀ (i : Nat) (h : i < ks.length), ∃ se' sk' : SV, xs[i * 3]? = some (.string (ks[i]).1) ∧ xs[i * 3 + 1]? = some (.slice se'.A se'.n se'.c) ∧ xs[i * 3 + 2]? = some (.slice sk'.A sk'.n sk'.c) ∧ RdT w B (ks[i]).2 se' sk') := by
  rw [RdT]
theorem RdT.keep {w w' : World} {B : Nat} (hk : ∀ p : Addr, p.block < B → w'.cell? p = w.cell? p) : ∀ (t : T) {se sk : SV}, RdT w B t se sk → RdT w' B t se sk := by
  intro t
  induction t using T.ind with
  | h es ks ih =>
    intro se sk h
    rw [rdT_mk] at h ⊢
    obtain ⟨h1, h2, h3, xs, h4, h5⟩ := h
    refine ⟨h1, h2.keep hk, h3, xs, h4.keep hk, fun i hi => ?_⟩
    obtain ⟨se', sk', e1, e2, e3, e4⟩ := h5 i hi
    exact ⟨se', sk', e1, e2, e3, ih _ (List.getElem_mem hi) e4⟩
theorem RdT.more {w : World} {B B' : Nat} (hB : B ≤ B') : ∀ (t : T) {se sk : SV}, RdT w B t se sk → RdT w B' t se sk := by
  intro t
  induction t using T.ind with
  | h es ks ih =>
    intro se sk h
    rw [rdT_mk] at h ⊢
    obtain ⟨h1, h2, h3, xs, h4, h5⟩ := h
    refine ⟨h1, h2.more hB, h3, xs, h4.more hB, fun i hi => ?_⟩
    obtain ⟨se', sk', e1, e2, e3, e4⟩ := h5 i hi
    exact ⟨se', sk', e1, e2, e3, ih _ (List.getElem_mem hi) e4⟩
theorem RdT.below {w w' : World} {B : Nat} {t : T} {se sk : SV} (h : RdT w B t se sk) (hb : Below B w w') : RdT w' B t se sk := RdT.keep (fun _ hp => hb.cell hp) t h
theorem RdT.later {w w' : World} {t : T} {se sk : SV} (h : RdT w w.heap.size t se sk) (hb : Below w.heap.size w w') : RdT w' w'.heap.size t se sk := RdT.more hb.size t (h.below hb)
theorem RdT.none (w : World) (B c c' : Nat) : RdT w B none_ ⟨none, 0, c⟩ ⟨none, 0, c'⟩ := by
  unfold none_
  rw [rdT_mk]
  exact ⟨rfl, Rd.nil _, rfl, [], Rd.nil _, fun i hi => by simp at hi⟩
/-- the cells of an entry, of a kid -/
theorem rd_ent {w : World} {B : Nat} {es : List E} {ks : List (ByteArray × T)} {Ae Ak : Option Addr} {ne nk ce ck : Nat} (h : RdT w B (.mk es ks) ⟨Ae, ne, ce⟩ ⟨Ak, nk, ck⟩) (hn : 0 < ne) :
    ∃ b o, Ae = some ⟨b, o, none⟩ ∧ b < B ∧ ∀ (i : Nat) (hi : i < es.length), w.cell? ⟨b, o + i * 4, none⟩ = some (.int .i64 es[i].a) ∧ w.cell? ⟨b, o + i * 4 + 1, none⟩ = some (.int .i64 es[i].n) ∧ w.cell? ⟨b, o + i * 4 + 2, none⟩ = some (.string es[i].s) ∧ w.cell? ⟨b, o + i * 4 + 3, none⟩ = some (.int .i64 es[i].v) := by
  rw [rdT_mk] at h
  obtain ⟨b, o, e, hb, hc⟩ := rd_elem entC_len h.2.1 hn
  exact ⟨b, o, e, hb, fun i hi => ⟨hc i hi 0 _ rfl, hc i hi 1 _ rfl, hc i hi 2 _ rfl, hc i hi 3 _ rfl⟩⟩
theorem rd_kid {w : World} {B : Nat} {es : List E} {ks : List (ByteArray × T)} {Ae Ak : Option Addr} {ne nk ce ck : Nat} (h : RdT w B (.mk es ks) ⟨Ae, ne, ce⟩ ⟨Ak, nk, ck⟩) (hn : 0 < nk) :
    ∃ b o, Ak = some ⟨b, o, none⟩ ∧ b < B ∧ ∀ (i : Nat) (hi : i < ks.length), ∃ se' sk' : SV, w.cell? ⟨b, o + i * 3, none⟩ = some (.string (ks[i]).1) ∧ w.cell? ⟨b, o + i * 3 + 1, none⟩ = some (.slice se'.A se'.n se'.c) ∧ w.cell? ⟨b, o + i * 3 + 2, none⟩ = some (.slice sk'.A sk'.n sk'.c) ∧ RdT w B (ks[i]).2 se' sk' := by
  rw [rdT_mk] at h
  obtain ⟨_, _, _, xs, h4, h5⟩ := h
  obtain ⟨b, o, e, hb, hc⟩ := h4.at_ hn
  refine ⟨b, o, e, hb, fun i hi => ?_⟩
  obtain ⟨se', sk', e1, e2, e3, e4⟩ := h5 i hi
  refine ⟨se', sk', hc _ _ e1, ?_, ?_, e4⟩
  · rw [Nat.add_assoc]; exact hc _ _ e2
  · rw [Nat.add_assoc]; exact hc _ _ e3
theorem rd_lens {w : World} {B : Nat} {es : List E} {ks : List (ByteArray × T)} {Ae Ak : Option Addr} {ne nk ce ck : Nat} (h : RdT w B (.mk es ks) ⟨Ae, ne, ce⟩ ⟨Ak, nk, ck⟩) : es.length = ne ∧ ks.length = nk := by
  rw [rdT_mk] at h
  exact ⟨h.1, h.2.2.1⟩
/-- a sum over the first k -/
def ksum (f : ByteArray × T → Nat) (ks : List (ByteArray × T)) (k : Nat) : Nat := ((ks.take k).map f).sum
theorem ksum_zero (f : ByteArray × T → Nat) (ks : List (ByteArray × T)) : ksum f ks 0 = 0 := rfl
theorem ksum_succ (f : ByteArray × T → Nat) {ks : List (ByteArray × T)} {k : Nat} (h : k < ks.length) : ksum f ks (k + 1) = ksum f ks k + f ks[k] := by
  unfold ksum
  rw [List.take_succ_eq_append_getElem h]
  simp only [List.map_append, List.sum_append, List.map_cons, List.map_nil, List.sum_cons, List.sum_nil, Nat.add_zero]
theorem ksum_all (f : ByteArray × T → Nat) {ks : List (ByteArray × T)} {n : Nat} (h : ks.length = n) : ksum f ks n = (ks.map f).sum := by
  unfold ksum
  rw [List.take_of_length_le (by omega)]
theorem ksum_le (f : ByteArray × T → Nat) (ks : List (ByteArray × T)) (k : Nat) : ksum f ks k ≤ (ks.map f).sum := by
  unfold ksum
  conv => rhs; rw [← List.take_append_drop k ks]
  rw [List.map_append, List.sum_append]
  omega
end Tr
end Go.Proofs.Ytbfcbfadfnaebaa
