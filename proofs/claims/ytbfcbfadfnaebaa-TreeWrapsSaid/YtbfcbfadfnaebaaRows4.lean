/- An array of four slices in memory, each a row of the call's own that grows beside the others. -/
import Derived.Test.YtbfcbfadfnaebaaElems
namespace Go.Proofs.Ytbfcbfadfnaebaa
open Go.ChangeShapes Go.WideShapes Go.ChangeAt Go.RowKit
namespace Rw
open Sp
/-- a slice value's parts -/
structure SV where
  A : Option Addr
  n : Nat
  c : Nat
def SV.val (s : SV) : Value := .slice s.A s.n s.c
def sv0 : SV := ⟨none, 0, 0⟩
def upd {α : Type} (f : Nat → α) (d : Nat) (x : α) (i : Nat) : α := if i = d then x else f i
theorem upd_same {α : Type} (f : Nat → α) (d : Nat) (x : α) : upd f d x d = x := by simp [upd]
theorem upd_other {α : Type} (f : Nat → α) {d i : Nat} (x : α) (h : i ≠ d) : upd f d x i = f i := by simp [upd, h]
/-- the four slices at block g read as q tells; each its own row -/
structure Rows4 (W : World) (base e sz g : Nat) (s : Nat → SV) (q : Nat → List Value) : Prop where
  low : g < base
  high : base ≤ W.heap.size
  free : Free g W
  cell : ∀ d, d < 4 → W.cell? ⟨g, d, none⟩ = some (.slice (s d).A (s d).n (s d).c)
  own : ∀ d, d < 4 → Own W base e sz (s d).A (s d).n (s d).c (q d)
  apart : ∀ d d', d < 4 → d' < 4 → d ≠ d' → ∀ b, (s d).val.ownBlock = some b → (s d').val.ownBlock ≠ some b
namespace Rows4
variable {W : World} {base e sz g : Nat} {s : Nat → SV} {q : Nat → List Value}
theorem later {W' : World} (h : Rows4 W base e sz g s q) (hb : Below W.heap.size W W') : Rows4 W' base e sz g s q :=
  ⟨h.low, Nat.le_trans h.high hb.size, h.free.later hb, fun d hd => (hb.cell (p := ⟨g, d, none⟩) h.free.1).trans (h.cell d hd), fun d hd => own_later (h.own d hd) hb, h.apart⟩
theorem nil {W : World} {base e sz g : Nat} (low : g < base) (high : base ≤ W.heap.size) (free : Free g W) (c : ∀ d, d < 4 → W.cell? ⟨g, d, none⟩ = some (.slice none 0 0)) : Rows4 W base e sz g (fun _ => sv0) (fun _ => []) :=
  ⟨low, high, free, c, fun _ _ => ⟨World.ownsRow_nil _ _ _ _, by simp⟩, fun _ _ _ _ _ b h => by simp [sv0, SV.val, Value.ownBlock] at h⟩
theorem lt (h : Rows4 W base e sz g s q) {d b : Nat} (hd : d < 4) (hb : (s d).val.ownBlock = some b) : base ≤ b ∧ b < W.heap.size := (h.own d hd).row.lt b hb
theorem rd (h : Rows4 W base e sz g s q) {d : Nat} (hd : d < 4) : Rd W W.heap.size sz (s d).A (s d).n (s d).c (q d) := (h.own d hd).rd
/-- one element is appended to the d-th -/
theorem push {t by_ : Nat} {z : Value} (ht : Try.prog.underlying t = some (.slice e)) (hi : (Try.prog.info? e).map (fun i => (i.zero, i.size, i.bytes)) = some (some z, sz, by_)) (hzs : z.cells.size = sz) (hsz : 0 < sz) (hby : by_ ≤ 1000000)
    (h : Rows4 W base e sz g s q) {d : Nat} (hd : d < 4) (p : Nat) (hp : W.heap.size = p) (news : List Value) (hm : news.length = 1 * sz) (h1 : ∀ u ∈ news, u.oneCell' = true) (hn : (s d).n ≤ 900000) :
    ∃ A' c' w', (Builtin.append_ #[t, t] t #[.slice (s d).A (s d).n (s d).c, .slice (some ⟨p, 0, none⟩) 1 1]).run Try.prog (W.alloc (.cells news.toArray e)) = .ok (.slice A' ((s d).n + 1) c') w' ∧
      (∀ b, (s d).val.ownBlock ≠ some b → b < W.heap.size → ∀ j, w'.cell? ⟨b, j, none⟩ = W.cell? ⟨b, j, none⟩) ∧ Free g w' ∧ Below base W w' ∧
      Rows4 (w'.setCell ⟨g, d, none⟩ (.slice A' ((s d).n + 1) c')) base e sz g (upd s d ⟨A', (s d).n + 1, c'⟩) (upd q d (q d ++ news)) := by
  subst hp
  obtain ⟨i0, hi0, hz0, hz1, hz2⟩ := info_of hi
  have hown := (h.own d hd).row
  obtain ⟨v', w', r1, r2, r3, r4⟩ := run_app (P := Try.prog) (W.alloc (.cells news.toArray e)) base t t e i0 z sz by_ ht hi0 hz0 hz1 hz2 hzs hsz
    (hown.alloc _) (B := W.heap.size + 1) (A := some ⟨W.heap.size, 0, none⟩) (m := 1) (c := 1) (news := news)
    ⟨hm, by omega, h1, fun _ => ⟨_, _, rfl, by omega, fun j u hu => by
      rw [Nat.zero_add, cell_of_row _ _ j _ _ (0, 0) (heap_alloc_new _ _)]
      simpa using hu⟩⟩ (by omega) hby (by have := h.high; simp; omega)
  obtain ⟨A', c', rfl, ho⟩ := Own.of_row r2 (fun u hu => by
    rcases List.mem_append.1 hu with hu | hu
    · exact (h.own d hd).one u hu
    · exact h1 u hu)
  have hblk : ∀ b, (s d).val.ownBlock ≠ some b → b < W.heap.size → w'.heap[b]? = W.heap[b]? := fun b hb hlt =>
    (r3.block b (by simp; omega) (fun e => hb e.symm)).trans (heap_alloc_old W _ hlt)
  have hsize : W.heap.size ≤ w'.heap.size := by have := r3.size; simp at this; omega
  have hgd : ∀ d', d' < 4 → (s d').val.ownBlock ≠ some g := fun d' hd' hb => by have := (h.lt hd' hb).1; have := h.low; omega
  have hfree : Free g w' := ⟨Nat.lt_of_lt_of_le h.free.1 hsize, fun j => (World.frozen?_of_block (a := ⟨g, j, none⟩) (hblk g (hgd d hd) h.free.1)).trans (h.free.2 j)⟩
  have hbel : Below base W w' := ((Below.refl base W).alloc h.high _).grown r3 (by have := h.high; simp; omega) (fun k hk => (h.lt hd hk).1)
  have hnewb : ∀ b, (SV.val ⟨A', (s d).n + 1, c'⟩).ownBlock = some b → b = W.heap.size + 1 ∨ (s d).val.ownBlock = some b := fun b hb => by
    rcases r4 with r4 | r4
    · exact .inr (r4.symm.trans hb)
    · have : some b = some (W.alloc (.cells news.toArray e)).heap.size := hb.symm.trans r4
      injection this with this
      simp at this
      exact .inl this
  refine ⟨A', c', w', r1, fun b hb hlt j => World.cell?_of_block (a := ⟨b, j, none⟩) (hblk b hb hlt), hfree, hbel, ⟨h.low, by have := h.high; simpa [World.setCell] using Nat.le_trans this hsize, hfree.set _ _, ?_, ?_, ?_⟩⟩
  · intro d' hd'
    by_cases he : d' = d
    · subst he
      rw [upd_same]
      have k0 : w'.cell? ⟨g, d', none⟩ = some (.slice (s d').A (s d').n (s d').c) := (World.cell?_of_block (a := ⟨g, d', none⟩) (hblk g (hgd d' hd) h.free.1)).trans (h.cell d' hd)
      have m0 := hfree.2 d'
      go_simp
    · rw [upd_other _ _ he]
      rw [World.cell?_setCell_other w' ⟨g, d, none⟩ ⟨g, d', none⟩ _ (fun e => by injection e with _ e; exact he e.symm)]
      exact (World.cell?_of_block (a := ⟨g, d', none⟩) (hblk g (hgd d hd) h.free.1)).trans (h.cell d' hd')
  · intro d' hd'
    by_cases he : d' = d
    · subst he
      rw [upd_same, upd_same]
      exact ho.set_below (a := ⟨g, d', none⟩) h.low _
    · rw [upd_other _ _ he, upd_other _ _ he]
      refine Own.set_below ⟨?_, (h.own d' hd').one⟩ (a := ⟨g, d, none⟩) h.low _
      refine ((h.own d' hd').row.alloc _).kept r3 ?_
      cases hv : (s d').val.ownBlock with
      | none => exact .inl hv
      | some b => exact .inr (fun e => h.apart d' d hd' hd he b hv (e.symm.trans hv))
  · intro d1 d2 h1 h2 hne b hb
    by_cases e1 : d1 = d
    · subst e1
      rw [upd_same] at hb
      rw [upd_other _ _ (Ne.symm hne)]
      intro hb2
      rcases hnewb b hb with hb' | hb'
      · have := (h.lt h2 hb2).2; omega
      · exact h.apart d1 d2 h1 h2 hne b hb' hb2
    · rw [upd_other _ _ e1] at hb
      by_cases e2 : d2 = d
      · subst e2
        rw [upd_same]
        intro hb2
        rcases hnewb b hb2 with hb' | hb'
        · have := (h.lt h1 hb).2; omega
        · exact h.apart d1 d2 h1 h2 hne b hb hb'
      · rw [upd_other _ _ e2]
        exact h.apart d1 d2 h1 h2 hne b hb
end Rows4
end Rw
end Go.Proofs.Ytbfcbfadfnaebaa
