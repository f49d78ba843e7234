/- The library's two binary searches: over kids, over texts. -/
import Derived.Test.YtochokcbjlknbaaGreatG00
namespace Go.Proofs.YtochokcbjlknbaaGreat
open Go.ChangeShapes Go.WideShapes Go.ChangeAt Go.RowKit
namespace Tr
open Sp Rw
/-- where a search stands: all below lo are ahead of x, none from hi on is -/
structure Srch (l : List ByteArray) (x : ByteArray) (lo hi : Nat) : Prop where
  low : ∀ (i : Nat) (h : i < l.length), i < lo → ltS l[i] x
  high : ∀ (i : Nat) (h : i < l.length), hi ≤ i → ¬ ltS l[i] x
theorem Srch.start (l : List ByteArray) (x : ByteArray) {n : Nat} (h : l.length = n) : Srch l x 0 n := ⟨fun _ _ h => absurd h (Nat.not_lt_zero _), fun i hi hn => by omega⟩
theorem Srch.up {l : List ByteArray} {x : ByteArray} {lo hi m : Nat} (h : Srch l x lo hi) (hs : l.Pairwise fun a b => ¬ ltS b a) (hm : m < l.length) (h1 : ltS l[m] x) : Srch l x (m + 1) hi :=
  ⟨fun i hi hlt => by
    by_cases he : i = m
    · subst he; exact h1
    · have := List.pairwise_iff_getElem.1 hs i m hi hm (by omega)
      rcases tot_str.tri l[i] x with h2 | h2 | h2
      · exact h2
      · rw [h2] at this; exact absurd h1 this
      · exact absurd (tot_str.tr _ _ _ h1 h2) this, h.high⟩
theorem Srch.down {l : List ByteArray} {x : ByteArray} {lo hi m : Nat} (h : Srch l x lo hi) (hs : l.Pairwise fun a b => ¬ ltS b a) (hm : m < l.length) (h1 : ¬ ltS l[m] x) : Srch l x lo m :=
  ⟨h.low, fun i hi hle => by
    by_cases he : i = m
    · subst he; exact h1
    · have := List.pairwise_iff_getElem.1 hs m i hm hi (by omega)
      exact fun h2 => h1 (by
        rcases tot_str.tri l[m] l[i] with h3 | h3 | h3
        · exact tot_str.tr _ _ _ h3 h2
        · rw [h3]; exact h2
        · exact absurd h3 this)⟩
theorem Srch.found {l : List ByteArray} {x : ByteArray} {i : Nat} (h : Srch l x i i) (hs : l.Pairwise fun a b => ¬ ltS b a) : x ∈ l ↔ ∃ hi : i < l.length, l[i] = x := by
  constructor
  · intro hx
    obtain ⟨j, hj, rfl⟩ := List.getElem_of_mem hx
    have h1 : i ≤ j := by
      rcases Nat.lt_or_ge j i with h1 | h1
      · exact absurd (h.low j hj h1) (tot_str.irr _)
      · exact h1
    have hi : i < l.length := by omega
    refine ⟨hi, ?_⟩
    rcases Nat.lt_or_ge i j with h2 | h2
    · have h3 := List.pairwise_iff_getElem.1 hs i j hi hj h2
      have h4 := h.high i hi (Nat.le_refl _)
      rcases tot_str.tri l[i] l[j] with h5 | h5 | h5
      · exact absurd h5 h4
      · exact h5
      · exact absurd h5 h3
    · have : i = j := by omega
      subst this; rfl
  · rintro ⟨hi, rfl⟩
    exact List.getElem_mem hi
/-- cells of texts -/
def strs (l : List ByteArray) : List Value := l.map Value.string
theorem strs_one (l : List ByteArray) : ∀ u ∈ strs l, u.oneCell' = true := by
  intro u hu
  obtain ⟨x, _, rfl⟩ := List.mem_map.1 hu
  rfl
end Tr
end Go.Proofs.YtochokcbjlknbaaGreat
