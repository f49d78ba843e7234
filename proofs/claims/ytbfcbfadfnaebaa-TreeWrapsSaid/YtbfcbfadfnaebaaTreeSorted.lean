/- The library's slices.Sorted of a slice's texts: they rise, and are the same. -/
import Derived.Test.YtbfcbfadfnaebaaTreeSeq
namespace Go.Proofs.Ytbfcbfadfnaebaa
open Go.RowKit Go.Shelf Go.Sort
namespace Tr
open Sp Rw
theorem lt_bytes : ∀ x y : List UInt8, x < y ↔ Op.bytesLess x y = true
  | [], [] => by simp [Op.bytesLess]
  | [], _ :: _ => by simp [Op.bytesLess]
  | _ :: _, [] => by simp [Op.bytesLess]
  | x :: a, y :: b => by
    rw [List.cons_lt_cons_iff, lt_bytes a b]
    simp [Op.bytesLess]
theorem le_bytes (x y : List UInt8) : decide (x ≤ y) = !Op.bytesLess y x := by
  have h := lt_bytes y x
  have h2 : x ≤ y ↔ ¬ y < x := Iff.rfl
  cases hb : Op.bytesLess y x with
  | true => rw [decide_eq_false]; · rfl
            rw [h2, h, hb]; simp
  | false => rw [decide_eq_true]; · rfl
             rw [h2, h, hb]; simp
def toL (b : ByteArray) : List UInt8 := b.data.toList
def ofL (l : List UInt8) : ByteArray := ⟨l.toArray⟩
theorem of_to (b : ByteArray) : ofL (toL b) = b := by unfold ofL toL; rw [Array.toArray_toList]
theorem to_of (l : List UInt8) : toL (ofL l) = l := rfl
/-- the texts, rising -/
def sortS (l : List ByteArray) : List ByteArray := ((l.map toL).mergeSort fun x y => decide (x ≤ y)).map ofL
theorem sortS_len (l : List ByteArray) : (sortS l).length = l.length := by unfold sortS; rw [List.length_map, List.length_mergeSort, List.length_map]
theorem sortS_mem {l : List ByteArray} {x : ByteArray} : x ∈ sortS l ↔ x ∈ l := by
  unfold sortS
  constructor
  · intro h
    obtain ⟨y, hy, rfl⟩ := List.mem_map.1 h
    obtain ⟨z, hz, rfl⟩ := List.mem_map.1 (List.mem_mergeSort.1 hy)
    rw [of_to]
    exact hz
  · intro h
    refine List.mem_map.2 ⟨toL x, List.mem_mergeSort.2 (List.mem_map.2 ⟨x, h, rfl⟩), of_to x⟩
theorem sortS_rise (l : List ByteArray) : (sortS l).Pairwise fun a b => ¬ ltS b a := by
  unfold sortS
  rw [List.pairwise_map]
  refine (List.pairwise_mergeSort (fun a b c h1 h2 => ?_) (fun a b => ?_) (l.map toL)).imp fun {a b} h => ?_
  · rw [le_bytes] at h1 h2 ⊢
    simp only [Bool.not_eq_true'] at h1 h2 ⊢
    cases h3 : Op.bytesLess c a with
    | false => rfl
    | true =>
      rcases bytesLess_tri a b with h4 | h4 | h4
      · have := bytesLess_tr c a b h3 h4; rw [h2] at this; cases this
      · subst h4; rw [h2] at h3; cases h3
      · rw [h1] at h4; cases h4
  · rw [le_bytes, le_bytes]
    cases h3 : Op.bytesLess b a with
    | false => rfl
    | true =>
      cases h4 : Op.bytesLess a b with
      | false => rfl
      | true =>
        have := bytesLess_tr a b a h4 h3
        rw [bytesLess_irr] at this
        cases this
  · rw [le_bytes] at h
    unfold ltS
    rw [ByteArray.toList_eq, ByteArray.toList_eq]
    show ¬ Op.bytesLess (toL (ofL b)) (toL (ofL a)) = true
    rw [to_of, to_of]
    intro h2
    rw [h2] at h
    cases h
theorem strs_enc (l : List ByteArray) : strs l = (l.map toL).map encStr := by
  unfold strs
  rw [List.map_map]
  refine List.map_congr_left fun b _ => ?_
  show Value.string b = Value.string (ofL (toL b))
  rw [of_to]
theorem sortS_enc (l : List ByteArray) : strs (sortS l) = ((l.map toL).mergeSort fun x y => decide (x ≤ y)).map encStr := by
  unfold strs sortS
  rw [List.map_map]
  rfl
theorem sortS_own (l : List ByteArray) (n : Nat) (A : Option Addr) (c base : Nat) (w : World) (hl : l.length = n) (hn : n ≤ 900000) (ho : Own w base 9 1 A n c (strs l)) (hb : base ≤ w.heap.size) :
    Calls Try.prog 88 #[.slice A n c] w fun e w' => e = .returned (.tuple #[]) ∧ Own w' base 9 1 A n c (strs (sortS l)) ∧ Below base w w' := by
  rcases Nat.eq_zero_or_pos n with h0 | h0
  · subst h0
    have : l = [] := List.eq_nil_of_length_eq_zero hl
    subst this
    refine (Go.Proofs.AnyG.slices_Sort_string_none sortS_lay A c w).mono ?_
    rintro e w' ⟨rfl, rfl⟩
    exact ⟨rfl, by rw [show sortS [] = [] from by unfold sortS; simp]; exact ho, Below.refl _ _⟩
  · subst hl
    rcases ho.row.2 with ⟨_, h⟩ | ⟨g, cap, cur, hv, hg, hh, h1, h2, h3, h4⟩
    · omega
    · injection hv with e1 _ e3
      subst e1; subst e3
      rw [Nat.mul_one, strs_enc] at h4
      have hs := Go.Proofs.AnyG.slices_Sort_string sortS_lay g 0 c (l.map toL) w (holds_of_block hh (by simpa using h4)) (Array.getElem?_eq_some_iff.1 hh).1 (by rw [List.length_map]; omega)
      rw [List.length_map] at hs
      refine hs.mono ?_
      rintro e w' ⟨rfl, k, os, rfl⟩
      refine ⟨rfl, ⟨?_, strs_one _⟩, (Below.refl base w).grown (grownBy_sorted _) hb (fun k hk => by injection hk with hk; omega)⟩
      rw [sortS_enc]
      have := ownsRow_sorted (n := k) (os := os) (ss := l.map toL) (ts := (l.map toL).mergeSort fun x y => decide (x ≤ y)) (List.length_mergeSort _) hg hh (by rw [List.length_map]; exact h1) h2 h3
      rw [List.length_map] at this
      exact this
theorem sorted_any (Bs len cap : Nat) (A : Option Addr) (l : List ByteArray) (w : World) (hl : l.length = len) (hreach : len ≤ 900000) (hc0 : w.cell? ⟨Bs, 0, none⟩ = some (.slice A len cap)) (hr : Rd w w.heap.size 1 A len cap (strs l)) :
    Calls Try.prog 72 #[.func (.func 89) #[] #[.pointer (some ⟨Bs, 0, none⟩)]] w fun e W' => ∃ A' c', e = .returned (.slice A' len c') ∧ Own W' w.heap.size 9 1 A' len c' (strs (sortS l)) ∧ Below w.heap.size w W' := by
  have HC := Lib.hid (collect_any Bs len cap A l w hl (by omega) hc0 hr)
  have HL := Lib.hid hl
  clear hl hc0 hr
  go_enter Try.func72, Try.ntmps72
  go_wp2_with fail
  refine HC.out.mono ?_
  rintro e W1 ⟨A', c', rfl, ho, hb⟩
  have HS := Lib.hid (sortS_own l len A' c' w.heap.size W1 HL.out hreach ho hb.size)
  have HB := Lib.hid hb
  clear ho hb
  go_wp2_with fail
  refine HS.out.mono ?_
  rintro e W2 ⟨rfl, ho, hb⟩
  have HO := Lib.hid ho
  have HB2 := Lib.hid (HB.out.trans hb)
  clear ho hb
  go_wp2_with fail
  go_ret
  exact ⟨A', c', rfl, HO.out, HB2.out⟩
end Tr
end Go.Proofs.Ytbfcbfadfnaebaa
