/- Package sorted at string keys, on: From, Cut; and 'is'. -/
import Derived.Test.YtolfockpiioncaaRef2
namespace Go.Proofs.Ytolfockpiioncaa
open Go.RowKit
namespace SortS
/-- what From answers: the pairs from the place on -/
def FromIs (l : Ps) (t : ByteArray) (w : World) (e : Ending) (w' : World) : Prop :=
  ∃ i, Place ltS l t i ∧ NewRow 60 2 (flat (l.drop i)) (l.drop i).length w e w'
set_option maxRecDepth 100000 in
set_option maxHeartbeats 400000 in
theorem from_any (l : Ps) (t : ByteArray) (A : Option Addr) (c : Nat) (w : World) (hn : l.length ≤ 1000) (hr : Rd w w.heap.size 2 A l.length c (flat l)) (hu : Up ltS l) :
    Calls Try.prog 32 #[.agg #[.slice A l.length c], .string t] w (FromIs l t w) := by
  obtain ⟨i, hpl, hp⟩ : ∃ i, Place ltS l t i ∧ ∀ W, Rd W W.heap.size 2 A l.length c (flat l) → Calls Try.prog 28 #[.agg #[.slice A l.length c], .string t] W fun e w' => (∃ j : Nat, e = .returned (.tuple #[.int .i64 (i : Nat), .int .i64 j])) ∧ Below W.heap.size W w' := by
    obtain ⟨i, hf | hf⟩ := exists_at tot_str l hu t
    · exact ⟨i, hf.1, fun W hW => (place_found l t A c W hn hW hu i hf).mono fun e w' ⟨he, hb⟩ => ⟨⟨i + 1, by rw [he]; simp⟩, hb⟩⟩
    · exact ⟨i, hf.1, fun W hW => (place_none l t A c W hn hW hu i hf).mono fun e w' ⟨he, hb⟩ => ⟨⟨i, he⟩, hb⟩⟩
  have hil := hpl.1
  obtain ⟨i0, hi0, hz0, hz1, hz2⟩ := info_parts info
  have hcut2 := fun W => run_cut_from (P := Try.prog) 24 60 2 Try.underlying24 hi0 hz1 A l.length c i hil W
  have hR2 := Lib.hid (hr.from_ (i := i) hil)
  generalize (if c = i then A else A.map (·.add (i * 2))) = A2 at hcut2 hR2
  have hR := Lib.hid hr
  have HP := Lib.hid hp
  have HPL := Lib.hid hpl
  clear hr hp hu hpl
  go_enter Try.func32, Try.ntmps32
  go_wp2_with (first
    | (go_at_call 28; refine (HP.out _ ((hR.out.alloc (Nat.le_refl _) _).more (by simp))).mono ?_; rintro e w1 ⟨⟨j, rfl⟩, hb1⟩; (have hbox : w1.cell? ⟨w.heap.size, 0, none⟩ = some (.slice A l.length c) := (hb1.cell (p := ⟨w.heap.size, 0, none⟩) (by simp)).trans (by go_simp)); (have hB1 : Below w.heap.size w w1 := ((Below.refl _ _).alloc (Nat.le_refl _) _).trans (hb1.mono (by simp))))
    | (go_at_call 34; refine (clone_any _ _ _ _ _ (by omega) ((hR2.out.below hB1).more hB1.size)).mono ?_; rintro e w2 ⟨A', c', rfl, hrd, hb2⟩))
  go_ret
  refine ⟨i, HPL.out, A', c', ?_, ?_, hB1.trans (hb2.mono hB1.size)⟩
  · rw [List.length_drop]; rfl
  · have h1 := hrd.mono hB1.size
    rw [List.length_drop]
    unfold flat
    rw [flat2_drop]
    exact h1

set_option maxRecDepth 100000 in
set_option maxHeartbeats 400000 in
theorem cut_low (l : Ps) (n : Int) (hn0 : n ≤ 0) (A : Option Addr) (c : Nat) (w : World) (hn : l.length ≤ 1000) (hr : Rd w w.heap.size 2 A l.length c (flat l)) :
    Calls Try.prog 33 #[.agg #[.slice A l.length c], .int .i64 n] w (NewMap (l.take (0)) w) := by
  obtain ⟨i0, hi0, hz0, hz1, hz2⟩ := info_parts info
  have hcut1 := fun W => run_cut_to (P := Try.prog) 24 60 2 Try.underlying24 hi0 hz1 A l.length c (0) (by have := hr.cap; omega) W
  rw [Int.natCast_zero] at hcut1
  have f1 : n ≤ (l.length : Int) := by omega
  have hR1 := Lib.hid (hr.to_ (j := 0) (by omega))
  clear hr
  go_enter Try.func33, Try.ntmps33
  have hz : w.heap.size + 2 ≤ (((w.alloc (.cells #[.slice A l.length c] 26)).alloc (.cells #[.slice none 0 0] 26))).heap.size := by simp
  go_wp2_with (go_at_call 34; refine (clone_any (0) _ A c _ (by omega) (((hR1.out.alloc (Nat.le_refl _) _).alloc (by simp) _).more (by simp; omega))).mono ?_; rintro e w1 ⟨A3, c3, rfl, hown, hb1⟩; (have hbox2 : w1.cell? ⟨w.heap.size + 1, 0, none⟩ = some (.slice none 0 0) := (hb1.cell (p := ⟨w.heap.size + 1, 0, none⟩) (by simp)).trans (by go_simp)); (have hfr2 : w1.frozen? ⟨w.heap.size + 1, 0, none⟩ = false := (hb1.frozen (p := ⟨w.heap.size + 1, 0, none⟩) (by simp)).trans (by go_simp)))
  have hB : Below w.heap.size w w1 := (((Below.refl _ _).alloc (Nat.le_refl _) _).alloc (by simp) _).trans (hb1.mono (by simp; omega))
  refine bodyPost_ret (v := .agg #[.slice A3 (0) c3]) (by simp [results, Try.results33, go_sem, hbox2]) rfl ⟨A3, c3, ?_, ?_, ?_⟩
  · rw [List.length_take, Nat.min_eq_left (by omega)]
  · have h1 := (hown.set_below (a := ⟨w.heap.size + 1, 0, none⟩) (by simp) (.slice A3 (0) c3)).mono (base' := w.heap.size) (by simp; omega)
    rw [List.length_take, Nat.min_eq_left (by omega)]
    unfold flat
    rw [flat2_take]
    simpa using h1
  · exact hB.setCell (p := ⟨w.heap.size + 1, 0, none⟩) (by simp) _
set_option maxRecDepth 100000 in
set_option maxHeartbeats 400000 in
theorem cut_mid (l : Ps) (k : Nat) (hk : k ≤ l.length) (hk0 : 0 < k) (A : Option Addr) (c : Nat) (w : World) (hn : l.length ≤ 1000) (hr : Rd w w.heap.size 2 A l.length c (flat l)) :
    Calls Try.prog 33 #[.agg #[.slice A l.length c], .int .i64 (k : Int)] w (NewMap (l.take (k)) w) := by
  obtain ⟨i0, hi0, hz0, hz1, hz2⟩ := info_parts info
  have hcut1 := fun W => run_cut_to (P := Try.prog) 24 60 2 Try.underlying24 hi0 hz1 A l.length c (k) (by have := hr.cap; omega) W
  have f1 : (k : Int) ≤ (l.length : Int) := by omega
  have f2 : (0 : Int) < (k : Int) := by omega
  have f4 : (0 : Int) ≤ (k : Int) := by omega
  have f3 : (k : Int) ≤ (c : Int) := by have := hr.cap; omega
  have hR1 := Lib.hid (hr.to_ (j := k) (by omega))
  clear hr
  go_enter Try.func33, Try.ntmps33
  have hz : w.heap.size + 2 ≤ (((w.alloc (.cells #[.slice A l.length c] 26)).alloc (.cells #[.slice none 0 0] 26))).heap.size := by simp
  go_wp2_with (go_at_call 34; refine (clone_any (k) _ A c _ (by omega) (((hR1.out.alloc (Nat.le_refl _) _).alloc (by simp) _).more (by simp; omega))).mono ?_; rintro e w1 ⟨A3, c3, rfl, hown, hb1⟩; (have hbox2 : w1.cell? ⟨w.heap.size + 1, 0, none⟩ = some (.slice none 0 0) := (hb1.cell (p := ⟨w.heap.size + 1, 0, none⟩) (by simp)).trans (by go_simp)); (have hfr2 : w1.frozen? ⟨w.heap.size + 1, 0, none⟩ = false := (hb1.frozen (p := ⟨w.heap.size + 1, 0, none⟩) (by simp)).trans (by go_simp)))
  have hB : Below w.heap.size w w1 := (((Below.refl _ _).alloc (Nat.le_refl _) _).alloc (by simp) _).trans (hb1.mono (by simp; omega))
  refine bodyPost_ret (v := .agg #[.slice A3 (k) c3]) (by simp [results, Try.results33, go_sem, hbox2]) rfl ⟨A3, c3, ?_, ?_, ?_⟩
  · rw [List.length_take, Nat.min_eq_left (by omega)]
  · have h1 := (hown.set_below (a := ⟨w.heap.size + 1, 0, none⟩) (by simp) (.slice A3 (k) c3)).mono (base' := w.heap.size) (by simp; omega)
    rw [List.length_take, Nat.min_eq_left (by omega)]
    unfold flat
    rw [flat2_take]
    simpa using h1
  · exact hB.setCell (p := ⟨w.heap.size + 1, 0, none⟩) (by simp) _
set_option maxRecDepth 100000 in
set_option maxHeartbeats 400000 in
theorem cut_high (l : Ps) (n : Int) (hn0 : (l.length : Int) < n) (hl0 : 0 < l.length) (A : Option Addr) (c : Nat) (w : World) (hn : l.length ≤ 1000) (hr : Rd w w.heap.size 2 A l.length c (flat l)) :
    Calls Try.prog 33 #[.agg #[.slice A l.length c], .int .i64 n] w (NewMap (l.take (l.length)) w) := by
  obtain ⟨i0, hi0, hz0, hz1, hz2⟩ := info_parts info
  have hcut1 := fun W => run_cut_to (P := Try.prog) 24 60 2 Try.underlying24 hi0 hz1 A l.length c (l.length) (by have := hr.cap; omega) W
  have f1 : (l.length : Int) < n := by omega
  have f5 : (0 : Int) < (l.length : Int) := by omega
  have f2 : (l.length : Int) ≤ n := by omega
  have f3 : (l.length : Int) ≤ (c : Int) := by have := hr.cap; omega
  have hR1 := Lib.hid (hr.to_ (j := l.length) (by omega))
  clear hr
  go_enter Try.func33, Try.ntmps33
  have hz : w.heap.size + 2 ≤ (((w.alloc (.cells #[.slice A l.length c] 26)).alloc (.cells #[.slice none 0 0] 26))).heap.size := by simp
  go_wp2_with (go_at_call 34; refine (clone_any (l.length) _ A c _ (by omega) (((hR1.out.alloc (Nat.le_refl _) _).alloc (by simp) _).more (by simp; omega))).mono ?_; rintro e w1 ⟨A3, c3, rfl, hown, hb1⟩; (have hbox2 : w1.cell? ⟨w.heap.size + 1, 0, none⟩ = some (.slice none 0 0) := (hb1.cell (p := ⟨w.heap.size + 1, 0, none⟩) (by simp)).trans (by go_simp)); (have hfr2 : w1.frozen? ⟨w.heap.size + 1, 0, none⟩ = false := (hb1.frozen (p := ⟨w.heap.size + 1, 0, none⟩) (by simp)).trans (by go_simp)))
  have hB : Below w.heap.size w w1 := (((Below.refl _ _).alloc (Nat.le_refl _) _).alloc (by simp) _).trans (hb1.mono (by simp; omega))
  refine bodyPost_ret (v := .agg #[.slice A3 (l.length) c3]) (by simp [results, Try.results33, go_sem, hbox2]) rfl ⟨A3, c3, ?_, ?_, ?_⟩
  · rw [List.length_take, Nat.min_eq_left (by omega)]
  · have h1 := (hown.set_below (a := ⟨w.heap.size + 1, 0, none⟩) (by simp) (.slice A3 (l.length) c3)).mono (base' := w.heap.size) (by simp; omega)
    rw [List.length_take, Nat.min_eq_left (by omega)]
    unfold flat
    rw [flat2_take]
    simpa using h1
  · exact hB.setCell (p := ⟨w.heap.size + 1, 0, none⟩) (by simp) _
set_option maxRecDepth 100000 in
set_option maxHeartbeats 400000 in
theorem cut_nil (l : Ps) (n : Int) (hn0 : 0 < n) (hl0 : l.length = 0) (A : Option Addr) (c : Nat) (w : World) (hn : l.length ≤ 1000) (hr : Rd w w.heap.size 2 A l.length c (flat l)) :
    Calls Try.prog 33 #[.agg #[.slice A l.length c], .int .i64 n] w (NewMap (l.take (0)) w) := by
  obtain ⟨i0, hi0, hz0, hz1, hz2⟩ := info_parts info
  have hcut1 := fun W => run_cut_to (P := Try.prog) 24 60 2 Try.underlying24 hi0 hz1 A l.length c (0) (by have := hr.cap; omega) W
  rw [Int.natCast_zero] at hcut1
  obtain rfl : l = [] := List.eq_nil_of_length_eq_zero hl0
  simp only [List.length_nil] at hr hcut1 ⊢
  clear hl0
  have hR1 := Lib.hid (hr.to_ (j := 0) (by omega))
  clear hr
  go_enter Try.func33, Try.ntmps33
  have hz : w.heap.size + 2 ≤ (((w.alloc (.cells #[.slice A (0 : Nat) c] 26)).alloc (.cells #[.slice none 0 0] 26))).heap.size := by simp
  go_wp2_with (go_at_call 34; refine (clone_any (0) _ A c _ (by omega) (((hR1.out.alloc (Nat.le_refl _) _).alloc (by simp) _).more (by simp; omega))).mono ?_; rintro e w1 ⟨A3, c3, rfl, hown, hb1⟩; (have hbox2 : w1.cell? ⟨w.heap.size + 1, 0, none⟩ = some (.slice none 0 0) := (hb1.cell (p := ⟨w.heap.size + 1, 0, none⟩) (by simp)).trans (by go_simp)); (have hfr2 : w1.frozen? ⟨w.heap.size + 1, 0, none⟩ = false := (hb1.frozen (p := ⟨w.heap.size + 1, 0, none⟩) (by simp)).trans (by go_simp)))
  have hB : Below w.heap.size w w1 := (((Below.refl _ _).alloc (Nat.le_refl _) _).alloc (by simp) _).trans (hb1.mono (by simp; omega))
  refine bodyPost_ret (v := .agg #[.slice A3 (0) c3]) (by simp [results, Try.results33, go_sem, hbox2]) rfl ⟨A3, c3, ?_, ?_, ?_⟩
  · rw [List.length_take, Nat.min_eq_left (by omega)]
  · have h1 := (hown.set_below (a := ⟨w.heap.size + 1, 0, none⟩) (by simp) (.slice A3 (0) c3)).mono (base' := w.heap.size) (by simp; omega)
    rw [List.length_take, Nat.min_eq_left (by omega)]
    unfold flat
    rw [flat2_take]
    simpa using h1
  · exact hB.setCell (p := ⟨w.heap.size + 1, 0, none⟩) (by simp) _
theorem cut_any (l : Ps) (n : Int) (A : Option Addr) (c : Nat) (w : World) (hn : l.length ≤ 1000) (hr : Rd w w.heap.size 2 A l.length c (flat l)) :
    Calls Try.prog 33 #[.agg #[.slice A l.length c], .int .i64 n] w (NewMap (l.take n.toNat) w) := by
  by_cases h1 : n ≤ 0
  · have e : n.toNat = 0 := by omega
    rw [e]
    exact cut_low l n h1 A c w hn hr
  · by_cases h2 : (l.length : Int) < n
    · by_cases h3 : l.length = 0
      · have e : l.take n.toNat = l.take 0 := by rw [List.eq_nil_of_length_eq_zero h3]; simp
        rw [e]
        exact cut_nil l n (by omega) h3 A c w hn hr
      · have e : l.take n.toNat = l.take l.length := by rw [List.take_length, List.take_of_length_le (by omega)]
        rw [e]
        exact cut_high l n h2 (by omega) A c w hn hr
    · have e : n = (n.toNat : Int) := by omega
      have h := cut_mid l n.toNat (by omega) (by omega) A c w hn hr
      rwa [← e] at h
end SortS
end Go.Proofs.Ytolfockpiioncaa
