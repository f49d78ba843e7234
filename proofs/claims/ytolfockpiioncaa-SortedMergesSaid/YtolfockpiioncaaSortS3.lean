/- Package sorted at string keys, on: All, Put, Del. -/
import Derived.Test.YtolfockpiioncaaSortS2
namespace Go.Proofs.Ytolfockpiioncaa
open Go.RowKit
namespace SortS
set_option maxRecDepth 100000 in
set_option maxHeartbeats 400000 in
theorem all_any (l : Ps) (A : Option Addr) (c : Nat) (w : World) (hn : l.length ≤ 1000) (hr : Rd w w.heap.size 2 A l.length c (flat l)) :
    Calls Try.prog 24 #[.agg #[.slice A l.length c]] w (NewRow 60 2 (flat l) l.length w) := by
  have hR := Lib.hid hr
  clear hr
  go_enter Try.func24, Try.ntmps24
  go_wp2_with (go_at_call 34; refine (clone_any _ _ _ _ _ hn ((hR.out.alloc (Nat.le_refl _) _).more (by simp))).mono ?_; rintro e w1 ⟨A', c', rfl, hrd, hb1⟩)
  go_ret
  exact ⟨A', c', rfl, hrd.mono (by simp), ((Below.refl _ _).alloc (Nat.le_refl _) _).trans (hb1.mono (by simp))⟩

/-- a map, as an answer -/
def NewMap (l : Ps) (w : World) (e : Ending) (w' : World) : Prop := ∃ A c, e = .returned (.agg #[.slice A l.length c]) ∧ Own w' w.heap.size 60 2 A l.length c (flat l) ∧ Below w.heap.size w w'

/-- slices put together -/
def New3 (xs : List Value) (n : Nat) (W : World) (e : Ending) (w' : World) : Prop :=
  ∃ A c, e = .returned (.slice A n c) ∧ Own w' W.heap.size 60 2 A n c xs ∧ Below W.heap.size W w'
theorem concat3 (A1 A3 : Option Addr) (n1 c1 n3 c3 : Nat) (x1 x3 : List Value) (a b : Value) (ha : a.oneCell' = true) (hb : b.oneCell' = true) (W : World) (h1 : Rd W W.heap.size 2 A1 n1 c1 x1) (h3 : Rd W W.heap.size 2 A3 n3 c3 x3) (hn : n1 + n3 ≤ 2000) :
    Calls Try.prog 29 #[.slice (some ⟨W.heap.size + 1, 0, none⟩) 3 3]
      ((W.alloc (.cells #[a, b] 60)).alloc (.cells #[.slice A1 n1 c1, .slice (some ⟨W.heap.size, 0, none⟩) 1 1, .slice A3 n3 c3] 24)).drew
      (New3 (x1 ++ [a, b] ++ x3) (n1 + 1 + n3) W) := by
  have hP := fun (w' : World) hB hR => concat_any [⟨A1, n1, c1, x1⟩, ⟨some ⟨W.heap.size, 0, none⟩, 1, 1, [a, b]⟩, ⟨A3, n3, c3, x3⟩] (some ⟨W.heap.size + 1, 0, none⟩) 3 w' hB hR (by simp [total]; omega) (by simp)
  refine (hP _ ⟨rfl, by simp, by simp [Part.val, Value.oneCell'], fun _ => ⟨_, _, rfl, by simp, fun j u hu => ?_⟩⟩ ?_).mono ?_
  · rw [World.cell?_drew, Nat.zero_add]
    have e : (W.alloc (.cells #[a, b] 60)).heap.size = W.heap.size + 1 := by simp
    rw [← e, cell_of_row _ _ j _ _ (0, 0) (heap_alloc_new _ _)]
    simpa [Part.val] using hu
  · intro p hp
    simp only [List.mem_cons, List.not_mem_nil, or_false] at hp
    rcases hp with rfl | rfl | rfl
    · exact ((((h1.alloc (Nat.le_refl _) _).alloc (by simp) _).drew).more (by simp; omega))
    · refine ⟨rfl, by simp, by simp [ha, hb], fun _ => ⟨_, _, rfl, by simp; omega, fun j u hu => ?_⟩⟩
      rw [World.cell?_drew, Nat.zero_add, World.cell?_alloc_lt _ _ _ (by simp), cell_of_row _ _ j _ _ (0, 0) (heap_alloc_new _ _)]
      simpa using hu
    · exact ((((h3.alloc (Nat.le_refl _) _).alloc (by simp) _).drew).more (by simp; omega))
  · rintro e w' ⟨A', c', rfl, hrd, hbel⟩
    refine ⟨A', c', by simp [total]; omega, ?_, ?_⟩
    · have e1 : n1 + 1 + n3 = total [⟨A1, n1, c1, x1⟩, ⟨some ⟨W.heap.size, 0, none⟩, 1, 1, [a, b]⟩, ⟨A3, n3, c3, x3⟩] := by simp [total]; omega
      rw [e1]
      have hrd' := hrd.mono (base' := W.heap.size) (by simp; omega)
      simpa [cat] using hrd'
    · exact ((((Below.refl _ _).alloc (Nat.le_refl _) _).alloc (by simp) _).drew).trans (hbel.mono (by simp; omega))
theorem concat2 (A1 A3 : Option Addr) (n1 c1 n3 c3 : Nat) (x1 x3 : List Value) (W : World) (h1 : Rd W W.heap.size 2 A1 n1 c1 x1) (h3 : Rd W W.heap.size 2 A3 n3 c3 x3) (hn : n1 + n3 ≤ 2000) :
    Calls Try.prog 29 #[.slice (some ⟨W.heap.size, 0, none⟩) 2 2]
      (W.alloc (.cells #[.slice A1 n1 c1, .slice A3 n3 c3] 24)).drew
      (New3 (x1 ++ x3) (n1 + n3) W) := by
  have hP := fun (w' : World) hB hR => concat_any [⟨A1, n1, c1, x1⟩, ⟨A3, n3, c3, x3⟩] (some ⟨W.heap.size, 0, none⟩) 2 w' hB hR (by simp [total]; omega) (by simp)
  refine (hP _ ⟨rfl, by simp, by simp [Part.val, Value.oneCell'], fun _ => ⟨_, _, rfl, by simp, fun j u hu => ?_⟩⟩ ?_).mono ?_
  · rw [World.cell?_drew, Nat.zero_add, cell_of_row _ _ j _ _ (0, 0) (heap_alloc_new _ _)]
    simpa [Part.val] using hu
  · intro p hp
    simp only [List.mem_cons, List.not_mem_nil, or_false] at hp
    rcases hp with rfl | rfl
    · exact (((h1.alloc (Nat.le_refl _) _).drew).more (by simp))
    · exact (((h3.alloc (Nat.le_refl _) _).drew).more (by simp))
  · rintro e w' ⟨A', c', rfl, hrd, hbel⟩
    refine ⟨A', c', by simp [total], ?_, ?_⟩
    · have e1 : n1 + n3 = total [⟨A1, n1, c1, x1⟩, ⟨A3, n3, c3, x3⟩] := by simp [total]
      rw [e1]
      have hrd' := hrd.mono (base' := W.heap.size) (by simp)
      simpa [cat] using hrd'
    · exact (((Below.refl _ _).alloc (Nat.le_refl _) _).drew).trans (hbel.mono (by simp))

set_option maxRecDepth 100000 in
set_option maxHeartbeats 400000 in
theorem put_found (l : Ps) (t : ByteArray) (v : Int) (A : Option Addr) (c : Nat) (w : World) (hn : l.length ≤ 1000) (hr : Rd w w.heap.size 2 A l.length c (flat l)) (hu : Up ltS l) (i : Nat) (hf : FoundAt ltS l t i) :
    Calls Try.prog 11 #[.agg #[.slice A l.length c], .string t, .int .i64 v] w (NewMap (l.take i ++ [(t, v)] ++ l.drop (i + 1)) w) := by
  have hp := fun W hW => place_found l t A c W hn hW hu i hf
  have hil := hf.2.1
  obtain ⟨i0, hi0, hz0, hz1, hz2⟩ := info_parts info
  have hcut1 := fun W => run_cut_to (P := Try.prog) 24 60 2 Try.underlying24 hi0 hz1 A l.length c i (by have := hr.cap; omega) W
  have hcut2 := fun W => run_cut_from (P := Try.prog) 24 60 2 Try.underlying24 hi0 hz1 A l.length c (i + 1) (by omega) W
  have hR1 := Lib.hid (hr.to_ (j := i) (by omega))
  have hR2 := Lib.hid (hr.from_ (i := i + 1) (by omega))
  generalize (if c = i + 1 then A else A.map (·.add ((i + 1) * 2))) = A2 at hcut2 hR2
  rw [Int.natCast_add, Int.natCast_one] at hcut2
  have hR := Lib.hid hr
  have HP := Lib.hid hp
  clear hf hr hp hu
  go_enter Try.func11, Try.ntmps11
  go_wp2_with (go_at_call 28; refine (HP.out _ (((hR.out.alloc (Nat.le_refl _) _).alloc (by simp) _).more (by simp; omega))).mono ?_; rintro e w1 ⟨rfl, hb1⟩; (have hbox : w1.cell? ⟨w.heap.size, 0, none⟩ = some (.slice A l.length c) := (hb1.cell (p := ⟨w.heap.size, 0, none⟩) (by simp; omega)).trans (by go_simp)); (have hbox2 : w1.cell? ⟨w.heap.size + 1, 0, none⟩ = some (.slice none 0 0) := (hb1.cell (p := ⟨w.heap.size + 1, 0, none⟩) (by simp)).trans (by go_simp)); (have hfr2 : w1.frozen? ⟨w.heap.size + 1, 0, none⟩ = false := (hb1.frozen (p := ⟨w.heap.size + 1, 0, none⟩) (by simp)).trans (by go_simp)); (have hb2 : Below w.heap.size w w1 := (((Below.refl _ _).alloc (Nat.le_refl _) _).alloc (by simp) _).trans (hb1.mono (by simp; omega))); (have hz : w.heap.size + 2 ≤ w1.heap.size := (by have := hb1.size; simpa using this)))
  have hc3 := concat3 A A2 i c (l.length - (i + 1)) (c - (i + 1)) _ _ (.string t) (.int .i64 v) rfl rfl w1 ((hR1.out.below hb2).more hb2.size) ((hR2.out.below hb2).more hb2.size) (by omega)
  have HC3 := Lib.hid hc3
  clear hc3
  go_region_held3 (fun w' => w'.cell? ⟨w.heap.size, 0, none⟩ = some (.slice A l.length c)) (go_keep) (first | (go_at_call 29; refine HC3.out.mono ?_; rintro e w2 ⟨A3, c3, rfl, hrd, hb3⟩; (have hbox3 : w2.cell? ⟨w.heap.size, 0, none⟩ = some (.slice A l.length c) := (hb3.cell (p := ⟨w.heap.size, 0, none⟩) (by simp; omega)).trans hbox); (have hbox4 : w2.cell? ⟨w.heap.size + 1, 0, none⟩ = some (.slice none 0 0) := (hb3.cell (p := ⟨w.heap.size + 1, 0, none⟩) (by simp; omega)).trans hbox2); (have hfr4 : w2.frozen? ⟨w.heap.size + 1, 0, none⟩ = false := (hb3.frozen (p := ⟨w.heap.size + 1, 0, none⟩) (by simp; omega)).trans hfr2)))
  go_wp2
  have e1 : (l.take i ++ [(t, v)] ++ l.drop (i + 1)).length = i + 1 + (l.length - (i + 1)) := by simp; omega
  have e2 : flat (l.take i ++ [(t, v)] ++ l.drop (i + 1)) = (flat l).take (i * 2) ++ [.string t, .int .i64 v] ++ (flat l).drop ((i + 1) * 2) := by
    unfold flat; rw [flat2_append, flat2_append, flat2_take, flat2_drop]; rfl
  refine bodyPost_ret (v := .agg #[.slice A3 (i + 1 + (l.length - (i + 1))) c3]) (by simp [results, Try.results11, go_sem, hbox4]) rfl ⟨A3, c3, ?_, ?_, ?_⟩
  · rw [e1]
  · rw [e1, e2]
    have h1 := (hrd.set_below (a := ⟨w.heap.size + 1, 0, none⟩) (by simp; omega) (.slice A3 (i + 1 + (l.length - (i + 1))) c3)).mono hb2.size
    simpa using h1
  · exact (hb2.trans (hb3.mono hb2.size)).setCell (p := ⟨w.heap.size + 1, 0, none⟩) (by simp) _

set_option maxRecDepth 100000 in
set_option maxHeartbeats 400000 in
theorem put_none (l : Ps) (t : ByteArray) (v : Int) (A : Option Addr) (c : Nat) (w : World) (hn : l.length ≤ 1000) (hr : Rd w w.heap.size 2 A l.length c (flat l)) (hu : Up ltS l) (i : Nat) (hf : NoneAt ltS l t i) :
    Calls Try.prog 11 #[.agg #[.slice A l.length c], .string t, .int .i64 v] w (NewMap (l.take i ++ [(t, v)] ++ l.drop i) w) := by
  have hp := fun W hW => place_none l t A c W hn hW hu i hf
  have hil := hf.1.1
  obtain ⟨i0, hi0, hz0, hz1, hz2⟩ := info_parts info
  have hcut1 := fun W => run_cut_to (P := Try.prog) 24 60 2 Try.underlying24 hi0 hz1 A l.length c i (by have := hr.cap; omega) W
  have hcut2 := fun W => run_cut_from (P := Try.prog) 24 60 2 Try.underlying24 hi0 hz1 A l.length c i hil W
  have hR1 := Lib.hid (hr.to_ (j := i) (by omega))
  have hR2 := Lib.hid (hr.from_ (i := i) hil)
  generalize (if c = i then A else A.map (·.add (i * 2))) = A2 at hcut2 hR2
  have hR := Lib.hid hr
  have HP := Lib.hid hp
  clear hf hr hp hu
  go_enter Try.func11, Try.ntmps11
  go_wp2_with (go_at_call 28; refine (HP.out _ (((hR.out.alloc (Nat.le_refl _) _).alloc (by simp) _).more (by simp; omega))).mono ?_; rintro e w1 ⟨rfl, hb1⟩; (have hbox : w1.cell? ⟨w.heap.size, 0, none⟩ = some (.slice A l.length c) := (hb1.cell (p := ⟨w.heap.size, 0, none⟩) (by simp; omega)).trans (by go_simp)); (have hbox2 : w1.cell? ⟨w.heap.size + 1, 0, none⟩ = some (.slice none 0 0) := (hb1.cell (p := ⟨w.heap.size + 1, 0, none⟩) (by simp)).trans (by go_simp)); (have hfr2 : w1.frozen? ⟨w.heap.size + 1, 0, none⟩ = false := (hb1.frozen (p := ⟨w.heap.size + 1, 0, none⟩) (by simp)).trans (by go_simp)); (have hb2 : Below w.heap.size w w1 := (((Below.refl _ _).alloc (Nat.le_refl _) _).alloc (by simp) _).trans (hb1.mono (by simp; omega))); (have hz : w.heap.size + 2 ≤ w1.heap.size := (by have := hb1.size; simpa using this)))
  have hc3 := concat3 A A2 i c (l.length - i) (c - i) _ _ (.string t) (.int .i64 v) rfl rfl w1 ((hR1.out.below hb2).more hb2.size) ((hR2.out.below hb2).more hb2.size) (by omega)
  have HC3 := Lib.hid hc3
  clear hc3
  go_region_held3 (fun w' => w'.cell? ⟨w.heap.size, 0, none⟩ = some (.slice A l.length c)) (go_keep) (first | (go_at_call 29; refine HC3.out.mono ?_; rintro e w2 ⟨A3, c3, rfl, hrd, hb3⟩; (have hbox3 : w2.cell? ⟨w.heap.size, 0, none⟩ = some (.slice A l.length c) := (hb3.cell (p := ⟨w.heap.size, 0, none⟩) (by simp; omega)).trans hbox); (have hbox4 : w2.cell? ⟨w.heap.size + 1, 0, none⟩ = some (.slice none 0 0) := (hb3.cell (p := ⟨w.heap.size + 1, 0, none⟩) (by simp; omega)).trans hbox2); (have hfr4 : w2.frozen? ⟨w.heap.size + 1, 0, none⟩ = false := (hb3.frozen (p := ⟨w.heap.size + 1, 0, none⟩) (by simp; omega)).trans hfr2)))
  go_wp2
  have e1 : (l.take i ++ [(t, v)] ++ l.drop i).length = i + 1 + (l.length - i) := by simp; omega
  have e2 : flat (l.take i ++ [(t, v)] ++ l.drop i) = (flat l).take (i * 2) ++ [.string t, .int .i64 v] ++ (flat l).drop (i * 2) := by
    unfold flat; rw [flat2_append, flat2_append, flat2_take, flat2_drop]; rfl
  refine bodyPost_ret (v := .agg #[.slice A3 (i + 1 + (l.length - i)) c3]) (by simp [results, Try.results11, go_sem, hbox4]) rfl ⟨A3, c3, ?_, ?_, ?_⟩
  · rw [e1]
  · rw [e1, e2]
    have h1 := (hrd.set_below (a := ⟨w.heap.size + 1, 0, none⟩) (by simp; omega) (.slice A3 (i + 1 + (l.length - i)) c3)).mono hb2.size
    simpa using h1
  · exact (hb2.trans (hb3.mono hb2.size)).setCell (p := ⟨w.heap.size + 1, 0, none⟩) (by simp) _

set_option maxRecDepth 100000 in
set_option maxHeartbeats 400000 in
theorem del_found (l : Ps) (t : ByteArray) (A : Option Addr) (c : Nat) (w : World) (hn : l.length ≤ 1000) (hr : Rd w w.heap.size 2 A l.length c (flat l)) (hu : Up ltS l) (i : Nat) (hf : FoundAt ltS l t i) :
    Calls Try.prog 10 #[.agg #[.slice A l.length c], .string t] w (NewMap (l.take i ++ l.drop (i + 1)) w) := by
  have hp := fun W hW => place_found l t A c W hn hW hu i hf
  have hil := hf.2.1
  obtain ⟨i0, hi0, hz0, hz1, hz2⟩ := info_parts info
  have hcut1 := fun W => run_cut_to (P := Try.prog) 24 60 2 Try.underlying24 hi0 hz1 A l.length c i (by have := hr.cap; omega) W
  have hcut2 := fun W => run_cut_from (P := Try.prog) 24 60 2 Try.underlying24 hi0 hz1 A l.length c (i + 1) (by omega) W
  have hR1 := Lib.hid (hr.to_ (j := i) (by omega))
  have hR2 := Lib.hid (hr.from_ (i := i + 1) (by omega))
  generalize (if c = i + 1 then A else A.map (·.add ((i + 1) * 2))) = A2 at hcut2 hR2
  rw [Int.natCast_add, Int.natCast_one] at hcut2
  have hR := Lib.hid hr
  have HP := Lib.hid hp
  clear hf hr hp hu
  go_enter Try.func10, Try.ntmps10
  go_wp2_with (go_at_call 28; refine (HP.out _ (((hR.out.alloc (Nat.le_refl _) _).alloc (by simp) _).more (by simp; omega))).mono ?_; rintro e w1 ⟨rfl, hb1⟩; (have hbox : w1.cell? ⟨w.heap.size, 0, none⟩ = some (.slice A l.length c) := (hb1.cell (p := ⟨w.heap.size, 0, none⟩) (by simp; omega)).trans (by go_simp)); (have hbox2 : w1.cell? ⟨w.heap.size + 1, 0, none⟩ = some (.slice none 0 0) := (hb1.cell (p := ⟨w.heap.size + 1, 0, none⟩) (by simp)).trans (by go_simp)); (have hfr2 : w1.frozen? ⟨w.heap.size + 1, 0, none⟩ = false := (hb1.frozen (p := ⟨w.heap.size + 1, 0, none⟩) (by simp)).trans (by go_simp)); (have hb2 : Below w.heap.size w w1 := (((Below.refl _ _).alloc (Nat.le_refl _) _).alloc (by simp) _).trans (hb1.mono (by simp; omega))); (have hz : w.heap.size + 2 ≤ w1.heap.size := (by have := hb1.size; simpa using this)))
  have hc3 := concat2 A A2 i c (l.length - (i + 1)) (c - (i + 1)) _ _ w1 ((hR1.out.below hb2).more hb2.size) ((hR2.out.below hb2).more hb2.size) (by omega)
  have HC3 := Lib.hid hc3
  clear hc3
  go_region_held3 (fun w' => w'.cell? ⟨w.heap.size, 0, none⟩ = some (.slice A l.length c)) (go_keep) (first | (go_at_call 29; refine HC3.out.mono ?_; rintro e w2 ⟨A3, c3, rfl, hrd, hb3⟩; (have hbox3 : w2.cell? ⟨w.heap.size, 0, none⟩ = some (.slice A l.length c) := (hb3.cell (p := ⟨w.heap.size, 0, none⟩) (by simp; omega)).trans hbox); (have hbox4 : w2.cell? ⟨w.heap.size + 1, 0, none⟩ = some (.slice none 0 0) := (hb3.cell (p := ⟨w.heap.size + 1, 0, none⟩) (by simp; omega)).trans hbox2); (have hfr4 : w2.frozen? ⟨w.heap.size + 1, 0, none⟩ = false := (hb3.frozen (p := ⟨w.heap.size + 1, 0, none⟩) (by simp; omega)).trans hfr2)))
  go_wp2
  have e1 : (l.take i ++ l.drop (i + 1)).length = i + (l.length - (i + 1)) := by simp; omega
  have e2 : flat (l.take i ++ l.drop (i + 1)) = (flat l).take (i * 2) ++ (flat l).drop ((i + 1) * 2) := by
    unfold flat; rw [flat2_append, flat2_take, flat2_drop]
  refine bodyPost_ret (v := .agg #[.slice A3 (i + (l.length - (i + 1))) c3]) (by simp [results, Try.results10, go_sem, hbox4]) rfl ⟨A3, c3, ?_, ?_, ?_⟩
  · rw [e1]
  · rw [e1, e2]
    have h1 := (hrd.set_below (a := ⟨w.heap.size + 1, 0, none⟩) (by simp; omega) (.slice A3 (i + (l.length - (i + 1))) c3)).mono hb2.size
    simpa using h1
  · exact (hb2.trans (hb3.mono hb2.size)).setCell (p := ⟨w.heap.size + 1, 0, none⟩) (by simp) _

set_option maxRecDepth 100000 in
set_option maxHeartbeats 400000 in
theorem del_none (l : Ps) (t : ByteArray) (A : Option Addr) (c : Nat) (w : World) (hn : l.length ≤ 1000) (hr : Rd w w.heap.size 2 A l.length c (flat l)) (hu : Up ltS l) (i : Nat) (hf : NoneAt ltS l t i) :
    Calls Try.prog 10 #[.agg #[.slice A l.length c], .string t] w (NewMap (l.take i ++ l.drop i) w) := by
  have hp := fun W hW => place_none l t A c W hn hW hu i hf
  have hil := hf.1.1
  obtain ⟨i0, hi0, hz0, hz1, hz2⟩ := info_parts info
  have hcut1 := fun W => run_cut_to (P := Try.prog) 24 60 2 Try.underlying24 hi0 hz1 A l.length c i (by have := hr.cap; omega) W
  have hcut2 := fun W => run_cut_from (P := Try.prog) 24 60 2 Try.underlying24 hi0 hz1 A l.length c i hil W
  have hR1 := Lib.hid (hr.to_ (j := i) (by omega))
  have hR2 := Lib.hid (hr.from_ (i := i) hil)
  generalize (if c = i then A else A.map (·.add (i * 2))) = A2 at hcut2 hR2
  have hR := Lib.hid hr
  have HP := Lib.hid hp
  clear hf hr hp hu
  go_enter Try.func10, Try.ntmps10
  go_wp2_with (go_at_call 28; refine (HP.out _ (((hR.out.alloc (Nat.le_refl _) _).alloc (by simp) _).more (by simp; omega))).mono ?_; rintro e w1 ⟨rfl, hb1⟩; (have hbox : w1.cell? ⟨w.heap.size, 0, none⟩ = some (.slice A l.length c) := (hb1.cell (p := ⟨w.heap.size, 0, none⟩) (by simp; omega)).trans (by go_simp)); (have hbox2 : w1.cell? ⟨w.heap.size + 1, 0, none⟩ = some (.slice none 0 0) := (hb1.cell (p := ⟨w.heap.size + 1, 0, none⟩) (by simp)).trans (by go_simp)); (have hfr2 : w1.frozen? ⟨w.heap.size + 1, 0, none⟩ = false := (hb1.frozen (p := ⟨w.heap.size + 1, 0, none⟩) (by simp)).trans (by go_simp)); (have hb2 : Below w.heap.size w w1 := (((Below.refl _ _).alloc (Nat.le_refl _) _).alloc (by simp) _).trans (hb1.mono (by simp; omega))); (have hz : w.heap.size + 2 ≤ w1.heap.size := (by have := hb1.size; simpa using this)))
  have hc3 := concat2 A A2 i c (l.length - i) (c - i) _ _ w1 ((hR1.out.below hb2).more hb2.size) ((hR2.out.below hb2).more hb2.size) (by omega)
  have HC3 := Lib.hid hc3
  clear hc3
  go_region_held3 (fun w' => w'.cell? ⟨w.heap.size, 0, none⟩ = some (.slice A l.length c)) (go_keep) (first | (go_at_call 29; refine HC3.out.mono ?_; rintro e w2 ⟨A3, c3, rfl, hrd, hb3⟩; (have hbox3 : w2.cell? ⟨w.heap.size, 0, none⟩ = some (.slice A l.length c) := (hb3.cell (p := ⟨w.heap.size, 0, none⟩) (by simp; omega)).trans hbox); (have hbox4 : w2.cell? ⟨w.heap.size + 1, 0, none⟩ = some (.slice none 0 0) := (hb3.cell (p := ⟨w.heap.size + 1, 0, none⟩) (by simp; omega)).trans hbox2); (have hfr4 : w2.frozen? ⟨w.heap.size + 1, 0, none⟩ = false := (hb3.frozen (p := ⟨w.heap.size + 1, 0, none⟩) (by simp; omega)).trans hfr2)))
  rw [show i + (l.length - i) = l.length by omega] at hrd
  go_wp2
  have e1 : (l.take i ++ l.drop i).length = l.length := by simp
  have e2 : flat (l.take i ++ l.drop i) = (flat l).take (i * 2) ++ (flat l).drop (i * 2) := by
    unfold flat; rw [flat2_append, flat2_take, flat2_drop]
  refine bodyPost_ret (v := .agg #[.slice A3 l.length c3]) (by simp [results, Try.results10, go_sem, hbox4]) rfl ⟨A3, c3, ?_, ?_, ?_⟩
  · rw [e1]
  · rw [e1, e2]
    have h1 := (hrd.set_below (a := ⟨w.heap.size + 1, 0, none⟩) (by simp; omega) (.slice A3 l.length c3)).mono hb2.size
    simpa using h1
  · exact (hb2.trans (hb3.mono hb2.size)).setCell (p := ⟨w.heap.size + 1, 0, none⟩) (by simp) _

end SortS
end Go.Proofs.Ytolfockpiioncaa
