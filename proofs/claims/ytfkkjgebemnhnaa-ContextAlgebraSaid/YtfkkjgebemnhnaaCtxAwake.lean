/- The laws' first question of layer 7; are these right contexts of few spans? -/
import Derived.Test.YtfkkjgebemnhnaaCtxOf
import Derived.Test.YtfkkjgebemnhnaaCtxSame
import Derived.Test.YtfkkjgebemnhnaaCtxRef2
namespace Go.Proofs.Ytfkkjgebemnhnaa
open Go.ChangeShapes Go.WideShapes Go.ChangeAt Go.RowKit
namespace Cx
open Sp Rw
theorem awakeIs : OfC [(1, 5), (0, 2), (0, 1)] [(0, 1, 2), (1, 5, 5)] := by
  refine ⟨⟨by simp [RiseC], fun d hd => ?_⟩, fun d n hd => ?_⟩
  · rcases cen_cases hd with rfl | rfl | rfl | rfl <;> decide
  · rcases cen_cases hd with rfl | rfl | rfl | rfl <;> simp [hasC, part, hasB] <;> omega
theorem awakeGood : goodD [(1, 5), (0, 2), (0, 1)] := by
  intro x hx
  simp at hx
  rcases hx with rfl | rfl | rfl <;> decide
/-- a new row of cells reads as it lies -/
theorem rd_row (w : World) (t : TypeId) (sz n : Nat) (xs : List Value) (hn : xs.length = n * sz) (h1 : ∀ u ∈ xs, u.oneCell' = true) : Rd (w.alloc (.cells xs.toArray t)) (w.alloc (.cells xs.toArray t)).heap.size sz (some ⟨w.heap.size, 0, none⟩) n n xs :=
  ⟨hn, Nat.le_refl _, h1, fun _ => ⟨_, _, rfl, by simp, fun j u hu => by
    rw [Nat.zero_add, cell_of_row _ _ j _ _ (0, 0) (heap_alloc_new _ _)]
    simpa using hu⟩⟩
set_option maxRecDepth 100000 in
set_option maxHeartbeats 1000000 in
theorem awake_any (w : World) : Calls Try.prog 12 #[] w fun e w' => e = .returned (.bool true) ∧ Below w.heap.size w w' := by
  obtain ⟨W1, hW1⟩ : ∃ W1, W1 = w.alloc (.cells #[.int .i64 1, .int .i64 5, .int .i64 0, .int .i64 2, .int .i64 0, .int .i64 1] 41) := ⟨_, rfl⟩
  have hr : Rd W1 W1.heap.size 2 (some ⟨w.heap.size, 0, none⟩) 3 3 (([(1, 5), (0, 2), (0, 1)] : List (Int × Int)).flatMap dotC) := by
    rw [hW1]
    exact rd_row w _ 2 3 _ rfl (by intro u hu; simp at hu; rcases hu with rfl | rfl | rfl | rfl | rfl | rfl <;> rfl)
  have hb1 : Below w.heap.size w W1 := by rw [hW1]; exact Dt.box_below _ _ _
  have HC : Hid (Calls Try.prog 23 #[.slice (some ⟨w.heap.size, 0, none⟩) 3 3] W1 fun e w' => ∃ A c, e = .returned (.tuple #[.slice A 2 c, .int .i64 0]) ∧ Hid (Rd w' w'.heap.size 3 A 2 c (spsC [(0, 1, 2), (1, 5, 5)])) ∧ Below w.heap.size w w') := by
    refine (ofC_any _ 3 _ 3 W1 rfl (by omega) hr).mono ?_
    rintro e w2 (⟨_, u, q, A, c, rfl, hq, hu, _, ho, hb⟩ | ⟨hx, _⟩)
    · have : u = [(0, 1, 2), (1, 5, 5)] := hu.out.eq awakeIs
      subst this
      have hq := hq.out
      simp at hq
      subst hq
      exact ⟨A, c, rfl, ho, hb1.trans (hb.mono hb1.size)⟩
    · exact absurd awakeGood hx
  have HW1 := Lib.hid hW1
  clear hr hb1 hW1
  go_enter Try.func12, Try.ntmps12
  go_wp2_with fail
  rw [← HW1.out]
  refine HC.out.mono ?_
  rintro e w2 ⟨A2, c2, rfl, HR2, hb2⟩
  have hr3 := rd_row w2 46 3 2 (spsC [(0, 1, 2), (1, 5, 5)]) rfl (by intro u hu; obtain ⟨s, _, hu⟩ := List.mem_flatMap.1 hu; exact spC_one s u hu)
  have hr2 := HR2.out.later (Dt.box_below w2 (spsC [(0, 1, 2), (1, 5, 5)]).toArray 46)
  have HS := Lib.hid (refsameC_any [(0, 1, 2), (1, 5, 5)] [(0, 1, 2), (1, 5, 5)] 2 2 A2 (some ⟨w2.heap.size, 0, none⟩) c2 2 _ rfl rfl (by omega) hr2 hr3 true (by decide))
  have HB3 := Lib.hid (hb2.alloc hb2.size (.cells (spsC [(0, 1, 2), (1, 5, 5)]).toArray 46))
  clear hr2 hr3 hb2 HC
  go_wp2_with (go_at_call 21; refine HS.out.mono ?_; rintro e w3 ⟨rfl, hb3⟩)
  go_ret
  exact ⟨rfl, HB3.out.trans (hb3.mono HB3.out.size)⟩
/-- a context that came in: its value, its spans -/
structure CP where
  A : Option Addr
  n : Nat
  c : Nat
  l : List S3
noncomputable def CP.ok (p : CP) : Bool := decide (p.n ≤ 40) && rightCB p.l
set_option maxRecDepth 100000 in
set_option maxHeartbeats 1000000 in
theorem rights_any (ps : List CP) (n : Nat) (b : Nat) (w : World) (hn : ps.length = n) (hn10 : n ≤ 10) (hlt : b < w.heap.size) (hc : ∀ (k : Nat) (h : k < ps.length), w.cell? ⟨b, k, none⟩ = some (.slice ps[k].A ps[k].n ps[k].c)) (hr : ∀ p ∈ ps, p.l.length = p.n ∧ Rd w w.heap.size 3 p.A p.n p.c (spsC p.l)) (z : Bool) (hz : z = ps.all CP.ok) :
    Calls Try.prog 32 #[.slice (some ⟨b, 0, none⟩) n n] w fun e w' => e = .returned (.bool z) ∧ Below w.heap.size w w' := by
  have HZ := Lib.hid hz
  have HN := Lib.hid hn
  have HC := Lib.hid hc
  have HR := Lib.hid hr
  clear hz hn hc hr
  go_enter Try.func32, Try.ntmps32
  go_wp2
  go_loopw [6] (fun i wr => ∃ (k : Nat), k ≤ n ∧ i = .int .i64 k ∧ Hid (∀ p ∈ ps.take k, CP.ok p = true) ∧ Hid (Below w.heap.size w wr)) (fun i _ => n - (intOf i).toNat)
  case atStart => exact ⟨0, by omega, rfl, Lib.hid (by simp), Below.refl _ _⟩
  case round =>
    obtain ⟨k, hk, rfl, HG, HB⟩ := hrel
    by_cases hlk : k < n
    · have hkl : k < ps.length := by rw [HN.out]; exact hlk
      have q0 := (HB.out.cell (p := ⟨b, k, none⟩) hlt).trans (HC.out k hkl)
      obtain ⟨hpl, hpr⟩ := HR.out ps[k] (List.getElem_mem hkl)
      have hpr := (hpr.below HB.out).more HB.out.size
      have htk : ps.take (k + 1) = ps.take k ++ [ps[k]] := List.take_succ_eq_append_getElem hkl
      obtain ⟨p, hp⟩ : ∃ p, p = ps[k] := ⟨_, rfl⟩
      have hmem : p ∈ ps := by rw [hp]; exact List.getElem_mem hkl
      rw [← hp] at q0 hpl hpr htk
      obtain ⟨A, m, c, l⟩ := p
      dsimp only at q0 hpl hpr
      by_cases h40 : m ≤ 40
      · have f1 : decide ((40 : Int) < m) = false := decide_eq_false (by omega)
        cases hrb : rightCB l with
        | true =>
          have HRT := Lib.hid (refrightC_any l m A c wr hpl (by omega) hpr true hrb)
          have HG2 : Hid (∀ p ∈ ps.take (k + 1), CP.ok p = true) := fun p h => by
            rw [htk] at h
            rcases List.mem_append.1 h with h | h
            · exact HG.out p h
            · rw [List.mem_singleton.1 h]; simp [CP.ok, h40, hrb]
          clear hpl hpr htk hp hmem hrb
          go_wp2_with (go_at_call 14; refine HRT.out.mono ?_; rintro e w1 ⟨rfl, hb1⟩; have HB1 := Lib.hid (HB.out.trans (hb1.mono HB.out.size)); clear hb1)
          go_roundw
          case rel => exact ⟨k + 1, by omega, by go_num, HG2.out, HB1.out⟩
          case measure => simp [intOf]; omega
        | false =>
          have HRT := Lib.hid (refrightC_any l m A c wr hpl (by omega) hpr false hrb)
          have HE : Hid (false = z) := by
            unfold Hid
            rw [HZ.out]
            symm
            rw [List.all_eq_false]
            exact ⟨_, hmem, by simp [CP.ok, hrb]⟩
          clear hpl hpr htk hp hmem hrb
          go_wp2_with (go_at_call 14; refine HRT.out.mono ?_; rintro e w1 ⟨rfl, hb1⟩; have HB1 := Lib.hid (HB.out.trans (hb1.mono HB.out.size)); clear hb1)
          go_ret
          exact ⟨ret_bool HE.out, HB1.out⟩
      · have f1 : decide ((40 : Int) < m) = true := decide_eq_true (by omega)
        have HE : Hid (false = z) := by
          unfold Hid
          rw [HZ.out]
          symm
          rw [List.all_eq_false]
          exact ⟨_, hmem, by simp [CP.ok, h40]⟩
        clear hpl hpr htk hp hmem
        go_wp2
        go_ret
        exact ⟨ret_bool HE.out, HB.out⟩
    · have HE : Hid (true = z) := by
        unfold Hid
        rw [HZ.out]
        symm
        rw [List.all_eq_true]
        have := HG.out
        rwa [List.take_of_length_le (by rw [HN.out]; omega)] at this
      go_wp2
      go_ret
      exact ⟨ret_bool HE.out, HB.out⟩
theorem rights_to (ps : List CP) (cs : Array Value) (n : Nat) (w : World) (hcs : cs.toList = ps.map fun p => .slice p.A p.n p.c) (hn : ps.length = n) (hn10 : n ≤ 10) (hr : ∀ p ∈ ps, p.l.length = p.n ∧ Rd w w.heap.size 3 p.A p.n p.c (spsC p.l)) (z : Bool) (hz : ps.all CP.ok = z) :
    Calls Try.prog 32 #[.slice (some ⟨w.heap.size, 0, none⟩) n n] (w.alloc (.cells cs 23)) fun e w' => e = .returned (.bool z) ∧ Below w.heap.size w w' := by
  refine (rights_any ps n w.heap.size (w.alloc (.cells cs 23)) hn hn10 (by simp) (fun k hk => ?_) (fun p hp => ⟨(hr p hp).1, ((hr p hp).2.alloc (Nat.le_refl _) _).more (by simp)⟩) z hz.symm).mono fun e w' ⟨he, hb⟩ => ⟨he, ((Below.refl w.heap.size w).alloc (Nat.le_refl _) _).trans (hb.mono (by simp))⟩
  rw [cell_of_row _ _ k _ _ (0, 0) (heap_alloc_new _ _), ← Array.getElem?_toList, hcs]
  simp [hk]
end Cx
end Go.Proofs.Ytfkkjgebemnhnaa
