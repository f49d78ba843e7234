/- The least one of dots that are right. -/
import Derived.Test.YtoefbljmagphkaaDot
import Derived.Test.YtoefbljmagphkaaDotArgs
import Derived.Test.YtoefbljmagphkaaKept
namespace Go.Proofs.Ytoefbljmagphkaa
open Go.ChangeShapes Go.WideShapes Go.ChangeAt Go.RowKit
namespace Dt
/-- one more dot beside the least one so far -/
def lstep (acc : Option (Int × Int)) (d : Int × Int) : Option (Int × Int) :=
  if rightB d.1 d.2 = true then
    match acc with
    | none => some d
    | some e => if cmpI d.1 d.2 e.1 e.2 < 0 then some d else some e
  else acc
def least (l : List (Int × Int)) : Option (Int × Int) := l.foldl lstep none
theorem least_snoc (l : List (Int × Int)) (d : Int × Int) : least (l ++ [d]) = lstep (least l) d := by unfold least; rw [List.foldl_append]; rfl
theorem lstep_no {acc : Option (Int × Int)} {d : Int × Int} (h : rightB d.1 d.2 = false) : lstep acc d = acc := by unfold lstep; rw [h]; rfl
theorem lstep_first {d : Int × Int} (h : rightB d.1 d.2 = true) : lstep none d = some d := by unfold lstep; rw [h]; rfl
theorem lstep_less {e d : Int × Int} (h : rightB d.1 d.2 = true) (hc : cmpI d.1 d.2 e.1 e.2 < 0) : lstep (some e) d = some d := by unfold lstep; rw [h]; simp [hc]
theorem lstep_more {e d : Int × Int} (h : rightB d.1 d.2 = true) (hc : ¬ cmpI d.1 d.2 e.1 e.2 < 0) : lstep (some e) d = some e := by unfold lstep; rw [h]; simp [hc]
theorem cmpI_neg {a n b m : Int} : cmpI a n b m < 0 ↔ (a < b ∨ (a = b ∧ n < m)) := by
  unfold cmpI
  split
  · rename_i h; exact ⟨fun _ => h, fun _ => by omega⟩
  · rename_i h; split <;> exact ⟨fun h2 => by omega, fun h2 => absurd h2 h⟩
/-- what the least one is -/
structure LeastIs (l : List (Int × Int)) (d : Int × Int) : Prop where
  mem : d ∈ l
  right : rightB d.1 d.2 = true
  le : ∀ e ∈ l, rightB e.1 e.2 = true → ¬ (e.1 < d.1 ∨ (e.1 = d.1 ∧ e.2 < d.2))
theorem least_spec (l : List (Int × Int)) : match least l with
    | none => ∀ e ∈ l, rightB e.1 e.2 = false
    | some d => LeastIs l d := by
  have key : ∀ k, k ≤ l.length → match least (l.take k) with
    | none => ∀ e ∈ l.take k, rightB e.1 e.2 = false
    | some d => LeastIs (l.take k) d := by
    intro k
    induction k with
    | zero => intro _; simp [least]
    | succ k ih =>
      intro hk
      have ih := ih (by omega)
      rw [List.take_succ_eq_append_getElem (by omega), least_snoc]
      obtain ⟨d, hd⟩ : ∃ d, d = l[k] := ⟨_, rfl⟩
      rw [← hd]
      cases hr : rightB d.1 d.2 with
      | false =>
        rw [lstep_no hr]
        cases hl : least (l.take k) with
        | none =>
          rw [hl] at ih
          intro e he
          rcases List.mem_append.1 he with he | he
          · exact ih e he
          · rw [List.mem_singleton.1 he]; exact hr
        | some e =>
          rw [hl] at ih
          refine ⟨List.mem_append_left _ ih.mem, ih.right, fun f hf hfr => ?_⟩
          rcases List.mem_append.1 hf with hf | hf
          · exact ih.le f hf hfr
          · rw [List.mem_singleton.1 hf] at hfr; rw [hr] at hfr; cases hfr
      | true =>
        cases hl : least (l.take k) with
        | none =>
          rw [hl] at ih
          rw [lstep_first hr]
          refine ⟨by simp, hr, fun f hf hfr => ?_⟩
          rcases List.mem_append.1 hf with hf | hf
          · rw [ih f hf] at hfr; cases hfr
          · rw [List.mem_singleton.1 hf]; omega
        | some e =>
          rw [hl] at ih
          by_cases hc : cmpI d.1 d.2 e.1 e.2 < 0
          · rw [lstep_less hr hc]
            have hc' := cmpI_neg.1 hc
            refine ⟨by simp, hr, fun f hf hfr => ?_⟩
            rcases List.mem_append.1 hf with hf | hf
            · have := ih.le f hf hfr; omega
            · rw [List.mem_singleton.1 hf]; omega
          · rw [lstep_more hr hc]
            have hc' := fun h => hc (cmpI_neg.2 h)
            refine ⟨List.mem_append_left _ ih.mem, ih.right, fun f hf hfr => ?_⟩
            rcases List.mem_append.1 hf with hf | hf
            · exact ih.le f hf hfr
            · rw [List.mem_singleton.1 hf]; exact hc'
  have := key l.length (Nat.le_refl _)
  rwa [List.take_of_length_le (Nat.le_refl _)] at this
theorem cells_at (l : List (Int × Int)) (k : Nat) (h : k < l.length) : (l.flatMap dotC)[k * 2]? = some (.int .i64 l[k].1) ∧ (l.flatMap dotC)[k * 2 + 1]? = some (.int .i64 l[k].2) := by
  induction l generalizing k with
  | nil => simp at h
  | cons d l ih =>
    cases k with
    | zero => simp [dotC]
    | succ k =>
      have := ih k (by simpa using h)
      rw [List.flatMap_cons, show (k + 1) * 2 = (k * 2 + 1) + 1 from by omega]
      simp only [dotC, List.cons_append, List.nil_append, List.getElem?_cons_succ, List.getElem_cons_succ]
      exact this
/-- the least one, or nothing -/
def lD (o : Option (Int × Int)) : Int × Int := o.getD (0, 0)
/-- the least one is laid anew -/
theorem kept_store {w wr : World} {g : Nat} {x y x' y' : Int} {l : List (Addr × Value)} (hg : w.heap.size ≤ g) (hf : Free g wr) (hk : Kept ((⟨g, 0, none⟩, .int .i64 x) :: (⟨g, 1, none⟩, .int .i64 y) :: l) w wr) (hl : ∀ p ∈ l, p.1.block ≠ g) :
    Kept ((⟨g, 0, none⟩, .int .i64 x') :: (⟨g, 1, none⟩, .int .i64 y') :: l) w ((wr.setCell ⟨g, 0, none⟩ (.int .i64 x')).setCell ⟨g, 1, none⟩ (.int .i64 y')) := by
  have k0 := hk.c0
  have k1 := hk.c1
  have m0 := hf.2 0
  have m1 := hf.2 1
  exact (((hk.tail.tail.set (a := ⟨g, 0, none⟩) hg (fun p hp => hl p hp) _).set (a := ⟨g, 1, none⟩) hg (fun p hp => hl p hp) _).cons_of (by go_simp)).cons_of (by go_simp)
set_option maxRecDepth 100000 in
set_option maxHeartbeats 1000000 in
theorem least_any (l : List (Int × Int)) (n : Nat) (A : Option Addr) (c : Nat) (w : World) (hl : l.length = n) (hn : n ≤ 1000000) (hr : Rd w w.heap.size 2 A n c (l.flatMap dotC)) :
    Calls Try.prog 14 #[.slice A n c] w fun e w' => e = .returned (.tuple #[.agg #[.int .i64 (lD (least l)).1, .int .i64 (lD (least l)).2], .bool (least l).isSome]) ∧ Below w.heap.size w w' := by
  obtain ⟨g, hg⟩ : ∃ g, g = w.heap.size := ⟨_, rfl⟩
  have HR := Lib.hid hr
  have HL := Lib.hid hl
  have HG := Lib.hid hg
  clear hr hl hg
  go_enter Try.func14, Try.ntmps14
  go_wp2
  rw [← HG.out]
  go_loopw [5, 10] (fun h i wr => ∃ (k : Nat) (acc : Option (Int × Int)) (x y : Int), k ≤ n ∧ i = .int .i64 k ∧ h = .bool acc.isSome ∧ Hid (acc = least (l.take k) ∧ lD acc = (x, y)) ∧ Hid (Free g wr) ∧ Hid (Free (g + 1) wr) ∧ Hid (Kept [(⟨g + 1, 0, none⟩, .int .i64 x), (⟨g + 1, 1, none⟩, .int .i64 y), (⟨g, 0, none⟩, .int .i64 0), (⟨g, 1, none⟩, .int .i64 0)] w wr)) (fun _ i _ => n - (intOf i).toNat)
  case atStart => exact ⟨0, none, 0, 0, by omega, rfl, rfl, ⟨rfl, rfl⟩, ⟨by rw [HG.out]; simp; omega, fun j => by rw [HG.out]; go_simp⟩, ⟨by rw [HG.out]; simp, fun j => by rw [HG.out]; go_simp⟩, by rw [HG.out]; exact ((((((Kept.nil w).alloc _).alloc _).cons_of (by go_simp)).cons_of (by go_simp)).cons_of (by go_simp)).cons_of (by go_simp)⟩
  case round =>
    obtain ⟨k, acc, x, y, hk, rfl, rfl, HA, HF0, HF1, HK⟩ := hrel
    by_cases hlt : k < n
    · have hkl : k < l.length := by rw [HL.out]; exact hlt
      obtain ⟨b, o, rfl, hbl, hc⟩ := HR.out.at_ (by omega)
      obtain ⟨q0, q1⟩ := cells_at l k hkl
      obtain ⟨p, hp⟩ : ∃ p, p = l[k] := ⟨_, rfl⟩
      rw [← hp] at q0 q1
      obtain ⟨x', y'⟩ := p
      have q0 := (HK.out.below.cell (p := ⟨b, o + k * 2, none⟩) hbl).trans (hc _ _ q0)
      have q1 := (HK.out.below.cell (p := ⟨b, o + k * 2 + 1, none⟩) hbl).trans (hc _ _ q1)
      obtain ⟨W, hW⟩ : ∃ W, W = wr.alloc (.cells #[.int .i64 x', .int .i64 y'] 23) := ⟨_, rfl⟩
      obtain ⟨h, hh⟩ : ∃ h, h = wr.heap.size := ⟨_, rfl⟩
      have HK1 : Hid (Kept [(⟨h, 0, none⟩, .int .i64 x'), (⟨h, 1, none⟩, .int .i64 y'), (⟨g + 1, 0, none⟩, .int .i64 x), (⟨g + 1, 1, none⟩, .int .i64 y), (⟨g, 0, none⟩, .int .i64 0), (⟨g, 1, none⟩, .int .i64 0)] w W) := by
        rw [hW, hh]
        exact ((HK.out.alloc _).cons_of (by go_simp)).cons_of (by go_simp)
      have HG0 : Hid (Free g W) := by rw [hW]; exact HF0.out.alloc _
      have HG1 : Hid (Free (g + 1) W) := by rw [hW]; exact HF1.out.alloc _
      have hT : Hid (least (l.take (k + 1)) = lstep acc (x', y')) := by
        unfold Hid
        rw [List.take_succ_eq_append_getElem hkl, least_snoc, ← HA.out.1, ← hp]
      have HW := Lib.hid hW
      have HH := Lib.hid hh
      clear hc hp hW hh HF0 HF1 HK
      cases hrb : rightB x' y' with
      | false =>
        have HRT : Hid (Calls Try.prog 9 #[.agg #[.int .i64 x', .int .i64 y']] W fun e w' => e = .returned (.bool false) ∧ Below W.heap.size W w') := by have := right_any x' y' W; rwa [hrb] at this
        rw [lstep_no hrb] at hT
        clear hrb
        go_wp2_with fail
        rw [← HW.out, ← HH.out]
        clear q0 q1
        refine HRT.out.mono ?_
        rintro e w2 ⟨rfl, hb2⟩
        have HB2 := Lib.hid hb2
        clear hb2
        go_wp2
        go_roundw
        case rel => exact ⟨k + 1, acc, x, y, by omega, by go_num, rfl, ⟨hT.out.symm, HA.out.2⟩, HG0.out.later HB2.out, HG1.out.later HB2.out, HK1.out.tail.tail.later HB2.out⟩
        case measure => simp [intOf]; omega
      | true =>
        have HRT : Hid (Calls Try.prog 9 #[.agg #[.int .i64 x', .int .i64 y']] W fun e w' => e = .returned (.bool true) ∧ Below W.heap.size W w') := by have := right_any x' y' W; rwa [hrb] at this
        cases acc with
        | none =>
          rw [lstep_first hrb] at hT
          clear hrb
          go_wp2_with fail
          rw [← HW.out, ← HH.out]
          clear q0 q1
          refine HRT.out.mono ?_
          rintro e w2 ⟨rfl, hb2⟩
          have HK2 := Lib.hid (HK1.out.later hb2)
          have HG02 := Lib.hid (HG0.out.later hb2)
          have HG12 := Lib.hid (HG1.out.later hb2)
          have k0 := HK2.out.c0; have k1 := HK2.out.c1; have k2 := HK2.out.c2; have k3 := HK2.out.c3
          have m0 := HG12.out.2 0; have m1 := HG12.out.2 1
          clear hb2
          go_wp2
          go_roundw
          case rel => exact ⟨k + 1, some (x', y'), x', y', by omega, by go_num, rfl, ⟨hT.out.symm, rfl⟩, (HG02.out.set _ _).set _ _, (HG12.out.set _ _).set _ _, kept_store (by rw [HG.out]; omega) HG12.out HK2.out.tail.tail (by simp)⟩
          case measure => simp [intOf]; omega
        | some e =>
          obtain ⟨ex, ey⟩ := e
          have hxy : (ex, ey) = (x, y) := HA.out.2
          obtain ⟨rfl, rfl⟩ := Prod.mk.inj hxy
          have HC := fun W => Lib.hid (compare_any x' y' ex ey W)
          obtain ⟨z, hz⟩ : ∃ z, z = cmpI x' y' ex ey := ⟨_, rfl⟩
          rw [← hz] at HC
          by_cases hc : z < 0
          · have f1 : decide (z < 0) = true := by simpa using hc
            rw [lstep_less hrb (by rw [hz] at hc; exact hc)] at hT
            clear hrb hz hc hxy
            go_wp2_with fail
            rw [← HW.out, ← HH.out]
            clear q0 q1
            refine HRT.out.mono ?_
            rintro e w2 ⟨rfl, hb2⟩
            have HK2 := Lib.hid (HK1.out.later hb2)
            have HG02 := Lib.hid (HG0.out.later hb2)
            have HG12 := Lib.hid (HG1.out.later hb2)
            have k0 := HK2.out.c0; have k1 := HK2.out.c1; have k2 := HK2.out.c2; have k3 := HK2.out.c3
            clear hb2
            go_wp2_with fail
            refine (HC _).out.mono ?_
            rintro e w3 ⟨rfl, hb3⟩
            have HK3 := Lib.hid (HK2.out.later hb3)
            have HG03 := Lib.hid (HG02.out.later hb3)
            have HG13 := Lib.hid (HG12.out.later hb3)
            have k0 := HK3.out.c0; have k1 := HK3.out.c1; have k2 := HK3.out.c2; have k3 := HK3.out.c3
            have m0 := HG13.out.2 0; have m1 := HG13.out.2 1
            clear hb3
            go_wp2
            go_roundw
            case rel => exact ⟨k + 1, some (x', y'), x', y', by omega, by go_num, rfl, ⟨hT.out.symm, rfl⟩, (HG03.out.set _ _).set _ _, (HG13.out.set _ _).set _ _, kept_store (by rw [HG.out]; omega) HG13.out HK3.out.tail.tail (by simp)⟩
            case measure => simp [intOf]; omega
          · have f1 : decide (z < 0) = false := by simpa using hc
            rw [lstep_more hrb (by rw [hz] at hc; exact hc)] at hT
            clear hrb hz hc hxy
            go_wp2_with fail
            rw [← HW.out, ← HH.out]
            clear q0 q1
            refine HRT.out.mono ?_
            rintro e w2 ⟨rfl, hb2⟩
            have HK2 := Lib.hid (HK1.out.later hb2)
            have HG02 := Lib.hid (HG0.out.later hb2)
            have HG12 := Lib.hid (HG1.out.later hb2)
            have k0 := HK2.out.c0; have k1 := HK2.out.c1; have k2 := HK2.out.c2; have k3 := HK2.out.c3
            clear hb2
            go_wp2_with fail
            refine (HC _).out.mono ?_
            rintro e w3 ⟨rfl, hb3⟩
            have HK3 := Lib.hid (HK2.out.later hb3)
            have HG03 := Lib.hid (HG02.out.later hb3)
            have HG13 := Lib.hid (HG12.out.later hb3)
            clear hb3
            go_wp2
            go_roundw
            case rel => exact ⟨k + 1, some (ex, ey), ex, ey, by omega, by go_num, rfl, ⟨hT.out.symm, rfl⟩, HG03.out, HG13.out, HK3.out.tail.tail⟩
            case measure => simp [intOf]; omega
    · have hkn : l.take k = l := List.take_of_length_le (by rw [HL.out]; omega)
      have hA := HA.out
      rw [hkn] at hA
      have HE := Lib.hid hA
      have k0 := HK.out.c0; have k1 := HK.out.c1; have k2 := HK.out.c2; have k3 := HK.out.c3
      have m0 := HF0.out.2 0; have m1 := HF0.out.2 1
      obtain ⟨s, hs⟩ : ∃ s, s = acc.isSome := ⟨_, rfl⟩
      rw [← hs]
      have HS := Lib.hid hs
      clear hA hkn HA hs
      go_wp2
      have j0 : (wr.setCell ⟨g, 0, none⟩ (.int .i64 x)).cell? ⟨g, 0, none⟩ = some (.int .i64 x) := by go_simp
      have j1 : ((wr.setCell ⟨g, 0, none⟩ (.int .i64 x)).setCell ⟨g, 1, none⟩ (.int .i64 y)).cell? ⟨g, 1, none⟩ = some (.int .i64 y) := by go_simp
      refine bodyPost_ret (v := .tuple #[.agg #[.int .i64 x, .int .i64 y], .bool s]) (by simp [results, Try.results14, go_sem, j0, j1]) rfl ⟨?_, ?_⟩
      · rw [← HE.out.1, HE.out.2, HS.out]
      · exact (HK.out.below.setCell (by rw [HG.out]; exact Nat.le_refl _) _).setCell (by rw [HG.out]; exact Nat.le_refl _) _
end Dt
end Go.Proofs.Ytoefbljmagphkaa
