/- Sets of dots, the program's: is it right, solid; its vector, how many there are. -/
import Derived.Test.YtfkkjgebemnhnaaCtx1
namespace Go.Proofs.Ytfkkjgebemnhnaa
open Go.ChangeShapes Go.WideShapes Go.ChangeAt Go.RowKit
namespace Cx
open Sp Rw
/-- a box of four slices -/
theorem box4 (w : World) (s : Nat → SV) (d : Nat) (hd : d < 4) : (w.alloc (.cells #[.slice (s 0).A (s 0).n (s 0).c, .slice (s 1).A (s 1).n (s 1).c, .slice (s 2).A (s 2).n (s 2).c, .slice (s 3).A (s 3).n (s 3).c] 60)).cell? ⟨w.heap.size, d, none⟩ = some (.slice (s d).A (s d).n (s d).c) := by
  rw [cell_of_row _ _ d _ _ (0, 0) (heap_alloc_new _ _)]
  rcases (by omega : d = 0 ∨ d = 1 ∨ d = 2 ∨ d = 3) with rfl | rfl | rfl | rfl <;> rfl
set_option maxHeartbeats 400000 in
theorem rightC_any (l : List S3) (n : Nat) (A : Option Addr) (c : Nat) (w : World) (hl : l.length = n) (hn : n ≤ 100000) (hr : Rd w w.heap.size 3 A n c (spsC l)) (b : Bool) (hb : rightCB l = b) :
    Calls Try.prog 15 #[.slice A n c] w fun e w' => e = .returned (.bool b) ∧ Below w.heap.size w w' := by
  have HC := Lib.hid (split_any l n A c w hl hn hr b hb)
  clear hl hr hb
  go_enter Try.func15, Try.ntmps15
  go_wp2_with (go_at_call 41; refine HC.out.mono ?_; rintro e w1 ⟨s, rfl, HS, hb1⟩)
  go_ret
  exact ⟨rfl, hb1.alloc hb1.size _⟩
/-- how many dots the first d centers have -/
def cntC (l : List S3) : Nat → Int
  | 0 => 0
  | d + 1 => cntC l d + countI (part l d)
theorem cntC_four (l : List S3) : cntC l 4 = countC l := by simp [cntC, countC]
theorem SvIs.later {w w' : World} {s : SV} {r : List (Int × Int)} (h : SvIs w s r) (hb : Below w.heap.size w w') : SvIs w' s r := ⟨h.1, h.2.later hb⟩
theorem rightB_part {l : List S3} {b : Bool} (hb : rightCB l = b) (d : Nat) (hd : d < 4) : RightF 1 (if b then part l d else []) := by
  cases b with
  | true => exact (of_rightCB hb).part d (by unfold Cen; omega)
  | false => trivial
theorem rightB_true {l : List (Int × Int)} (h : RightF 1 l) : rightB l = true := by unfold rightB; exact decide_eq_true h
set_option maxRecDepth 100000 in
set_option maxHeartbeats 1000000 in
theorem countC_any (l : List S3) (n : Nat) (A : Option Addr) (c : Nat) (w : World) (hl : l.length = n) (hn : n ≤ 100000) (hr : Rd w w.heap.size 3 A n c (spsC l)) (b : Bool) (hb : rightCB l = b) :
    Calls Try.prog 17 #[.slice A n c] w fun e w' => e = .returned (.int .i64 (if b then countC l else 0)) ∧ Below w.heap.size w w' := by
  have HC := Lib.hid (split_any l n A c w hl hn hr b hb)
  have HL := Lib.hid hl
  obtain ⟨q, hq⟩ : ∃ q : Nat → List (Int × Int), q = fun d : Nat => if b then part l (d : Int) else [] := ⟨_, rfl⟩
  have HQ : Hid (∀ d : Nat, d < 4 → RightF 1 (q d)) := fun d hd => by rw [hq]; exact rightB_part hb d hd
  have HQL : Hid (∀ d, (q d).length ≤ 1000000) := fun d => by
    rw [hq]; dsimp only; split
    · have := part_len l d; omega
    · simp
  have HE : Hid (countI (q 0) + countI (q 1) + countI (q 2) + countI (q 3) = if b then countC l else 0) := by
    unfold Hid
    rw [hq]
    cases b <;> simp [countC, countI]
  have HC2 : Hid (Calls Try.prog 41 #[.slice A n c] w fun e w' => ∃ s : Nat → SV, e = .returned (.tuple #[.agg #[.slice (s 0).A (s 0).n (s 0).c, .slice (s 1).A (s 1).n (s 1).c, .slice (s 2).A (s 2).n (s 2).c, .slice (s 3).A (s 3).n (s 3).c], .bool b]) ∧ Hid (∀ d : Nat, d < 4 → SvIs w' (s d) (q d)) ∧ Below w.heap.size w w') := by
    rw [hq]; exact HC.out
  obtain ⟨z, hz⟩ : ∃ z, z = (if b then countC l else 0) := ⟨_, rfl⟩
  rw [← hz] at HE ⊢
  clear hl hr hb hq HC hz HL
  go_enter Try.func17, Try.ntmps17
  go_wp2_with fail
  refine HC2.out.mono ?_
  rintro e w1 ⟨s, rfl, HS, hb1⟩
  have c0 := box4 w1 s 0 (by omega); have c1 := box4 w1 s 1 (by omega); have c2 := box4 w1 s 2 (by omega); have c3 := box4 w1 s 3 (by omega)
  have HB1 := Lib.hid (hb1.alloc hb1.size (.cells #[.slice (s 0).A (s 0).n (s 0).c, .slice (s 1).A (s 1).n (s 1).c, .slice (s 2).A (s 2).n (s 2).c, .slice (s 3).A (s 3).n (s 3).c] 60))
  have HS1 : Hid (∀ d : Nat, d < 4 → SvIs (w1.alloc (.cells #[.slice (s 0).A (s 0).n (s 0).c, .slice (s 1).A (s 1).n (s 1).c, .slice (s 2).A (s 2).n (s 2).c, .slice (s 3).A (s 3).n (s 3).c] 60)) (s d) (q d)) := fun d hd => (HS.out d hd).later ((Below.refl _ _).alloc (Nat.le_refl _) _)
  clear hb1 HS
  go_wp2
  clear c0 c1 c2 c3
  go_loopw [5, 14] (fun a i wr => ∃ (d : Nat) (x : Int), d ≤ 4 ∧ a = .int .i64 x ∧ i = .int .i64 d ∧ Hid ((d = 0 → x = 0) ∧ (d = 1 → x = countI (q 0)) ∧ (d = 2 → x = countI (q 0) + countI (q 1)) ∧ (d = 3 → x = countI (q 0) + countI (q 1) + countI (q 2)) ∧ (d = 4 → x = countI (q 0) + countI (q 1) + countI (q 2) + countI (q 3))) ∧ Hid (0 ≤ x ∧ x ≤ d * 1099511627776) ∧ Hid (∀ d : Nat, d < 4 → SvIs wr (s d) (q d)) ∧ Hid (Below w.heap.size w wr)) (fun _ i _ => 4 - (intOf i).toNat)
  case atStart => exact ⟨0, 0, by omega, rfl, rfl, ⟨fun _ => rfl, fun h => by omega, fun h => by omega, fun h => by omega, fun h => by omega⟩, ⟨by omega, by omega⟩, HS1.out, HB1.out⟩
  case round =>
    obtain ⟨d, x, hd, rfl, rfl, HX, HXB, HS, HB⟩ := hrel
    by_cases hd4 : d < 4
    · have hix := index_parts s d hd4
      have HCN := Lib.hid (count_any (q d) (s d).n (s d).A (s d).c wr (HS.out d hd4).1 (by rw [← (HS.out d hd4).1]; exact HQL.out d) (HS.out d hd4).2 true (rightB_true (HQ.out d hd4)))
      obtain ⟨y, hy⟩ : ∃ y, y = countI (q d) := ⟨_, rfl⟩
      rw [if_pos rfl, ← hy] at HCN
      obtain ⟨hy0, hy1⟩ := countI_bound (HQ.out d hd4)
      rw [← hy] at hy0 hy1
      obtain ⟨hx0, hx1⟩ := HXB.out
      have HX2 : Hid (((d + 1 : Nat) = 0 → x + y = 0) ∧ (d + 1 = 1 → x + y = countI (q 0)) ∧ (d + 1 = 2 → x + y = countI (q 0) + countI (q 1)) ∧ (d + 1 = 3 → x + y = countI (q 0) + countI (q 1) + countI (q 2)) ∧ (d + 1 = 4 → x + y = countI (q 0) + countI (q 1) + countI (q 2) + countI (q 3))) := by
        unfold Hid
        rw [hy]
        obtain ⟨e0, e1, e2, e3, _⟩ := HX.out
        refine ⟨fun h => by omega, fun h => ?_, fun h => ?_, fun h => ?_, fun h => ?_⟩
        · obtain rfl : d = 0 := by omega
          rw [e0 rfl]; omega
        · obtain rfl : d = 1 := by omega
          rw [e1 rfl]
        · obtain rfl : d = 2 := by omega
          rw [e2 rfl]
        · obtain rfl : d = 3 := by omega
          rw [e3 rfl]
      have hw : IntKind.i64.wrap (x + y) = x + y := IntWalk.i64_in _ (by omega)
      clear hy
      go_wp2_with (go_at_call 46; refine HCN.out.mono ?_; rintro e w2 ⟨rfl, hb2⟩; have HS2 := Lib.hid (fun d hd => (HS.out d hd).later hb2); have HB2 := Lib.hid (HB.out.trans (hb2.mono HB.out.size)); clear hb2)
      go_roundw
      case rel => exact ⟨d + 1, x + y, by omega, by go_num, by go_num, HX2.out, ⟨by omega, by omega⟩, HS2.out, HB2.out⟩
      case measure => simp [intOf]; omega
    · obtain rfl : d = 4 := by omega
      have HF : Hid (x = z) := (HX.out.2.2.2.2 rfl).trans HE.out
      go_wp2
      go_ret
      exact ⟨ret_int HF.out, HB.out⟩
end Cx
end Go.Proofs.Ytfkkjgebemnhnaa
