/- Sets of numbers: what is right, edges; the program's, the document's. -/
import Derived.Test.YtfkkjgebemnhnaaSpanMem
namespace Go.Proofs.Ytfkkjgebemnhnaa
open Go.ChangeShapes Go.WideShapes Go.ChangeAt Go.RowKit
namespace Sp
theorem ret_bool {a b : Bool} (h : a = b) : Ending.returned (.bool a) = .returned (.bool b) := by rw [h]
theorem ret_int {a b : Int} (h : a = b) : Ending.returned (.int .i64 a) = .returned (.int .i64 b) := by rw [h]
theorem drop_at {l : List (Int × Int)} {k : Nat} (hk : k < l.length) {r : Int × Int} (hr : r = l[k]) : l.drop k = r :: l.drop (k + 1) := by rw [hr]; exact List.drop_eq_getElem_cons hk
theorem rightB_of {l : List (Int × Int)} {P : Prop} (h : RightF 1 l ↔ P) {b : Bool} (hb : b = true ↔ P) : b = rightB l := by
  unfold rightB
  cases b with
  | true => simp only [true_iff] at hb; simp [h.2 hb]
  | false =>
    have : ¬ P := fun hp => by have := hb.2 hp; cases this
    simp [h, this]
set_option maxRecDepth 100000 in
set_option maxHeartbeats 1000000 in
theorem right_any (l : List (Int × Int)) (n : Nat) (A : Option Addr) (c : Nat) (w : World) (hl : l.length = n) (hn : n ≤ 1000000) (hr : Rd w w.heap.size 2 A n c (runsC l)) :
    Calls Try.prog 61 #[.slice A n c] w fun e w' => e = .returned (.bool (rightB l)) ∧ Below w.heap.size w w' := by
  have HR := Lib.hid hr
  have HL := Lib.hid hl
  clear hr hl
  go_enter Try.func61, Try.ntmps61
  go_wp2
  go_loopw [3, 8] (fun h i wr => ∃ (k : Nat) (m : Int), k ≤ n ∧ h = .int .i64 m ∧ i = .int .i64 k ∧ Hid (1 ≤ m ∧ m ≤ 1099511627778) ∧ Hid (RightF 1 l ↔ RightF m (l.drop k)) ∧ Hid (Below w.heap.size w wr)) (fun _ i _ => n - (intOf i).toNat)
  case atStart => exact ⟨0, 1, by omega, rfl, rfl, ⟨by omega, by omega⟩, Iff.rfl, Below.refl _ _⟩
  case round =>
    obtain ⟨k, m, hk, rfl, rfl, HM, HI, HB⟩ := hrel
    by_cases hlt : k < n
    · have hkl : k < l.length := by rw [HL.out]; exact hlt
      obtain ⟨b, o, rfl, hbl, hc⟩ := rd_run HR.out HL.out hlt
      obtain ⟨q0, q1⟩ := hc k hkl
      obtain ⟨p, hp⟩ : ∃ p, p = l[k] := ⟨_, rfl⟩
      have HD := Lib.hid (drop_at hkl hp)
      rw [← hp] at q0 q1
      obtain ⟨x, y⟩ := p
      have q0 := (HB.out.cell (p := ⟨b, o + k * 2, none⟩) hbl).trans q0
      have q1 := (HB.out.cell (p := ⟨b, o + k * 2 + 1, none⟩) hbl).trans q1
      have HB2 := Lib.hid (HB.out.alloc HB.out.size (.cells #[.int .i64 x, .int .i64 y] 82))
      clear hc hp
      by_cases h1 : x < m
      · have f1 : decide (x < m) = true := by simpa using h1
        have HE : Hid (false = rightB l) := rightB_of HI.out (by rw [HD.out]; simp only [Bool.false_eq_true, RightF, false_iff]; omega)
        go_wp2
        go_ret
        exact ⟨ret_bool HE.out, HB2.out⟩
      · have f1 : decide (x < m) = false := by simpa using h1
        by_cases h2 : y < x
        · have f2 : decide (y < x) = true := by simpa using h2
          have HE : Hid (false = rightB l) := rightB_of HI.out (by rw [HD.out]; simp only [Bool.false_eq_true, RightF, false_iff]; omega)
          go_wp2
          go_ret
          exact ⟨ret_bool HE.out, HB2.out⟩
        · have f2 : decide (y < x) = false := by simpa using h2
          by_cases h3 : 1099511627776 < y
          · have f3 : decide (1099511627776 < y) = true := by simpa using h3
            have HE : Hid (false = rightB l) := rightB_of HI.out (by rw [HD.out]; simp only [Bool.false_eq_true, RightF, false_iff]; omega)
            go_wp2
            go_ret
            exact ⟨ret_bool HE.out, HB2.out⟩
          · have f3 : decide (1099511627776 < y) = false := by simpa using h3
            have HI2 : Hid (RightF 1 l ↔ RightF (y + 2) (l.drop (k + 1))) := by
              refine Iff.trans HI.out ?_
              rw [HD.out]
              simp only [RightF]
              exact ⟨fun h => h.2.2.2, fun h => ⟨by omega, by omega, by omega, h⟩⟩
            have hm := HM.out.1
            go_wp2
            go_roundw
            case rel => exact ⟨k + 1, y + 2, by omega, by go_num, by go_num, ⟨by omega, by omega⟩, HI2.out, HB2.out⟩
            case measure => simp [intOf]; omega
    · have HE : Hid (true = rightB l) := rightB_of HI.out (by rw [List.drop_eq_nil_of_le (by rw [HL.out]; omega)]; simp [RightF])
      go_wp2
      go_ret
      exact ⟨ret_bool HE.out, HB.out⟩
/-- the i-th edge -/
theorem edge_div {l : List (Int × Int)} {i : Nat} (h : i < 2 * l.length) : (i % 2 = 0 ∧ ∃ hk : i / 2 < l.length, edge l i = l[i / 2].1) ∨ (i % 2 = 1 ∧ ∃ hk : i / 2 < l.length, edge l i = l[i / 2].2 + 1) := by
  have hk : i / 2 < l.length := by omega
  rcases Nat.mod_two_eq_zero_or_one i with h0 | h0
  · have e : i = 2 * (i / 2) := by omega
    exact .inl ⟨h0, hk, by have := edge_even hk; rwa [← e] at this⟩
  · have e : i = 2 * (i / 2) + 1 := by omega
    exact .inr ⟨h0, hk, by have := edge_odd hk; rwa [← e] at this⟩
set_option maxHeartbeats 400000 in
theorem edge_any (l : List (Int × Int)) (n : Nat) (A : Option Addr) (c : Nat) (w : World) (hl : l.length = n) (hn : n ≤ 1000000) (hr : Rd w w.heap.size 2 A n c (runsC l)) (hR : RightF 1 l) (i : Nat) (hi : i ≤ 2 * n) :
    Calls Try.prog 77 #[.slice A n c, .int .i64 i] w fun e w' => e = .returned (.int .i64 (edge l i)) ∧ w' = w := by
  by_cases h : i < 2 * l.length
  · have hb := edge_ge hR h
    rcases edge_div h with ⟨h0, hk, he⟩ | ⟨h0, hk, he⟩
    · obtain ⟨b, o, rfl, hbl, hc⟩ := rd_run hr hl (k := i / 2) (by omega)
      obtain ⟨q0, q1⟩ := hc (i / 2) hk
      rw [← he] at q0
      obtain ⟨x, hx⟩ : ∃ x, x = edge l i := ⟨_, rfl⟩
      rw [← hx] at q0 ⊢
      have f1 : decide (2 * (n : Int) ≤ i) = false := by simp; omega
      have f2 : ((i : Int).tmod 2) = 0 := by rw [Int.tmod_eq_emod_of_nonneg (by omega)]; omega
      have f3 : ((i : Int).tdiv 2) = ((i / 2 : Nat) : Int) := by rw [Int.tdiv_eq_ediv_of_nonneg (by omega)]; omega
      have hdn : i / 2 < n := by omega
      clear hc q1 he hx
      go_enter Try.func77, Try.ntmps77
      go_wp2
      go_ret
      exact ⟨rfl, rfl⟩
    · obtain ⟨b, o, rfl, hbl, hc⟩ := rd_run hr hl (k := i / 2) (by omega)
      obtain ⟨q0, q1⟩ := hc (i / 2) hk
      rw [he] at hb ⊢
      obtain ⟨x, hx⟩ : ∃ x, x = l[i / 2].2 := ⟨_, rfl⟩
      rw [← hx] at q1 hb ⊢
      have f1 : decide (2 * (n : Int) ≤ i) = false := by simp; omega
      have f2 : ((i : Int).tmod 2) = 1 := by rw [Int.tmod_eq_emod_of_nonneg (by omega)]; omega
      have f3 : ((i : Int).tdiv 2) = ((i / 2 : Nat) : Int) := by rw [Int.tdiv_eq_ediv_of_nonneg (by omega)]; omega
      have hdn : i / 2 < n := by omega
      clear hc q0 he hx
      go_enter Try.func77, Try.ntmps77
      go_wp2
      go_ret
      exact ⟨ret_int (by go_num), rfl⟩
  · rw [edge_end (by omega)]
    have f1 : decide (2 * (n : Int) ≤ i) = true := by simp; omega
    go_enter Try.func77, Try.ntmps77
    go_wp2
    go_ret
    exact ⟨rfl, rfl⟩
end Sp
end Go.Proofs.Ytfkkjgebemnhnaa
