/- Sets of numbers: the front, how many numbers there are, what is in them; the program's, the document's; lists laid over. -/
import Derived.Test.YtfkkjgebemnhnaaSpan1
namespace Go.Proofs.Ytfkkjgebemnhnaa
open Go.ChangeShapes Go.WideShapes Go.ChangeAt Go.RowKit
namespace Sp
def frontI : List (Int × Int) → Int
  | [] => 0
  | r :: _ => if r.1 = 1 then r.2 else 0
def countI : List (Int × Int) → Int
  | [] => 0
  | r :: l => (r.2 - r.1 + 1) + countI l
theorem countI_append (a b : List (Int × Int)) : countI (a ++ b) = countI a + countI b := by
  induction a with
  | nil => simp [countI]
  | cons r a ih => simp only [List.cons_append, countI, ih]; omega
theorem countI_take {l : List (Int × Int)} {k : Nat} (hk : k < l.length) {r : Int × Int} (hr : r = l[k]) : countI (l.take (k + 1)) = countI (l.take k) + (r.2 - r.1 + 1) := by
  rw [List.take_succ_eq_append_getElem hk, countI_append, ← hr]; simp [countI]
theorem RightF.of_append : ∀ {a b : List (Int × Int)} {m : Int}, RightF m (a ++ b) → RightF m a
  | [], _, _, _ => trivial
  | _ :: _, _, _, h => ⟨h.1, h.2.1, h.2.2.1, RightF.of_append h.2.2.2⟩
theorem RightF.take {l : List (Int × Int)} {m : Int} (h : RightF m l) (k : Nat) : RightF m (l.take k) := RightF.of_append (b := l.drop k) (by rwa [List.take_append_drop])
theorem countI_nonneg : ∀ {l : List (Int × Int)} {m : Int}, RightF m l → 0 ≤ countI l
  | [], _, _ => by simp [countI]
  | r :: l, _, h => by have := countI_nonneg h.2.2.2; have := h.2.1; simp only [countI]; omega
theorem countI_le : ∀ {l : List (Int × Int)} {m : Int}, RightF m l → l = [] ∨ m + countI l ≤ 1099511627777
  | [], _, _ => .inl rfl
  | r :: l, m, h => by
    right
    obtain ⟨h1, h2, h3, h4⟩ := h
    simp only [countI]
    rcases countI_le h4 with rfl | h5
    · simp only [countI]; omega
    · omega
theorem countI_bound {l : List (Int × Int)} (h : RightF 1 l) : 0 ≤ countI l ∧ countI l ≤ 1099511627776 := by
  refine ⟨countI_nonneg h, ?_⟩
  rcases countI_le h with rfl | h5
  · simp [countI]
  · omega
set_option maxRecDepth 100000 in
set_option maxHeartbeats 1000000 in
theorem front_any (l : List (Int × Int)) (n : Nat) (A : Option Addr) (c : Nat) (w : World) (hl : l.length = n) (hn : n ≤ 1000000) (hr : Rd w w.heap.size 2 A n c (runsC l)) (b : Bool) (hb : rightB l = b) :
    Calls Try.prog 42 #[.slice A n c] w fun e w' => e = .returned (.int .i64 (if b then frontI l else 0)) ∧ Below w.heap.size w w' := by
  have HRT := Lib.hid (right_any l n A c w hl hn hr)
  rw [hb] at HRT
  cases b with
  | false =>
    clear hb
    go_enter Try.func42, Try.ntmps42
    go_wp2_with (go_at_call 61; refine HRT.out.mono ?_; rintro e w1 ⟨rfl, hb1⟩)
    go_ret
    exact ⟨rfl, hb1⟩
  | true =>
    cases l with
    | nil =>
      simp only [List.length_nil] at hl
      subst hl
      go_enter Try.func42, Try.ntmps42
      go_wp2_with (go_at_call 61; refine HRT.out.mono ?_; rintro e w1 ⟨rfl, hb1⟩)
      go_ret
      exact ⟨rfl, hb1⟩
    | cons r l =>
      obtain ⟨x, y⟩ := r
      have hn0 : 0 < n := by simp at hl; omega
      obtain ⟨g, o, rfl, hbl, hc⟩ := rd_run hr hl hn0
      obtain ⟨q0, q1⟩ := hc 0 (by simp)
      simp only [Nat.zero_mul, Nat.add_zero, List.getElem_cons_zero] at q0 q1
      have hn1 : ((n : Int) == 0) = false := by simp; omega
      have HL := Lib.hid hl
      clear hl hr hc hb
      by_cases h1 : x = 1
      · subst h1
        go_enter Try.func42, Try.ntmps42
        go_wp2_with (go_at_call 61; refine HRT.out.mono ?_; rintro e w1 ⟨rfl, hb1⟩; have k0 := (hb1.cell (p := ⟨g, o, none⟩) hbl).trans q0; have k1 := (hb1.cell (p := ⟨g, o + 1, none⟩) hbl).trans q1)
        go_ret
        exact ⟨ret_int (by simp [frontI]), hb1⟩
      · have f1 : (x != 1) = true := by simpa using h1
        go_enter Try.func42, Try.ntmps42
        go_wp2_with (go_at_call 61; refine HRT.out.mono ?_; rintro e w1 ⟨rfl, hb1⟩; have k0 := (hb1.cell (p := ⟨g, o, none⟩) hbl).trans q0; have k1 := (hb1.cell (p := ⟨g, o + 1, none⟩) hbl).trans q1)
        go_ret
        exact ⟨ret_int (by simp [frontI, h1]), hb1⟩
set_option maxRecDepth 100000 in
set_option maxHeartbeats 1000000 in
theorem count_any (l : List (Int × Int)) (n : Nat) (A : Option Addr) (c : Nat) (w : World) (hl : l.length = n) (hn : n ≤ 1000000) (hr : Rd w w.heap.size 2 A n c (runsC l)) (b : Bool) (hb : rightB l = b) :
    Calls Try.prog 46 #[.slice A n c] w fun e w' => e = .returned (.int .i64 (if b then countI l else 0)) ∧ Below w.heap.size w w' := by
  have HRT := Lib.hid (right_any l n A c w hl hn hr)
  rw [hb] at HRT
  have HR := Lib.hid hr
  have HL := Lib.hid hl
  cases b with
  | false =>
    clear hb hr hl
    go_enter Try.func46, Try.ntmps46
    go_wp2_with (go_at_call 61; refine HRT.out.mono ?_; rintro e w1 ⟨rfl, hb1⟩)
    go_ret
    exact ⟨rfl, hb1⟩
  | true =>
    have HO : Hid (RightF 1 l) := Lib.hid (of_decide_eq_true (p := RightF 1 l) hb)
    clear hb hr hl
    go_enter Try.func46, Try.ntmps46
    go_wp2_with (go_at_call 61; refine HRT.out.mono ?_; rintro e w1 ⟨rfl, hb1⟩; have HB1 := Lib.hid hb1; clear hb1)
    go_loopw [3, 11] (fun h i wr => ∃ (k : Nat) (s : Int), k ≤ n ∧ h = .int .i64 s ∧ i = .int .i64 k ∧ 0 ≤ s ∧ s ≤ 1099511627776 ∧ Hid (s = countI (l.take k)) ∧ Hid (Below w.heap.size w wr)) (fun _ i _ => n - (intOf i).toNat)
    case atStart => exact ⟨0, 0, by omega, rfl, rfl, by omega, by omega, rfl, HB1.out⟩
    case round =>
      obtain ⟨k, s, hk, rfl, rfl, hs0, hs1, HS, HB⟩ := hrel
      by_cases hlt : k < n
      · have hkl : k < l.length := by rw [HL.out]; exact hlt
        obtain ⟨b, o, rfl, hbl, hc⟩ := rd_run HR.out HL.out hlt
        obtain ⟨q0, q1⟩ := hc k hkl
        obtain ⟨p, hp⟩ : ∃ p, p = l[k] := ⟨_, rfl⟩
        have hT := countI_take hkl hp
        have hm := HO.out.mem l[k] (List.getElem_mem hkl)
        have hbd := countI_bound (HO.out.take (k + 1))
        rw [← hp] at q0 q1 hm
        rw [← HS.out] at hT
        obtain ⟨x, y⟩ := p
        obtain ⟨hm1, hm2, hm3⟩ := hm
        dsimp only at hm1 hm2 hm3 hT
        rw [hT] at hbd
        obtain ⟨hd1, hd2⟩ := hbd
        have HT := Lib.hid hT
        have q0 := (HB.out.cell (p := ⟨b, o + k * 2, none⟩) hbl).trans q0
        have q1 := (HB.out.cell (p := ⟨b, o + k * 2 + 1, none⟩) hbl).trans q1
        have HB2 := Lib.hid (HB.out.alloc HB.out.size (.cells #[.int .i64 x, .int .i64 y] 82))
        clear hc hp hT
        go_wp2
        go_roundw
        case rel => exact ⟨k + 1, s + (y - x + 1), by omega, by go_num, by go_num, hd1, hd2, HT.out.symm, HB2.out⟩
        case measure => simp [intOf]; omega
      · have HE : Hid (s = countI l) := by
          have := HS.out
          rwa [List.take_of_length_le (by rw [HL.out]; omega)] at this
        go_wp2
        go_ret
        exact ⟨ret_int HE.out, HB.out⟩
/-! ## the document's -/
set_option maxRecDepth 100000 in
set_option maxHeartbeats 1000000 in
theorem refright_any (l : List (Int × Int)) (n : Nat) (A : Option Addr) (c : Nat) (w : World) (hl : l.length = n) (hn : n ≤ 1000000) (hr : Rd w w.heap.size 2 A n c (runsC l)) :
    Calls Try.prog 43 #[.slice A n c] w fun e w' => e = .returned (.bool (rightB l)) ∧ Below w.heap.size w w' := by
  have HR := Lib.hid hr
  have HL := Lib.hid hl
  clear hr hl
  go_enter Try.func43, Try.ntmps43
  go_wp2
  go_loopw [6] (fun i wr => ∃ (k : Nat) (m : Int), k ≤ n ∧ i = .int .i64 k ∧ Hid (1 ≤ m) ∧ Hid (k = 0 → m = 1) ∧ Hid (∀ (j : Nat) (h : j < l.length), k = j + 1 → m = l[j].2 + 2 ∧ l[j].2 ≤ 1099511627776) ∧ Hid (RightF 1 l ↔ RightF m (l.drop k)) ∧ Hid (∃ q, wr = w.drewN q)) (fun i _ => n - (intOf i).toNat)
  case atStart => exact ⟨0, 1, by omega, rfl, Int.le_refl 1, fun _ => rfl, fun j _ h => by omega, Iff.rfl, ⟨0, rfl⟩⟩
  case round =>
    obtain ⟨k, m, hk, rfl, HM, HM0, HM1, HI, HB⟩ := hrel
    obtain ⟨q, rfl⟩ := HB.out
    have HBe : ∀ q', Hid (Below w.heap.size w ((w.drewN q).drewN q')) := fun q' => bel_drewN (bel_drewN (Below.refl _ _) _) _
    by_cases hlt : k < n
    · have hkl : k < l.length := by rw [HL.out]; exact hlt
      obtain ⟨b, o, rfl, hbl, hc⟩ := rd_run HR.out HL.out hlt
      obtain ⟨q0, q1⟩ := hc k hkl
      obtain ⟨p, hp⟩ : ∃ p, p = l[k] := ⟨_, rfl⟩
      have HD := Lib.hid (drop_at hkl hp)
      have HP := Lib.hid hp
      rw [← hp] at q0 q1
      obtain ⟨x, y⟩ := p
      have hm := HM.out
      by_cases h1 : x < 1
      · have f1 : decide (x < 1) = true := by simpa using h1
        have HE : Hid (false = rightB l) := rightB_of HI.out (by rw [HD.out]; simp only [Bool.false_eq_true, RightF, false_iff]; omega)
        clear hc hp
        go_wp2
        go_quiet (fail)
        go_wp2
        go_ret
        exact ⟨ret_bool HE.out, (HBe _).out⟩
      · have f1 : decide (x < 1) = false := by simpa using h1
        by_cases h3 : 1099511627776 < y
        · have f3 : decide (1099511627776 < y) = true := by simpa using h3
          have HE : Hid (false = rightB l) := rightB_of HI.out (by rw [HD.out]; simp only [Bool.false_eq_true, RightF, false_iff]; omega)
          clear hc hp
          go_wp2
          go_quiet (fail)
          go_wp2
          go_ret
          exact ⟨ret_bool HE.out, (HBe _).out⟩
        · have f3 : decide (1099511627776 < y) = false := by simpa using h3
          by_cases h2 : y < x
          · have f2 : decide (y < x) = true := by simpa using h2
            have HE : Hid (false = rightB l) := rightB_of HI.out (by rw [HD.out]; simp only [Bool.false_eq_true, RightF, false_iff]; omega)
            clear hc hp
            go_wp2
            go_quiet (fail)
            go_wp2
            go_ret
            exact ⟨ret_bool HE.out, (HBe _).out⟩
          · have f2 : decide (y < x) = false := by simpa using h2
            have hstep : m ≤ x → Hid (RightF 1 l ↔ RightF (y + 2) (l.drop (k + 1))) := fun hmx => by
              refine Iff.trans HI.out ?_
              rw [HD.out]
              simp only [RightF]
              exact ⟨fun h => h.2.2.2, fun h => ⟨by omega, by omega, by omega, h⟩⟩
            have hnext : Hid (∀ (j : Nat) (h : j < l.length), k + 1 = j + 1 → y + 2 = l[j].2 + 2 ∧ l[j].2 ≤ 1099511627776) := fun j h e => by
              have : j = k := by omega
              subst this
              rw [← HP.out]
              exact ⟨rfl, by show y ≤ _; omega⟩
            rcases Nat.eq_zero_or_pos k with rfl | hk0
            · have hm0 := HM0.out rfl
              have HST := hstep (by omega)
              clear hc hp hstep
              simp only [Nat.zero_mul, Nat.add_zero] at q0 q1
              go_wp2
              go_quiet (fail)
              go_wp2
              go_roundw
              case rel => exact ⟨1, y + 2, by omega, rfl, by unfold Hid; omega, fun h => by omega, hnext.out, HST.out, ⟨q + _, rfl⟩⟩
              case measure => simp [intOf]; omega
            · obtain ⟨k, rfl⟩ : ∃ j, k = j + 1 := ⟨k - 1, by omega⟩
              obtain ⟨r0, r1⟩ := hc k (by omega)
              obtain ⟨p, hp'⟩ : ∃ p, p = l[k] := ⟨_, rfl⟩
              obtain ⟨hme, hle⟩ := HM1.out k (by omega) rfl
              rw [← hp'] at r0 r1 hme hle
              obtain ⟨u, v⟩ := p
              dsimp only at hme hle r0 r1
              have hk1 : ((k + 1 : Nat) : Int) - 1 = (k : Int) := by omega
              have hk2 : decide ((0 : Int) < ((k + 1 : Nat) : Int)) = true := decide_eq_true (by omega)
              by_cases h4 : x < m
              · have f4 : decide (x - v < 2) = true := by simp; omega
                have HE : Hid (false = rightB l) := rightB_of HI.out (by rw [HD.out]; simp only [Bool.false_eq_true, RightF, false_iff]; omega)
                clear hc hp hp' hstep hnext
                go_wp2
                go_quiet (fail)
                go_wp2
                go_ret
                exact ⟨ret_bool HE.out, (HBe _).out⟩
              · have f4 : decide (x - v < 2) = false := by simp; omega
                have HST := hstep (by omega)
                clear hc hp hp' hstep
                go_wp2
                go_quiet (fail)
                go_wp2
                go_roundw
                case rel => exact ⟨k + 1 + 1, y + 2, by omega, by go_num, by unfold Hid; omega, fun h => by omega, hnext.out, HST.out, ⟨q + _, rfl⟩⟩
                case measure => simp [intOf]; omega
    · have HE : Hid (true = rightB l) := rightB_of HI.out (by rw [List.drop_eq_nil_of_le (by rw [HL.out]; omega)]; simp [RightF])
      go_wp2
      go_ret
      exact ⟨ret_bool HE.out, (HBe 0).out⟩
end Sp
end Go.Proofs.Ytfkkjgebemnhnaa
