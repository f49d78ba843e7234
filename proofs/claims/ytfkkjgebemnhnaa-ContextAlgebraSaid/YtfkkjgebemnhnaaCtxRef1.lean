/- Sets of dots, the document's: a center's part, spans; is it right. -/
import Derived.Test.YtfkkjgebemnhnaaCtx2
namespace Go.Proofs.Ytfkkjgebemnhnaa
open Go.ChangeShapes Go.WideShapes Go.ChangeAt Go.RowKit
namespace Cx
open Sp Rw
set_option maxRecDepth 100000 in
set_option maxHeartbeats 1000000 in
theorem part_any (l : List S3) (n : Nat) (A : Option Addr) (c : Nat) (dc : Int) (w : World) (hl : l.length = n) (hn : n ≤ 800000) (hr : Rd w w.heap.size 3 A n c (spsC l)) :
    Calls Try.prog 19 #[.slice A n c, .int .i64 dc] w fun e w' => ∃ A' q c', e = .returned (.slice A' q c') ∧ Hid ((part l dc).length = q) ∧ Own w' w.heap.size 68 2 A' q c' (runsC (part l dc)) ∧ Below w.heap.size w w' := by
  have HR := Lib.hid hr
  have HL := Lib.hid hl
  clear hr hl
  go_enter Try.func19, Try.ntmps19
  go_wp2
  go_loopw [5, 9] (fun v i wr => ∃ (k m : Nat) (A' : Option Addr) (c' : Nat), k ≤ n ∧ v = .slice A' m c' ∧ i = .int .i64 k ∧ Hid ((part (l.take k) dc).length = m) ∧ Hid (Own wr w.heap.size 68 2 A' m c' (runsC (part (l.take k) dc))) ∧ Hid (Below w.heap.size w wr)) (fun _ i _ => n - (intOf i).toNat)
  case atStart => exact ⟨0, 0, none, 0, by omega, rfl, rfl, rfl, ⟨World.ownsRow_nil _ _ _ _, by simp [part, runsC]⟩, Below.refl _ _⟩
  case round =>
    obtain ⟨k, m, A', c', hk, rfl, rfl, HM, HO, HB⟩ := hrel
    by_cases hlt : k < n
    · have hkl : k < l.length := by rw [HL.out]; exact hlt
      obtain ⟨b, o, rfl, hbl, hc⟩ := rd_span HR.out hlt
      obtain ⟨q0, q1, q2⟩ := hc k hkl
      obtain ⟨p, hp⟩ : ∃ p, p = l[k] := ⟨_, rfl⟩
      have htk := part_take hkl hp dc
      rw [← hp] at q0 q1 q2
      obtain ⟨a, x, y⟩ := p
      have q0 := (HB.out.cell (p := ⟨b, o + k * 3, none⟩) hbl).trans q0
      have q1 := (HB.out.cell (p := ⟨b, o + k * 3 + 1, none⟩) hbl).trans q1
      have q2 := (HB.out.cell (p := ⟨b, o + k * 3 + 2, none⟩) hbl).trans q2
      clear hc hp
      by_cases he : a = dc
      · have f1 : (a == dc) = true := by simpa using he
        rw [if_pos he] at htk
        dsimp only at htk
        have hml : (part (l.take k) dc).length ≤ 800000 := Nat.le_trans (part_len _ _) (by rw [List.length_take]; omega)
        have hown := ownsRow_later HO.out.row ((Below.refl wr.heap.size wr).drew)
        rw [← HM.out] at hown
        obtain ⟨A2, c2, w2, hrun, ho2, hb2⟩ := push_run Try.underlying31 infoP wr.drew w.heap.size wr.heap.size (by simp) (by have := HB.out.size; simp; omega) _ (part (l.take k) dc) hown x y (by omega)
        rw [← htk] at hrun ho2
        rw [HM.out] at hrun
        obtain ⟨m2, hm2⟩ : ∃ m2, m2 = (part (l.take (k + 1)) dc).length := ⟨_, rfl⟩
        rw [← hm2] at hrun ho2
        have Hrun := Lib.hid hrun
        have HO2 := Lib.hid ho2
        have HB2 := Lib.hid ((HB.out.drew).trans hb2)
        have HM2 : Hid ((part (l.take (k + 1)) dc).length = m2) := hm2.symm
        clear hrun ho2 hb2 htk hown hm2 HO HM hml
        go_wp2
        go_region_law (refine upon_append _ _ _ rfl rfl rfl Hrun.out ?_)
        all_goals
          clear Hrun q0 q1 q2
          go_wp2
          go_roundw
          case rel => exact ⟨k + 1, m2, A2, c2, by omega, rfl, by go_num, HM2.out, HO2.out, HB2.out⟩
          case measure => simp [intOf]; omega
      · have f1 : (a == dc) = false := by simpa using he
        rw [if_neg he] at htk
        rw [← htk] at HO HM
        clear htk
        go_wp2
        go_roundw
        case rel => exact ⟨k + 1, m, A', c', by omega, rfl, by go_num, HM.out, HO.out, HB.out⟩
        case measure => simp [intOf]; omega
    · obtain rfl : k = n := by omega
      have HE : Hid (l.take k = l) := List.take_of_length_le (by rw [HL.out]; omega)
      rw [HE.out] at HO HM
      go_wp2
      go_ret
      exact ⟨_, m, _, rfl, HM.out, HO.out, HB.out⟩
theorem spansTake {d : Int} {l : List (Int × Int)} {k : Nat} (h : k < l.length) {r : Int × Int} (hr : r = l[k]) : spans d (l.take (k + 1)) = spans d (l.take k) ++ [(d, r)] := by
  rw [List.take_succ_eq_append_getElem h, ← hr]
  simp [spans]
theorem spansLen (d : Int) (l : List (Int × Int)) : (spans d l).length = l.length := by simp [spans]
set_option maxRecDepth 100000 in
set_option maxHeartbeats 1000000 in
theorem spans_any (l : List (Int × Int)) (n : Nat) (A : Option Addr) (c : Nat) (dc : Int) (w : World) (hl : l.length = n) (hn : n ≤ 800000) (hr : Rd w w.heap.size 2 A n c (runsC l)) :
    Calls Try.prog 51 #[.int .i64 dc, .slice A n c] w fun e w' => ∃ A' c', e = .returned (.slice A' n c') ∧ Own w' w.heap.size 46 3 A' n c' (spsC (spans dc l)) ∧ Below w.heap.size w w' := by
  have HR := Lib.hid hr
  have HL := Lib.hid hl
  clear hr hl
  go_enter Try.func51, Try.ntmps51
  go_wp2
  go_loopw [5, 9] (fun v i wr => ∃ (k : Nat) (A' : Option Addr) (c' : Nat), k ≤ n ∧ v = .slice A' k c' ∧ i = .int .i64 k ∧ Hid (Own wr w.heap.size 46 3 A' k c' (spsC (spans dc (l.take k)))) ∧ Hid (Below w.heap.size w wr)) (fun _ i _ => n - (intOf i).toNat)
  case atStart => exact ⟨0, none, 0, by omega, rfl, rfl, ⟨World.ownsRow_nil _ _ _ _, by simp [spans, spsC]⟩, Below.refl _ _⟩
  case round =>
    obtain ⟨k, A', c', hk, rfl, rfl, HO, HB⟩ := hrel
    by_cases hlt : k < n
    · have hkl : k < l.length := by rw [HL.out]; exact hlt
      obtain ⟨b, o, rfl, hbl, hc⟩ := rd_run HR.out HL.out hlt
      obtain ⟨q0, q1⟩ := hc k hkl
      obtain ⟨p, hp⟩ : ∃ p, p = l[k] := ⟨_, rfl⟩
      have htk := spansTake (d := dc) hkl hp
      rw [← hp] at q0 q1
      obtain ⟨x, y⟩ := p
      have q0 := (HB.out.cell (p := ⟨b, o + k * 2, none⟩) hbl).trans q0
      have q1 := (HB.out.cell (p := ⟨b, o + k * 2 + 1, none⟩) hbl).trans q1
      have hlk : (spans dc (l.take k)).length = k := by rw [spansLen, List.length_take]; omega
      have hown := ownsRow_later HO.out.row ((Below.refl wr.heap.size wr).drew)
      rw [show (k : Nat) = (spans dc (l.take k)).length from hlk.symm] at hown
      obtain ⟨A2, c2, w2, hrun, ho2, hb2⟩ := push spC_len spC_one Try.underlying23 infoS rfl (by omega) (by omega) wr.drew w.heap.size wr.heap.size (by simp) (by have := HB.out.size; simp; omega) _ (spans dc (l.take k)) (by rw [hlk] at hown ⊢; exact hown) (dc, x, y) #[.int .i64 dc, .int .i64 x, .int .i64 y] rfl (by rw [hlk]; omega)
      have e2 : (spans dc (l.take k) ++ [(dc, x, y)]).length = k + 1 := by simp [hlk]
      have e3 : (spans dc (l.take k) ++ [(dc, x, y)]).flatMap spC = spsC (spans dc (l.take (k + 1))) := by rw [htk]; rfl
      rw [e2] at hrun
      rw [e2, e3] at ho2
      have Hrun := Lib.hid hrun
      have HO2 := Lib.hid ho2
      have HB2 := Lib.hid ((HB.out.drew).trans hb2)
      clear hc hp hrun ho2 hb2 hown htk hlk e2 e3 HO
      go_wp2
      go_region_law (refine upon_append _ _ _ rfl rfl rfl Hrun.out ?_)
      all_goals
        clear Hrun q0 q1
        go_wp2
        go_roundw
        case rel => exact ⟨k + 1, A2, c2, by omega, by go_num, by go_num, HO2.out, HB2.out⟩
        case measure => simp [intOf]; omega
    · obtain rfl : k = n := by omega
      have HE : Hid (l.take k = l) := List.take_of_length_le (by rw [HL.out]; omega)
      rw [HE.out] at HO
      go_wp2
      go_ret
      exact ⟨_, _, rfl, HO.out, HB.out⟩
end Cx
end Go.Proofs.Ytfkkjgebemnhnaa
