/- Sets of dots, the document's: a center's part, spans; is it right. -/
import Derived.Test.YtbfcbfadfnaebaaCtxLow
namespace Go.Proofs.Ytbfcbfadfnaebaa
open Go.ChangeShapes Go.WideShapes Go.ChangeAt Go.RowKit
namespace Cx
open Sp Rw
theorem spansTake {d : Int} {l : List (Int × Int)} {k : Nat} (h : k < l.length) {r : Int × Int} (hr : r = l[k]) : spans d (l.take (k + 1)) = spans d (l.take k) ++ [(d, r)] := by
  rw [List.take_succ_eq_append_getElem h, ← hr]
  simp [spans]
theorem spansLen (d : Int) (l : List (Int × Int)) : (spans d l).length = l.length := by simp [spans]
set_option maxRecDepth 100000 in
set_option maxHeartbeats 1000000 in
theorem spans_any (l : List (Int × Int)) (n : Nat) (A : Option Addr) (c : Nat) (dc : Int) (w : World) (hl : l.length = n) (hn : n ≤ 800000) (hr : Rd w w.heap.size 2 A n c (runsC l)) :
    Calls Try.prog 67 #[.int .i64 dc, .slice A n c] w fun e w' => ∃ A' c', e = .returned (.slice A' n c') ∧ Own w' w.heap.size 63 3 A' n c' (spsC (spans dc l)) ∧ Below w.heap.size w w' := by
  have HR := Lib.hid hr
  have HL := Lib.hid hl
  clear hr hl
  go_enter Try.func67, Try.ntmps67
  go_wp2
  go_loopw [5, 9] (fun v i wr => ∃ (k : Nat) (A' : Option Addr) (c' : Nat), k ≤ n ∧ v = .slice A' k c' ∧ i = .int .i64 k ∧ Hid (Own wr w.heap.size 63 3 A' k c' (spsC (spans dc (l.take k)))) ∧ Hid (Below w.heap.size w wr)) (fun _ i _ => n - (intOf i).toNat)
  case atStart => exact ⟨0, none, 0, by omega, rfl, rfl, ⟨World.ownsRow_nil _ _ _ _, by simp [spans, spsC]⟩, Below.refl _ _⟩
  case round =>
    obtain ⟨k, A', c', hk, rfl, rfl, HO, HB⟩ := hrel
    by_cases hlt : k < n
    · have hkl : k < l.length := by rw [HL.out]; exact hlt
      obtain ⟨b, o, rfl, hbl, hc⟩ := rd_run HR.out HL.out hlt
      obtain ⟨q0, q1⟩ := hc k hkl
      obtain ⟨p, hp⟩ : ∃ p, p = l[k] := ⟨_, rfl⟩
      have htk := spansTake (d := dc) hkl hp
      rw [← hp] at q0 q1
      obtain ⟨x, y⟩ := p
      have q0 := (HB.out.cell (p := ⟨b, o + k * 2, none⟩) hbl).trans q0
      have q1 := (HB.out.cell (p := ⟨b, o + k * 2 + 1, none⟩) hbl).trans q1
      have hlk : (spans dc (l.take k)).length = k := by rw [spansLen, List.length_take]; omega
      have hown := ownsRow_later HO.out.row ((Below.refl wr.heap.size wr).drew)
      rw [show (k : Nat) = (spans dc (l.take k)).length from hlk.symm] at hown
      obtain ⟨A2, c2, w2, hrun, ho2, hb2⟩ := push spC_len spC_one Try.underlying33 infoS rfl (by omega) (by omega) wr.drew w.heap.size wr.heap.size (by simp) (by have := HB.out.size; simp; omega) _ (spans dc (l.take k)) (by rw [hlk] at hown ⊢; exact hown) (dc, x, y) #[.int .i64 dc, .int .i64 x, .int .i64 y] rfl (by rw [hlk]; omega)
      have e2 : (spans dc (l.take k) ++ [(dc, x, y)]).length = k + 1 := by simp [hlk]
      have e3 : (spans dc (l.take k) ++ [(dc, x, y)]).flatMap spC = spsC (spans dc (l.take (k + 1))) := by rw [htk]; rfl
      rw [e2] at hrun
      rw [e2, e3] at ho2
      have Hrun := Lib.hid hrun
      have HO2 := Lib.hid ho2
      have HB2 := Lib.hid ((HB.out.drew).trans hb2)
      clear hc hp hrun ho2 hb2 hown htk hlk e2 e3 HO
      go_wp2
      go_region_law (refine upon_append _ _ _ rfl rfl rfl Hrun.out ?_)
      all_goals
        clear Hrun q0 q1
        go_wp2
        go_roundw
        case rel => exact ⟨k + 1, A2, c2, by omega, by go_num, by go_num, HO2.out, HB2.out⟩
        case measure => simp [intOf]; omega
    · obtain rfl : k = n := by omega
      have HE : Hid (l.take k = l) := List.take_of_length_le (by rw [HL.out]; omega)
      rw [HE.out] at HO
      go_wp2
      go_ret
      exact ⟨_, _, rfl, HO.out, HB.out⟩
end Cx
end Go.Proofs.Ytbfcbfadfnaebaa
