/- Texts of the lower layers, and of layer 9, put together. -/
import Derived.Test.YtnlojpolfkjkoaaGreatCtxOf
import Derived.Test.YtnlojpolfkjkoaaGreatG20
import Derived.Test.YtnlojpolfkjkoaaGreatG00
import Derived.Laws.IdiomArrays
import Derived.Deep.Strs
import Derived.Test.YtnlojpolfkjkoaaGreatTreeBuild
namespace Go.Proofs.YtnlojpolfkjkoaaGreat
open Go.ChangeShapes Go.WideShapes Go.ChangeAt Go.RowKit
namespace Cx
open Sp Rw
set_option maxRecDepth 100000 in
set_option maxHeartbeats 2000000 in
theorem refofC_own (l : List (Int × Int)) (n : Nat) (A : Option Addr) (c : Nat) (w : World) (hl : l.length = n) (hn : n ≤ 1000) (hr : Rd w w.heap.size 2 A n c (l.flatMap dotC)) (hg : goodD l) (u : List S3) (hu : OfC l u) (q : Nat) (hq : u.length = q) (hq8 : q ≤ 800000) :
    Calls Tryz.prog 51 #[.slice A n c] w fun e w' => ∃ A' c', e = .returned (.slice A' q c') ∧ Own w' w.heap.size 79 3 A' q c' (spsC u) ∧ Below w.heap.size w w' := by
  have HUP : Hid (pre (fun d : Nat => part u d) 4 = u) := by
    unfold Hid; rw [pre_four]; refine ext_part (rise_glue _) hu.right.rise fun d hd => ?_; rw [part_glue _ hd]
    have e : ((d.toNat : Nat) : Int) = d := by have := hd.1; omega
    rw [e]
  have HUB : Hid (∀ d : Nat, d < 4 → ∀ x, SetIs (nums l d) x → x = part u d) := fun d hd x hx =>
    ext hx.1 (hu.right.part d (by unfold Cen; omega)) fun m => by
      have h1 := hx.2 m; have h2 := hu.has d m (by unfold Cen; omega); unfold hasC at h2; rw [← nums_mem] at h2
      cases e1 : hasB x m <;> cases e2 : hasB (part u d) m <;> simp_all
  have HUL : Hid (∀ d : Nat, d ≤ 4 → (pre (fun d : Nat => part u d) d).length ≤ q) := by
    have h4 : (pre (fun d : Nat => part u d) 4).length = q := by rw [HUP.out, hq]
    intro d hd
    have hmono : ∀ i j : Nat, i ≤ j → (pre (fun d : Nat => part u d) i).length ≤ (pre (fun d : Nat => part u d) j).length := by
      intro i j hij
      induction j with
      | zero => obtain rfl : i = 0 := by omega
                exact Nat.le_refl _
      | succ j ih =>
        rcases (by omega : i ≤ j ∨ i = j + 1) with h | rfl
        · have := ih h
          simp only [pre, List.length_append]; omega
        · exact Nat.le_refl _
    have := hmono d 4 hd; omega
  have HR := Lib.hid hr; have HL := Lib.hid hl; have HGD := Lib.hid hg; have HQ := Lib.hid hq; clear hr hl hg hq hu; go_enter Tryz.func51, Tryz.ntmps51; go_wp2
  go_loopw [3, 7] (fun v i wr => ∃ (d m : Nat) (A' : Option Addr) (c' : Nat), d ≤ 4 ∧ v = .slice A' m c' ∧ i = .int .i64 d ∧ Hid ((pre (fun d : Nat => part u d) d).length = m) ∧ Hid (Own wr w.heap.size 79 3 A' m c' (spsC (pre (fun d : Nat => part u d) d))) ∧ Hid (Below w.heap.size w wr)) (fun _ i _ => 4 - (intOf i).toNat)
  case atStart => exact ⟨0, 0, none, 0, by omega, rfl, rfl, rfl, ⟨World.ownsRow_nil _ _ _ _, by simp [pre, spsC]⟩, Below.refl _ _⟩
  case round =>
    obtain ⟨d, m1, A', c', hd, rfl, rfl, HM, HO, HB⟩ := hrel
    by_cases hd4 : d < 4
    · obtain ⟨W0, hW0⟩ : ∃ W0, W0 = wr := ⟨_, rfl⟩
      rw [← hW0] at HO HB; have HW0 := Lib.hid hW0
      have HQ4 : Hid (∀ x : Nat, (part u d).length = x → m1 + x ≤ 800000) := fun x hx => by
        have := HUL.out (d + 1) (by omega); simp only [pre, List.length_append, Cx.spans_len] at this; have e1 := HM.out; omega
      clear hW0; go_wp2
      go_loopw [5, 12] (fun v i wr2 => ∃ (k m2 : Nat) (A2 : Option Addr) (c2 : Nat), k ≤ n ∧ v = .slice A2 m2 c2 ∧ i = .int .i64 k ∧ Hid ((nums (l.take k) d).length = m2) ∧ Hid (Own wr2 W0.heap.size 2 1 A2 m2 c2 (intsC (nums (l.take k) d))) ∧ Hid (Below W0.heap.size W0 wr2)) (fun _ i _ => n - (intOf i).toNat)
      case atStart => exact ⟨0, 0, none, 0, by omega, rfl, rfl, rfl, ⟨World.ownsRow_nil _ _ _ _, by simp [nums, intsC]⟩, (by unfold Hid; rw [HW0.out]; exact Below.refl _ _)⟩
      case round =>
        clear HW0; obtain ⟨k, m2, A2, c2, hk, rfl, rfl, HM2, HO2, HB2⟩ := hrel; have HBW : Hid (Below w.heap.size w wr) := HB.out.trans (HB2.out.mono HB.out.size)
        by_cases hlt : k < n
        · have hkl : k < l.length := by rw [HL.out]; exact hlt
          obtain ⟨b1, o, rfl, hbl, hc⟩ := rd_dot HR.out hlt; obtain ⟨q0, q1⟩ := hc k hkl; obtain ⟨p, hp⟩ : ∃ p, p = l[k] := ⟨_, rfl⟩; have htk := nums_take hkl hp (d : Int); rw [← hp] at q0 q1; obtain ⟨dc, y⟩ := p; have q0 := (HBW.out.cell (p := ⟨b1, o + k * 2, none⟩) hbl).trans q0; have q1 := (HBW.out.cell (p := ⟨b1, o + k * 2 + 1, none⟩) hbl).trans q1; dsimp only at q0 q1 htk; clear hc hp
          by_cases he : dc = (d : Int)
          · have f1 : (dc == (d : Int)) = true := by simpa using he
            rw [if_pos he] at htk
            have hml : m2 ≤ 1000 := by rw [← HM2.out]; exact Nat.le_trans (nums_len _ _) (by rw [List.length_take]; omega)
            obtain ⟨v3, w3, hrun, ho3, hb3⟩ := run_push Tryz.underlying101 infoI rfl (by omega) (by omega) wr W0.heap.size wr.heap.size rfl HB2.out.size _ m2 _ HO2.out.row [.int .i64 y] 1 rfl (by intro u hu; simp at hu; rcases hu with rfl; rfl) (by omega)
            have e2 : intsC (nums (l.take k) d) ++ [.int .i64 y] = intsC (nums (l.take (k + 1)) d) := by rw [htk, intsC_append]; rfl
            rw [e2] at ho3; obtain ⟨A3, c3, rfl, ho4⟩ := Own.of_row ho3 (intsC_one _); have Hrun := Lib.hid hrun; have HO3 := Lib.hid ho4
            have HM3 : Hid ((nums (l.take (k + 1)) d).length = m2 + 1) := by unfold Hid; rw [htk, List.length_append, HM2.out]; rfl
            have HB3 := Lib.hid (HB2.out.trans hb3); clear hrun ho3 ho4 hb3 htk e2 HO2 HM2 hml; go_wp2_with (at_builtin; refine Lib.wpList_append_run _ rfl _ _ _ _ rfl _ _ rfl rfl _ _ Hrun.out ?_); exact ⟨⟨.slice A3 (m2 + 1) c3, _, .int .i64 ((k : Int) + 1), ⟨k + 1, by omega, m2 + 1, A3, c3, rfl, by go_num, HM3.out, HO3.out⟩, rfl, rfl, rfl⟩, by simp [intOf]; omega⟩
          · have f1 : (dc == (d : Int)) = false := by simpa using he
            rw [if_neg he] at htk; rw [← htk] at HM2 HO2; clear htk; go_wp2; go_roundw
            case rel => exact ⟨k + 1, m2, A2, c2, by omega, rfl, by go_num, HM2.out, HO2.out, HB2.out⟩
            case measure => simp [intOf]; omega
        · obtain rfl : k = n := by omega
          have hall : l.take k = l := List.take_of_length_le (by rw [HL.out]; omega); rw [hall] at HO2 HM2
          have HNL : Hid ((nums l d).length ≤ 1000) := by unfold Hid; have := nums_len l d; have := HL.out; omega
          have HC := Lib.hid (refof_any (nums l d) m2 A2 c2 wr HM2.out (by have := HM2.out; have := HNL.out; omega) HO2.out.rd (fun x hx => by have := (good_num (HGD.out _ (nums_mem.1 hx))).2; exact this))
          have HC' : Hid (Calls Tryz.prog 71 #[.slice A2 m2 c2] wr fun e w' => ∃ A' q' c', e = .returned (.slice A' q' c') ∧ Hid ((part u d).length = q') ∧ Hid (Rd w' w'.heap.size 2 A' q' c' (runsC (part u d))) ∧ Below wr.heap.size wr w') := by
            refine HC.out.mono ?_; rintro e w' ⟨x, A', c', rfl, h1, ho, hb⟩; have := HUB.out d hd4 x h1; subst this; exact ⟨A', _, c', rfl, rfl, ho.rd, hb⟩
          have HO5 : Hid (Own wr w.heap.size 79 3 A' m1 c' (spsC (pre (fun d : Nat => part u d) d))) := own_later HO.out HB2.out; clear hall HC HO HB2; go_wp2_with fail; refine HC'.out.mono ?_; rintro e w3 ⟨A3, q3, c3, rfl, HL3, HR3, hb3⟩; have HB3 := Lib.hid (HBW.out.trans (hb3.mono HBW.out.size)); have HO3 := Lib.hid (own_later HO5.out hb3); clear hb3; have HC4 := Lib.hid (spans_any (part u d) q3 A3 c3 d w3 HL3.out (by have := HQ4.out q3 HL3.out; omega) HR3.out); go_wp2_with fail; refine HC4.out.mono ?_; rintro e w4 ⟨A4, c4, rfl, ho4, hb4⟩; have hO4 := own_later HO3.out hb4; have hB4 := HB3.out.trans (hb4.mono HB3.out.size); obtain ⟨A5, c5, w5, hrun, ho5, hb5⟩ := appsC hO4 ho4.rd (by have := HQ4.out q3 HL3.out; omega) hB4.size; have Hrun := Lib.hid hrun; have HO6 := Lib.hid ho5; have HB5 := Lib.hid (hB4.trans hb5)
          have HM5 : Hid ((pre (fun d : Nat => part u d) (d + 1)).length = m1 + q3) := by
            simp only [pre, List.length_append, Cx.spans_len, Hid]; rw [HM.out, HL3.out]
          clear hb4 ho4 hO4 hB4 hrun ho5 hb5; go_wp2_with (at_builtin; refine Lib.wpList_append_run _ rfl _ _ _ _ rfl _ _ rfl rfl _ _ Hrun.out ?_); go_roundw
          case rel => exact ⟨d + 1, m1 + q3, A5, c5, by omega, rfl, by go_num, HM5.out, HO6.out, HB5.out⟩
          case measure => simp [intOf]; omega
    · obtain rfl : d = 4 := by omega
      have HE : Hid (m1 = q) := by unfold Hid; rw [← HM.out, HUP.out, HQ.out]
      rw [HUP.out, HE.out] at HO; rw [HE.out]; go_wp2; go_ret; exact ⟨_, _, rfl, HO.out, HB.out⟩
end Cx
end Go.Proofs.YtnlojpolfkjkoaaGreat
namespace Go.Proofs.YtnlojpolfkjkoaaGreat
open Go.ChangeShapes Go.WideShapes Go.ChangeAt Go.RowKit
namespace Cx
open Sp Rw
set_option maxRecDepth 100000
end Cx
end Go.Proofs.YtnlojpolfkjkoaaGreat
namespace Go.Proofs.YtnlojpolfkjkoaaGreat
open Go.ChangeShapes Go.WideShapes Go.ChangeAt Go.RowKit
namespace Tr
open Sp Rw
end Tr
end Go.Proofs.YtnlojpolfkjkoaaGreat
