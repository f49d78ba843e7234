/- Texts, each once, rising: the document's. -/
import Derived.Test.YtnlojpolfkjkoaaGreatG20
import Derived.Test.YtnlojpolfkjkoaaGreatG90
import Derived.Test.YtnlojpolfkjkoaaGreatG30
import Derived.Test.YtnlojpolfkjkoaaGreatG00
namespace Go.Proofs.YtnlojpolfkjkoaaGreat
open Go.ChangeShapes Go.WideShapes Go.ChangeAt Go.RowKit
namespace Cs
open Tr Cx Sp Rw Classical
theorem ins_ex (s : ByteArray) : ∀ m : List ByteArray, m.Pairwise ltS → ∃ m' : List ByteArray, m'.Pairwise ltS ∧ m'.length ≤ m.length + 1 ∧ ∀ x, x ∈ m' ↔ x = s ∨ x ∈ m
 | [], _ => ⟨[s], by simp, by simp, by simp⟩
 | a :: m, h => by
  obtain ⟨h1, h2⟩ := List.pairwise_cons.1 h
  rcases tot_str.tri s a with h3 | h3 | h3
  ·refine ⟨s :: a :: m, List.pairwise_cons.2 ⟨fun x hx => ?_, h⟩, by simp, fun x => List.mem_cons⟩
   rcases List.mem_cons.1 hx with rfl | hx
   ·exact h3
   ·exact tot_str.tr _ _ _ h3 (h1 x hx)
  ·subst h3
   exact ⟨s :: m, h, by simp, fun x => by rw [List.mem_cons]; constructor <;> intro h <;> simp_all⟩
  ·obtain ⟨m', h4, h5, h6⟩ := ins_ex s m h2
   refine ⟨a :: m', List.pairwise_cons.2 ⟨fun x hx => ?_, h4⟩, by simp; omega, fun x => ?_⟩
   ·rcases (h6 x).1 hx with rfl | hx
    ·exact h3
    ·exact h1 x hx
   ·rw [List.mem_cons, h6, List.mem_cons]
    constructor
    ·rintro (h | h | h)
     ·exact .inr (.inl h)
     ·exact .inl h
     ·exact .inr (.inr h)
    ·rintro (h | h | h)
     ·exact .inr (.inl h)
     ·exact .inl h
     ·exact .inr (.inr h)
theorem sort_ex : ∀ l : List ByteArray, ∃ m, SortIs l m ∧ m.length ≤ l.length
 | [] => ⟨[], ⟨by simp, fun x => Iff.rfl⟩, by simp⟩
 | a :: l => by
  obtain ⟨m, h1, h2⟩ := sort_ex l; obtain ⟨m', h3, h4, h5⟩ := ins_ex a m h1.rise; exact ⟨m', ⟨h3, fun x => by rw [h5, h1.mem, List.mem_cons]⟩, by simp; omega⟩
theorem lt_bool {a b : ByteArray} (h : ltS a b) : Op.bytesLess a.toList b.toList = true := h
theorem lt_no {a b : ByteArray} (h : ¬ ltS a b) : Op.bytesLess a.toList b.toList = false := by
 cases h2 : Op.bytesLess a.toList b.toList with
 | false => rfl
 | true => exact absurd h2 h
theorem lt_ne {a b : ByteArray} (h : ltS a b) : ¬ a = b := fun e => by subst e; exact tot_str.irr _ h
set_option maxRecDepth 100000 in
set_option maxHeartbeats 4000000 in
theorem refsorted_any (l m : List ByteArray) (n q : Nat) (A : Option Addr) (c : Nat) (w : World) (hs : SortIs l m) (hq : m.length = q) (hq8 : q ≤ 1000) (hn : n ≤ 1000) (hr : Rd w w.heap.size 1 A n c (strs l)) :
  Calls Tryz.prog 22 #[.slice A n c] w fun e w' => ∃ (A' : Option Addr) (c' : Nat), e = .returned (.slice A' q c') ∧ Hid (Rd w' w'.heap.size 1 A' q c' (strs m)) ∧ Below w.heap.size w w' := by
 have HA := Lib.hid hr; have HLA := Lib.hid (rd_len1 hr); have HS := Lib.hid hs; have HQ := Lib.hid hq; clear hr hs hq; go_enter Tryz.func22, Tryz.ntmps22; go_wp2_with fail
 go_loopw [3] (fun v wr => ∃ (i : Nat) (Ax : Option Addr) (cx : Nat), i ≤ q ∧ v = .slice Ax i cx ∧ Hid (Own wr w.heap.size 9 1 Ax i cx (strs (m.take i))) ∧ Hid (Below w.heap.size w wr)) (fun v _ => q + 1 - cntOf (some v))
 case atStart => exact ⟨0, none, 0, by omega, rfl, ⟨World.ownsRow_nil _ _ _ _, by simp [Tr.strs]⟩, Below.refl _ _⟩
 case round =>
  obtain ⟨i, Ax, cx, hi, rfl, HO, HBL⟩ := hrel; obtain ⟨wo, hwo⟩ : ∃ W, W = wr := ⟨_, rfl⟩; subst hwo; go_wp2_with fail
  go_loopw [4, 5, 9] (fun b s z wr => ∃ (k : Nat) (x : Option ByteArray), k ≤ n ∧ z = .int .i64 k ∧ b = .string (bestK x) ∧ s = .bool x.isSome ∧ Hid (LeastOf ltS (l.take k) (Abv ltS m i) x) ∧ Hid (Below wo.heap.size wo wr)) (fun _ _ z _ => n - (intOf z).toNat)
  case atStart => exact ⟨0, none, by omega, rfl, rfl, rfl, by unfold Hid; intro y hy; simp at hy, Below.refl _ _⟩
  case round =>
   obtain ⟨k, x, hk, rfl, rfl, rfl, HLO, HBI⟩ := hrel
   by_cases hlt : k < n
   ·have hka : k < l.length := by rw [HLA.out]; exact hlt
    have hbw := HBL.out.trans (HBI.out.mono HBL.out.size); obtain ⟨g, o, rfl, hgl, hc⟩ := rd_text HA.out (by omega); have q0 := (hbw.cell (p := ⟨g, o + k, none⟩) hgl).trans (hc k hka); have htk : l.take (k + 1) = l.take k ++ [l[k]] := List.take_succ_eq_append_getElem hka; obtain ⟨y, hy⟩ : ∃ y, y = l[k] := ⟨_, rfl⟩; rw [← hy] at q0 htk; have HTK := Lib.hid htk; clear hc hbw htk hy
    by_cases hi0 : i = 0
    ·have fi : ((i : Int) == 0) = true := by simp [hi0]
     have hab : Abv ltS m i y := fun h _ => absurd h (by omega)
     cases x with
     | none =>
      have HLO2 : Hid (LeastOf ltS (l.take (k + 1)) (Abv ltS m i) (some y)) := by
       unfold Hid; rw [HTK.out]; exact least_new tot_str.irr hab HLO.out
      go_wp2_with fail
      go_quiet (fail)
      go_wp2_with fail; go_roundw
      case rel => exact ⟨k + 1, (some y), by omega, by go_num, rfl, rfl, HLO2.out, bel_drewN HBI.out _⟩
      case measure => simp [intOf]; omega
     | some b =>
      by_cases hyb : ltS y b
      ·have f8 : Op.bytesLess y.toList (bestK (some b)).toList = true := lt_bool hyb
       have f9 : Op.bytesLess y.toList b.toList = true := lt_bool hyb
       have HLO2 : Hid (LeastOf ltS (l.take (k + 1)) (Abv ltS m i) (some y)) := by
        unfold Hid; rw [HTK.out]; exact least_less tot_str.irr tot_str.tr hab hyb HLO.out
       go_wp2_with fail
       go_quiet (fail)
       go_wp2_with fail; go_roundw
       case rel => exact ⟨k + 1, (some y), by omega, by go_num, rfl, rfl, HLO2.out, bel_drewN HBI.out _⟩
       case measure => simp [intOf]; omega
      ·have f8 : Op.bytesLess y.toList (bestK (some b)).toList = false := lt_no hyb
       have f9 : Op.bytesLess y.toList b.toList = false := lt_no hyb
       have HLO2 : Hid (LeastOf ltS (l.take (k + 1)) (Abv ltS m i) (some b)) := by
        unfold Hid; rw [HTK.out]; exact least_not hyb HLO.out
       go_wp2_with fail
       go_quiet (fail)
       go_wp2_with fail; go_roundw
       case rel => exact ⟨k + 1, (some b), by omega, by go_num, rfl, rfl, HLO2.out, bel_drewN HBI.out _⟩
       case measure => simp [intOf]; omega
    ·have fi : ((i : Int) == 0) = false := by rw [beq_eq_false_iff_ne]; omega
     obtain ⟨g2, o2, rfl, hgl2, hc2⟩ := rd_text HO.out.rd (by omega)
     have hil : i - 1 < (m.take i).length := by rw [List.length_take, HQ.out]; omega
     have hil2 : i - 1 < m.length := by rw [HQ.out]; omega
     have r0 := (HBI.out.cell (p := ⟨g2, o2 + (i - 1), none⟩) hgl2).trans (hc2 (i - 1) hil); rw [List.getElem_take] at r0; have hA : Abv ltS m i y ↔ ltS m[i - 1] y := ⟨fun h => h (by omega) hil2, fun h _ _ => h⟩; obtain ⟨la, hla⟩ : ∃ z, z = m[i - 1] := ⟨_, rfl⟩; rw [← hla] at r0 hA
     have hkm : IntKind.i64.wrap ((i : Int) - 1) = ((i - 1 : Nat) : Int) := by rw [IntKind.wrap_i64]; omega
     have hkm2 : ((i - 1 : Nat) : Int) < (i : Int) := by omega
     have hkm3 : (0 : Int) ≤ ((i - 1 : Nat) : Int) := by omega
     clear hc2 hla hil
     by_cases hly : ltS la y
     ·have f4 : Op.bytesLess y.toList la.toList = false := lt_no (tot_str.asym hly)
      have f5 : (y.toList == la.toList) = false := bytes_ne fun e => lt_ne hly e.symm; have hab := hA.2 hly
      cases x with
      | none =>
       have HLO2 : Hid (LeastOf ltS (l.take (k + 1)) (Abv ltS m i) (some y)) := by
        unfold Hid; rw [HTK.out]; exact least_new tot_str.irr hab HLO.out
       go_wp2_with fail
       go_quiet (fail)
       go_wp2_with fail; go_roundw
       case rel => exact ⟨k + 1, (some y), by omega, by go_num, rfl, rfl, HLO2.out, bel_drewN HBI.out _⟩
       case measure => simp [intOf]; omega
      | some b =>
       by_cases hyb : ltS y b
       ·have f8 : Op.bytesLess y.toList (bestK (some b)).toList = true := lt_bool hyb
        have f9 : Op.bytesLess y.toList b.toList = true := lt_bool hyb
        have HLO2 : Hid (LeastOf ltS (l.take (k + 1)) (Abv ltS m i) (some y)) := by
         unfold Hid; rw [HTK.out]; exact least_less tot_str.irr tot_str.tr hab hyb HLO.out
        go_wp2_with fail
        go_quiet (fail)
        go_wp2_with fail; go_roundw
        case rel => exact ⟨k + 1, (some y), by omega, by go_num, rfl, rfl, HLO2.out, bel_drewN HBI.out _⟩
        case measure => simp [intOf]; omega
       ·have f8 : Op.bytesLess y.toList (bestK (some b)).toList = false := lt_no hyb
        have f9 : Op.bytesLess y.toList b.toList = false := lt_no hyb
        have HLO2 : Hid (LeastOf ltS (l.take (k + 1)) (Abv ltS m i) (some b)) := by
         unfold Hid; rw [HTK.out]; exact least_not hyb HLO.out
        go_wp2_with fail
        go_quiet (fail)
        go_wp2_with fail; go_roundw
        case rel => exact ⟨k + 1, (some b), by omega, by go_num, rfl, rfl, HLO2.out, bel_drewN HBI.out _⟩
        case measure => simp [intOf]; omega
     ·have hno : ¬ Abv ltS m i y := fun h => hly (hA.1 h)
      by_cases hey : y = la
      ·subst hey
       have f4 : Op.bytesLess y.toList y.toList = false := lt_no (tot_str.irr _)
       have f5 : (y.toList == y.toList) = true := by simp
       have HLO2 : Hid (LeastOf ltS (l.take (k + 1)) (Abv ltS m i) x) := by
        unfold Hid; rw [HTK.out]; exact least_skip hno HLO.out
       go_wp2_with fail
       go_quiet (fail)
       go_wp2_with fail; go_roundw
       case rel => exact ⟨k + 1, x, by omega, by go_num, rfl, rfl, HLO2.out, bel_drewN HBI.out _⟩
       case measure => simp [intOf]; omega
      ·have f4 : Op.bytesLess y.toList la.toList = true := lt_bool ((tot_str.tri y la).resolve_right fun h => h.elim hey hly)
       have f5 : (y.toList == la.toList) = false := bytes_ne hey
       have HLO2 : Hid (LeastOf ltS (l.take (k + 1)) (Abv ltS m i) x) := by
        unfold Hid; rw [HTK.out]; exact least_skip hno HLO.out
       go_wp2_with fail
       go_quiet (fail)
       go_wp2_with fail; go_roundw
       case rel => exact ⟨k + 1, x, by omega, by go_num, rfl, rfl, HLO2.out, bel_drewN HBI.out _⟩
       case measure => simp [intOf]; omega
   ·obtain rfl : k = n := by omega
    have hx : x = m[i]? := by
     have h := HLO.out; rw [List.take_of_length_le (by rw [HLA.out]; omega)] at h; exact least_at tot_str.irr tot_str.tr (fun y => (HS.out.mem y).symm) HS.out.rise (by rw [HQ.out]; exact hi) h
    cases x with
    | none =>
     obtain rfl : q = i := by have h := List.getElem?_eq_none_iff.1 hx.symm; rw [HQ.out] at h; omega
     have HRD : Hid (Rd wr wr.heap.size 1 Ax q cx (strs m)) := by
      have h1 := HO.out; rw [List.take_of_length_le (by rw [HQ.out]; omega)] at h1; exact h1.rd.later HBI.out
     have HB := Lib.hid (HBL.out.trans (HBI.out.mono HBL.out.size)); clear hx; go_wp2_with fail; go_ret; exact ⟨Ax, cx, rfl, HRD.out, HB.out⟩
    | some y =>
     obtain ⟨hil, hy⟩ := List.getElem?_eq_some_iff.1 hx.symm
     have hiq : i < q := by rw [← HQ.out]; exact hil
     have hb1 := HBI.out; obtain ⟨A6, c6, w6, r1, r2, r3⟩ := push_str wr w.heap.size wr.heap.size rfl (own_later HO.out hb1) (Nat.le_trans HBL.out.size hb1.size) y (by omega)
     have HO6 : Hid (Own w6 w.heap.size 9 1 A6 (i + 1) c6 (strs (m.take (i + 1)))) := by unfold Hid; rw [List.take_succ_eq_append_getElem hil, hy]; exact r2
     have HBL6 := Lib.hid ((HBL.out.trans (hb1.mono HBL.out.size)).trans r3); have Hrun := Lib.hid r1; clear r1 r2 r3 hx hy hb1 hil; go_wp2_with (at_builtin; refine Lib.wpList_append_run _ rfl _ _ _ _ rfl _ _ rfl rfl _ _ Hrun.out ?_); go_roundw
     case rel => exact ⟨i + 1, A6, c6, by omega, rfl, HO6.out, HBL6.out⟩
     case measure => simp [cntOf]; omega
end Cs
end Go.Proofs.YtnlojpolfkjkoaaGreat
