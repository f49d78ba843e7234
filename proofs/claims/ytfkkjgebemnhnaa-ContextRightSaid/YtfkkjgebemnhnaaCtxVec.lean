/- Vectors: may they be, the solid context of one; raised, compared. -/
import Derived.Test.YtfkkjgebemnhnaaCtx4
import Derived.Test.YtfkkjgebemnhnaaDot0
namespace Go.Proofs.Ytfkkjgebemnhnaa
open Go.ChangeShapes Go.WideShapes Go.ChangeAt Go.RowKit
namespace Cx
open Sp Rw
theorem infoI64 : (Try.prog.info? 2).map (fun i => (i.zero, i.size, i.bytes)) = some (some (.int .i64 0), 1, 8) := by kernel_rfl
theorem index_vec (x : Nat → Int) (k : Nat) (hk : k < 4) (W : World) : (Instr.index 26 (.agg #[.int .i64 (x 0), .int .i64 (x 1), .int .i64 (x 2), .int .i64 (x 3)]) (.int .i64 k)).run Try.prog W = .ok (.int .i64 (x k)) W := by
  obtain ⟨i0, hi0, _, hz1, _⟩ := info_of infoI64
  have hs : ∀ W, (sizeOf 2).run Try.prog W = .ok 1 W := fun W => by simp [sizeOf, typeInfo, hi0, hz1]
  have ha : ∀ W, (isAgg 2).run Try.prog W = .ok false W := fun W => by simp [isAgg, run_underlying Try.underlying2]
  rcases (by omega : k = 0 ∨ k = 1 ∨ k = 2 ∨ k = 3) with rfl | rfl | rfl | rfl <;> simp [Instr.index, run_underlying Try.underlying26, asIntOf, go_sem, hs, ha]
theorem boxV (w : World) (x : Nat → Int) : Cells4 (w.alloc (.cells #[.int .i64 (x 0), .int .i64 (x 1), .int .i64 (x 2), .int .i64 (x 3)] 26)) w.heap.size (fun j => .int .i64 (x j)) := Cells4.new w _ _ _ _ _ _ rfl
/-- the solid context of a vector -/
def fullV (x : Nat → Int) : List S3 := pre (fun d => upTo (x d)) 4
def MayV (x : Nat → Int) : Prop := ∀ d, d < 4 → MayB (x d)
theorem upTo_len (v : Int) : (upTo v).length ≤ 1 := by unfold upTo; split <;> simp
theorem preV_len (x : Nat → Int) (d : Nat) (hd : d ≤ 4) : (pre (fun d => upTo (x d)) d).length ≤ 4 := by
  have := pre_len (q := fun d => upTo (x d)) (M := 1) (fun d _ => upTo_len _) d hd
  omega
theorem preV_zero {x : Nat → Int} {d : Nat} (h : ¬ 0 < x d) : pre (fun d => upTo (x d)) (d + 1) = pre (fun d => upTo (x d)) d := by simp [pre, upTo, h, spans]
theorem preV_more {x : Nat → Int} {d : Nat} (h : 0 < x d) : pre (fun d => upTo (x d)) (d + 1) = pre (fun d => upTo (x d)) d ++ [((d : Int), 1, x d)] := by simp [pre, upTo, h, spans]
set_option maxRecDepth 100000 in
set_option maxHeartbeats 1000000 in
theorem refmay_any (x : Nat → Int) (w : World) (b : Bool) (hb : b = true ↔ MayV x) :
    Calls Try.prog 38 #[.agg #[.int .i64 (x 0), .int .i64 (x 1), .int .i64 (x 2), .int .i64 (x 3)]] w fun e w' => e = .returned (.bool b) ∧ Below w.heap.size w w' := by
  have HB := Lib.hid hb
  have HC := Lib.hid (boxV w x)
  have HW := Lib.hid (Dt.box_below w #[.int .i64 (x 0), .int .i64 (x 1), .int .i64 (x 2), .int .i64 (x 3)] 26)
  obtain ⟨p, hp⟩ : ∃ p, p = w.heap.size := ⟨_, rfl⟩
  rw [← hp] at HC
  have HP := Lib.hid hp
  clear hb hp
  go_enter Try.func38, Try.ntmps38
  go_wp2
  rw [← HP.out]
  go_loopw [4] (fun i wr => ∃ (d : Nat), d ≤ 4 ∧ i = .int .i64 d ∧ Hid (∀ j, j < d → MayB (x j)) ∧ Hid (Cells4 wr p (fun j => .int .i64 (x j))) ∧ Hid (Below w.heap.size w wr)) (fun i _ => 4 - (intOf i).toNat)
  case atStart => exact ⟨0, by omega, rfl, fun j hj => by omega, HC.out, HW.out⟩
  case round =>
    clear HC HW
    obtain ⟨d, hd, rfl, HG, HC, HW⟩ := hrel
    by_cases hd4 : d < 4
    · have k0 := HC.out.cell d hd4
      have hdi : (d : Int) < 4 := by omega
      obtain ⟨v, hv⟩ : ∃ v, v = x d := ⟨_, rfl⟩
      have HV := Lib.hid hv
      rw [← hv] at k0
      clear hv
      by_cases h1 : v < 0
      · have f1 : decide (v < 0) = true := by simpa using h1
        have HE : Hid (false = b) := by
          unfold Hid
          cases hbb : b with
          | false => rfl
          | true => have := (HB.out.1 hbb d hd4).1; rw [← HV.out] at this; omega
        go_wp2
        go_ret
        exact ⟨ret_bool HE.out, HW.out⟩
      · have f1 : decide (v < 0) = false := by simpa using h1
        by_cases h2 : 1099511627776 < v
        · have f2 : decide (1099511627776 < v) = true := by simpa using h2
          have HE : Hid (false = b) := by
            unfold Hid
            cases hbb : b with
            | false => rfl
            | true => have := (HB.out.1 hbb d hd4).2; rw [← HV.out] at this; omega
          go_wp2
          go_ret
          exact ⟨ret_bool HE.out, HW.out⟩
        · have f2 : decide (1099511627776 < v) = false := by simpa using h2
          have HG2 : Hid (∀ j, j < d + 1 → MayB (x j)) := fun j hj => by
            rcases (by omega : j < d ∨ j = d) with h | rfl
            · exact HG.out j h
            · rw [← HV.out]; exact ⟨by omega, by omega⟩
          go_wp2
          go_roundw
          case rel => exact ⟨d + 1, by omega, by go_num, HG2.out, HC.out, HW.out⟩
          case measure => simp [intOf]; omega
    · obtain rfl : d = 4 := by omega
      have HE : Hid (true = b) := (HB.out.2 HG.out).symm
      go_wp2
      go_ret
      exact ⟨ret_bool HE.out, HW.out⟩
set_option maxRecDepth 100000 in
set_option maxHeartbeats 1000000 in
theorem reffull_any (x : Nat → Int) (w : World) (q : Nat) (hq : (fullV x).length = q) :
    Calls Try.prog 22 #[.agg #[.int .i64 (x 0), .int .i64 (x 1), .int .i64 (x 2), .int .i64 (x 3)]] w fun e w' => ∃ A' c', e = .returned (.slice A' q c') ∧ Rd w' w'.heap.size 3 A' q c' (spsC (fullV x)) ∧ Below w.heap.size w w' := by
  have HQ := Lib.hid hq
  have HC := Lib.hid (boxV w x)
  have HW := Lib.hid (Dt.box_below w #[.int .i64 (x 0), .int .i64 (x 1), .int .i64 (x 2), .int .i64 (x 3)] 26)
  obtain ⟨p, hp⟩ : ∃ p, p = w.heap.size := ⟨_, rfl⟩
  rw [← hp] at HC
  have HP := Lib.hid hp
  clear hq hp
  go_enter Try.func22, Try.ntmps22
  go_wp2
  rw [← HP.out]
  go_loopw [3, 5] (fun s i wr => ∃ (d m : Nat) (A' : Option Addr) (c' : Nat), d ≤ 4 ∧ s = .slice A' m c' ∧ i = .int .i64 d ∧ Hid ((pre (fun d => upTo (x d)) d).length = m) ∧ Hid (Own wr (p + 1) 46 3 A' m c' (spsC (pre (fun d => upTo (x d)) d))) ∧ Hid (Cells4 wr p (fun j => .int .i64 (x j))) ∧ Hid (Below w.heap.size w wr)) (fun _ i _ => 4 - (intOf i).toNat)
  case atStart => exact ⟨0, 0, none, 0, by omega, rfl, rfl, rfl, ⟨World.ownsRow_nil _ _ _ _, by simp [pre, spsC]⟩, HC.out, HW.out⟩
  case round =>
    clear HC HW
    obtain ⟨d, m, A', c', hd, rfl, rfl, HM, HO, HC, HW⟩ := hrel
    by_cases hd4 : d < 4
    · have k0 := HC.out.cell d hd4
      have hdi : (d : Int) < 4 := by omega
      obtain ⟨v, hv⟩ : ∃ v, v = x d := ⟨_, rfl⟩
      rw [← hv] at k0
      by_cases h1 : 0 < v
      · have f1 : decide (0 < v) = true := by simpa using h1
        have htk := preV_more (x := x) (d := d) (by rw [← hv]; exact h1)
        rw [← hv] at htk
        have hown := HO.out.row
        rw [← HM.out] at hown
        have hps : p + 1 ≤ wr.heap.size := HC.out.free.1
        obtain ⟨A2, c2, w2, hrun, ho2, hb2⟩ := push spC_len spC_one Try.underlying23 infoS rfl (by omega) (by omega) wr (p + 1) wr.heap.size rfl hps _ (pre (fun d => upTo (x d)) d) hown ((d : Int), 1, v) #[.int .i64 d, .int .i64 1, .int .i64 v] rfl (by have := preV_len x d hd; omega)
        rw [← htk] at hrun ho2
        rw [HM.out] at hrun
        obtain ⟨m2, hm2⟩ : ∃ m2, m2 = (pre (fun d => upTo (x d)) (d + 1)).length := ⟨_, rfl⟩
        have e3 : (pre (fun d => upTo (x d)) (d + 1)).flatMap spC = spsC (pre (fun d => upTo (x d)) (d + 1)) := rfl
        rw [← hm2] at hrun
        rw [← hm2, e3] at ho2
        have Hrun := Lib.hid hrun
        have HO2 := Lib.hid ho2
        have HM2 : Hid ((pre (fun d => upTo (x d)) (d + 1)).length = m2) := hm2.symm
        have HC2 : Hid (Cells4 w2 p (fun j => .int .i64 (x j))) := ⟨⟨Nat.lt_of_lt_of_le HC.out.free.1 hb2.size, fun j => (hb2.frozen (p := ⟨p, j, none⟩) (by show p < p + 1; omega)).trans (HC.out.free.2 j)⟩, fun j hj => (hb2.cell (p := ⟨p, j, none⟩) (by show p < p + 1; omega)).trans (HC.out.cell j hj)⟩
        have HW2 := Lib.hid (HW.out.trans (hb2.mono (by rw [HP.out]; omega)))
        clear hrun ho2 hb2 htk hm2 hv e3 HM HO hown
        go_wp2_with (at_builtin; refine Lib.wpList_append_run _ rfl _ _ _ _ rfl _ _ rfl rfl _ _ Hrun.out ?_)
        go_roundw
        case rel => exact ⟨d + 1, m2, A2, c2, by omega, rfl, by go_num, HM2.out, HO2.out, HC2.out, HW2.out⟩
        case measure => simp [intOf]; omega
      · have f1 : decide (0 < v) = false := by simpa using h1
        have htk := preV_zero (x := x) (d := d) (by rw [← hv]; exact h1)
        rw [← htk] at HM HO
        clear htk hv
        go_wp2
        go_roundw
        case rel => exact ⟨d + 1, m, A', c', by omega, rfl, by go_num, HM.out, HO.out, HC.out, HW.out⟩
        case measure => simp [intOf]; omega
    · obtain rfl : d = 4 := by omega
      have HE : Hid (m = q) := by unfold Hid; rw [← HM.out, ← HQ.out]; rfl
      rw [HE.out] at HO ⊢
      go_wp2
      go_ret
      exact ⟨_, _, rfl, HO.out.rd, HW.out⟩
set_option maxRecDepth 100000 in
set_option maxHeartbeats 1000000 in
theorem fullC_any (x : Nat → Int) (w : World) (h : MayV x) (q : Nat) (hq : (fullV x).length = q) :
    Calls Try.prog 37 #[.agg #[.int .i64 (x 0), .int .i64 (x 1), .int .i64 (x 2), .int .i64 (x 3)]] w fun e w' => ∃ A' c', e = .returned (.tuple #[.slice A' q c', .int .i64 0]) ∧ Rd w' w'.heap.size 3 A' q c' (spsC (fullV x)) ∧ Below w.heap.size w w' := by
  have HQ := Lib.hid hq
  have HMY := Lib.hid h
  have HW := Lib.hid (Dt.box_below w #[.int .i64 (x 0), .int .i64 (x 1), .int .i64 (x 2), .int .i64 (x 3)] 26)
  clear hq h
  go_enter Try.func37, Try.ntmps37
  go_wp2
  go_loopw [4, 8] (fun s i wr => ∃ (d m : Nat) (A' : Option Addr) (c' : Nat), d ≤ 4 ∧ s = .slice A' m c' ∧ i = .int .i64 d ∧ Hid ((pre (fun d => upTo (x d)) d).length = m) ∧ Hid (Own wr w.heap.size 46 3 A' m c' (spsC (pre (fun d => upTo (x d)) d))) ∧ Hid (Below w.heap.size w wr)) (fun _ i _ => 4 - (intOf i).toNat)
  case atStart => exact ⟨0, 0, none, 0, by omega, rfl, rfl, rfl, ⟨World.ownsRow_nil _ _ _ _, by simp [pre, spsC]⟩, HW.out⟩
  case round =>
    clear HW
    obtain ⟨d, m, A', c', hd, rfl, rfl, HM, HO, HW⟩ := hrel
    by_cases hd4 : d < 4
    · have hix := index_vec x d hd4
      obtain ⟨v, hv⟩ : ∃ v, v = x d := ⟨_, rfl⟩
      rw [← hv] at hix
      obtain ⟨hv1, hv2⟩ := HMY.out d hd4
      rw [← hv] at hv1 hv2
      have g1 : decide (v < 0) = false := decide_eq_false (by omega)
      have g2 : decide (1099511627776 < v) = false := decide_eq_false (by omega)
      by_cases h1 : 0 < v
      · have f1 : decide (0 < v) = true := by simpa using h1
        have htk := preV_more (x := x) (d := d) (by rw [← hv]; exact h1)
        rw [← hv] at htk
        have hown := HO.out.row
        rw [← HM.out] at hown
        obtain ⟨A2, c2, w2, hrun, ho2, hb2⟩ := push spC_len spC_one Try.underlying23 infoS rfl (by omega) (by omega) wr w.heap.size wr.heap.size rfl HW.out.size _ (pre (fun d => upTo (x d)) d) hown ((d : Int), 1, v) #[.int .i64 d, .int .i64 1, .int .i64 v] rfl (by have := preV_len x d hd; omega)
        rw [← htk] at hrun ho2
        rw [HM.out] at hrun
        obtain ⟨m2, hm2⟩ : ∃ m2, m2 = (pre (fun d => upTo (x d)) (d + 1)).length := ⟨_, rfl⟩
        have e3 : (pre (fun d => upTo (x d)) (d + 1)).flatMap spC = spsC (pre (fun d => upTo (x d)) (d + 1)) := rfl
        rw [← hm2] at hrun
        rw [← hm2, e3] at ho2
        have Hrun := Lib.hid hrun
        have HO2 := Lib.hid ho2
        have HM2 : Hid ((pre (fun d => upTo (x d)) (d + 1)).length = m2) := hm2.symm
        have HW2 := Lib.hid (HW.out.trans hb2)
        clear hrun ho2 hb2 htk hm2 hv e3 HM HO hown
        go_wp2_with (at_builtin; refine Lib.wpList_append_run _ rfl _ _ _ _ rfl _ _ rfl rfl _ _ Hrun.out ?_)
        go_roundw
        case rel => exact ⟨d + 1, m2, A2, c2, by omega, rfl, by go_num, HM2.out, HO2.out, HW2.out⟩
        case measure => simp [intOf]; omega
      · have f1 : decide (0 < v) = false := by simpa using h1
        have htk := preV_zero (x := x) (d := d) (by rw [← hv]; exact h1)
        rw [← htk] at HM HO
        clear htk hv
        go_wp2
        go_roundw
        case rel => exact ⟨d + 1, m, A', c', by omega, rfl, by go_num, HM.out, HO.out, HW.out⟩
        case measure => simp [intOf]; omega
    · obtain rfl : d = 4 := by omega
      have HE : Hid (m = q) := by unfold Hid; rw [← HM.out, ← HQ.out]; rfl
      rw [HE.out] at HO ⊢
      go_wp2
      go_ret2
      exact ⟨_, _, rfl, HO.out.rd, HW.out⟩
set_option maxRecDepth 100000 in
set_option maxHeartbeats 1000000 in
theorem fullC_bad (x : Nat → Int) (w : World) (h : ¬ MayV x) :
    Calls Try.prog 37 #[.agg #[.int .i64 (x 0), .int .i64 (x 1), .int .i64 (x 2), .int .i64 (x 3)]] w fun e w' => e = .returned (.tuple #[.slice none 0 0, .int .i64 1]) ∧ Below w.heap.size w w' := by
  have HMY := Lib.hid h
  have HW := Lib.hid (Dt.box_below w #[.int .i64 (x 0), .int .i64 (x 1), .int .i64 (x 2), .int .i64 (x 3)] 26)
  clear h
  go_enter Try.func37, Try.ntmps37
  go_wp2
  go_loopw [4, 8] (fun s i wr => ∃ (d m : Nat) (A' : Option Addr) (c' : Nat), d ≤ 4 ∧ s = .slice A' m c' ∧ i = .int .i64 d ∧ Hid (∀ j, j < d → MayB (x j)) ∧ Hid ((pre (fun d => upTo (x d)) d).length = m) ∧ Hid (Own wr w.heap.size 46 3 A' m c' (spsC (pre (fun d => upTo (x d)) d))) ∧ Hid (Below w.heap.size w wr)) (fun _ i _ => 4 - (intOf i).toNat)
  case atStart => exact ⟨0, 0, none, 0, by omega, rfl, rfl, fun j hj => by omega, rfl, ⟨World.ownsRow_nil _ _ _ _, by simp [pre, spsC]⟩, HW.out⟩
  case round =>
    clear HW
    obtain ⟨d, m, A', c', hd, rfl, rfl, HG, HM, HO, HW⟩ := hrel
    by_cases hd4 : d < 4
    · have hix := index_vec x d hd4
      obtain ⟨v, hv⟩ : ∃ v, v = x d := ⟨_, rfl⟩
      rw [← hv] at hix
      rcases (by omega : v < 0 ∨ (0 ≤ v ∧ 1099511627776 < v) ∨ (0 ≤ v ∧ v ≤ 1099511627776)) with h | ⟨h, h2⟩ | ⟨hv1, hv2⟩
      · have g1 : decide (v < 0) = true := decide_eq_true h
        go_wp2
        go_ret2
        exact ⟨rfl, HW.out⟩
      · have g1 : decide (v < 0) = false := decide_eq_false (by omega)
        have g2 : decide (1099511627776 < v) = true := decide_eq_true h2
        go_wp2
        go_ret2
        exact ⟨rfl, HW.out⟩
      have HG2 : Hid (∀ j, j < d + 1 → MayB (x j)) := fun j hj => by
        rcases (by omega : j < d ∨ j = d) with h | rfl
        · exact HG.out j h
        · rw [← hv]; exact ⟨by omega, by omega⟩
      have g1 : decide (v < 0) = false := decide_eq_false (by omega)
      have g2 : decide (1099511627776 < v) = false := decide_eq_false (by omega)
      by_cases h1 : 0 < v
      · have f1 : decide (0 < v) = true := by simpa using h1
        have htk := preV_more (x := x) (d := d) (by rw [← hv]; exact h1)
        rw [← hv] at htk
        have hown := HO.out.row
        rw [← HM.out] at hown
        obtain ⟨A2, c2, w2, hrun, ho2, hb2⟩ := push spC_len spC_one Try.underlying23 infoS rfl (by omega) (by omega) wr w.heap.size wr.heap.size rfl HW.out.size _ (pre (fun d => upTo (x d)) d) hown ((d : Int), 1, v) #[.int .i64 d, .int .i64 1, .int .i64 v] rfl (by have := preV_len x d hd; omega)
        rw [← htk] at hrun ho2
        rw [HM.out] at hrun
        obtain ⟨m2, hm2⟩ : ∃ m2, m2 = (pre (fun d => upTo (x d)) (d + 1)).length := ⟨_, rfl⟩
        have e3 : (pre (fun d => upTo (x d)) (d + 1)).flatMap spC = spsC (pre (fun d => upTo (x d)) (d + 1)) := rfl
        rw [← hm2] at hrun
        rw [← hm2, e3] at ho2
        have Hrun := Lib.hid hrun
        have HO2 := Lib.hid ho2
        have HM2 : Hid ((pre (fun d => upTo (x d)) (d + 1)).length = m2) := hm2.symm
        have HW2 := Lib.hid (HW.out.trans hb2)
        clear hrun ho2 hb2 htk hm2 hv e3 HM HO hown
        go_wp2_with (at_builtin; refine Lib.wpList_append_run _ rfl _ _ _ _ rfl _ _ rfl rfl _ _ Hrun.out ?_)
        go_roundw
        case rel => exact ⟨d + 1, m2, A2, c2, by omega, rfl, by go_num, HG2.out, HM2.out, HO2.out, HW2.out⟩
        case measure => simp [intOf]; omega
      · have f1 : decide (0 < v) = false := by simpa using h1
        have htk := preV_zero (x := x) (d := d) (by rw [← hv]; exact h1)
        rw [← htk] at HM HO
        clear htk hv
        go_wp2
        go_roundw
        case rel => exact ⟨d + 1, m, A', c', by omega, rfl, by go_num, HG2.out, HM.out, HO.out, HW.out⟩
        case measure => simp [intOf]; omega
    · exfalso
      obtain rfl : d = 4 := by omega
      exact HMY.out HG.out
end Cx
end Go.Proofs.Ytfkkjgebemnhnaa
