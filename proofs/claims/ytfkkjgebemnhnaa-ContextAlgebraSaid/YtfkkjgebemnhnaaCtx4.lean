/- Sets of dots, the program's: center by center, back to a context; two joined. -/
import Derived.Test.YtfkkjgebemnhnaaCtx2
import Derived.Test.YtfkkjgebemnhnaaCells4
import Derived.Test.YtfkkjgebemnhnaaSpanOps0
namespace Go.Proofs.Ytfkkjgebemnhnaa
open Go.ChangeShapes Go.WideShapes Go.ChangeAt Go.RowKit
namespace Cx
open Sp Rw
/-- the first d centers' spans -/
def pre (q : Nat → List (Int × Int)) : Nat → List S3
  | 0 => []
  | d + 1 => pre q d ++ spans d (q d)
theorem pre_four (q : Nat → List (Int × Int)) : pre q 4 = glue fun i => q i.toNat := by simp [pre, glue]
theorem spans_take {d : Int} {l : List (Int × Int)} {k : Nat} (h : k < l.length) {r : Int × Int} (hr : r = l[k]) : spans d (l.take (k + 1)) = spans d (l.take k) ++ [(d, r)] := by
  rw [List.take_succ_eq_append_getElem h, ← hr]
  simp [spans]
theorem spans_len (d : Int) (l : List (Int × Int)) : (spans d l).length = l.length := by simp [spans]
theorem pre_len {q : Nat → List (Int × Int)} {M : Nat} (h : ∀ d, d < 4 → (q d).length ≤ M) : ∀ d, d ≤ 4 → (pre q d).length ≤ d * M
  | 0, _ => by simp [pre]
  | d + 1, hd => by
    have h1 := pre_len h d (by omega)
    have h2 := h d (by omega)
    simp only [pre, List.length_append, spans_len]
    rw [Nat.succ_mul]
    omega
/-- a row of spans of the call's own -/
def CtxOwn (base : Nat) (l : List S3) (w : World) (e : Ending) (w' : World) : Prop := ∃ A c, e = .returned (.slice A l.length c) ∧ Own w' base 46 3 A l.length c (spsC l) ∧ Below base w w'
set_option maxRecDepth 100000 in
set_option maxHeartbeats 1000000 in
theorem context_any (s : Nat → SV) (q : Nat → List (Int × Int)) (w : World) (hq : ∀ d, d < 4 → SvIs w (s d) (q d)) (hn : ∀ d, d < 4 → (q d).length ≤ 200000) :
    Calls Try.prog 50 #[.agg #[.slice (s 0).A (s 0).n (s 0).c, .slice (s 1).A (s 1).n (s 1).c, .slice (s 2).A (s 2).n (s 2).c, .slice (s 3).A (s 3).n (s 3).c]] w (CtxOwn w.heap.size (pre q 4) w) := by
  have c0 := box4 w s 0 (by omega); have c1 := box4 w s 1 (by omega); have c2 := box4 w s 2 (by omega); have c3 := box4 w s 3 (by omega)
  have HQ := Lib.hid hq
  have HN := Lib.hid hn
  clear hq hn
  go_enter Try.func50, Try.ntmps50
  go_wp2
  clear c0 c1 c2 c3
  go_loopw [3, 9] (fun v i wr => ∃ (d m : Nat) (A' : Option Addr) (c' : Nat), d ≤ 4 ∧ v = .slice A' m c' ∧ i = .int .i64 d ∧ Hid (m = (pre q d).length) ∧ Hid (Own wr w.heap.size 46 3 A' m c' (spsC (pre q d))) ∧ Hid (Below w.heap.size w wr)) (fun _ i _ => 4 - (intOf i).toNat)
  case atStart => exact ⟨0, 0, none, 0, by omega, rfl, rfl, rfl, ⟨World.ownsRow_nil _ _ _ _, by simp [pre, spsC]⟩, (Below.refl _ _).alloc (Nat.le_refl _) _⟩
  case round =>
    obtain ⟨d, m, A', c', hd, rfl, rfl, HM, HO, HB⟩ := hrel
    by_cases hd4 : d < 4
    · have hix := index_parts s d hd4
      obtain ⟨sA, sn, sc, hs⟩ : ∃ sA sn sc, s d = ⟨sA, sn, sc⟩ := ⟨_, _, _, rfl⟩
      obtain ⟨l, hl⟩ : ∃ l, l = q d := ⟨_, rfl⟩
      have HSV : Hid (l.length = sn ∧ Rd w w.heap.size 2 sA sn sc (runsC l)) := by
        have := HQ.out d hd4
        rw [hs, ← hl] at this
        exact this
      rw [hs] at hix
      dsimp only at hix
      have hln : l.length ≤ 200000 := by rw [hl]; exact HN.out d hd4
      have HP : Hid (pre q (d + 1) = pre q d ++ spans d l) := by unfold Hid; rw [hl]; rfl
      have hpl := pre_len HN.out d (by omega)
      rw [← HM.out] at hpl
      have hpl2 : m ≤ 800000 := by have : d * 200000 ≤ 4 * 200000 := Nat.mul_le_mul_right _ (by omega); omega
      have hsn : sn ≤ 200000 := by rw [← HSV.out.1]; exact hln
      have HS := Lib.hid hs
      clear hs hl hpl hln
      go_wp2
      go_loopw [3, 15] (fun v i wr => ∃ (k m2 : Nat) (A' : Option Addr) (c' : Nat), k ≤ sn ∧ v = .slice A' m2 c' ∧ i = .int .i64 k ∧ Hid (m2 = (pre q d ++ spans d (l.take k)).length) ∧ Hid (Own wr w.heap.size 46 3 A' m2 c' (spsC (pre q d ++ spans d (l.take k)))) ∧ Hid (Below w.heap.size w wr)) (fun _ i _ => sn - (intOf i).toNat)
      case atStart => exact ⟨0, m, A', c', by omega, rfl, rfl, (by unfold Hid; rw [HM.out]; simp [spans]), (by unfold Hid; rw [List.take_zero]; simpa [spans] using HO.out), HB.out⟩
      case round =>
        clear HO HB HM
        obtain ⟨k, m2, A2, c2, hk, rfl, rfl, HM2, HO2, HB2⟩ := hrel
        by_cases hlt : k < sn
        · have hkl : k < l.length := by rw [HSV.out.1]; exact hlt
          obtain ⟨b, o, rfl, hbl, hc⟩ := rd_run HSV.out.2 HSV.out.1 hlt
          obtain ⟨q0, q1⟩ := hc k hkl
          obtain ⟨p, hp⟩ : ∃ p, p = l[k] := ⟨_, rfl⟩
          have htk := spans_take (d := (d : Int)) hkl hp
          rw [← hp] at q0 q1
          obtain ⟨x, y⟩ := p
          have q0 := (HB2.out.cell (p := ⟨b, o + k * 2, none⟩) hbl).trans q0
          have q1 := (HB2.out.cell (p := ⟨b, o + k * 2 + 1, none⟩) hbl).trans q1
          have hb3 := HB2.out.alloc HB2.out.size (.cells #[.int .i64 x, .int .i64 y] 82)
          have hown := (HO2.out.row).alloc (.cells #[.int .i64 x, .int .i64 y] 82)
          rw [HM2.out] at hown
          have hm2 : (pre q d ++ spans d (l.take k)).length ≤ 900000 := by rw [← HM2.out, HM2.out, List.length_append, spans_len, List.length_take]; have := pre_len HN.out d (by omega); have h4 : d * 200000 ≤ 3 * 200000 := Nat.mul_le_mul_right _ (by omega); omega
          obtain ⟨A3, c3, w3, hrun, ho3, hb4⟩ := push spC_len spC_one Try.underlying23 infoS rfl (by omega) (by omega) (wr.alloc (.cells #[.int .i64 x, .int .i64 y] 82)) w.heap.size (wr.heap.size + 1) (by simp) hb3.size _ (pre q d ++ spans d (l.take k)) hown ((d : Int), x, y) #[.int .i64 d, .int .i64 x, .int .i64 y] rfl hm2
          rw [List.append_assoc, ← htk] at hrun ho3
          rw [← HM2.out] at hrun
          obtain ⟨m3, hm3⟩ : ∃ m3, m3 = (pre q d ++ spans d (l.take (k + 1))).length := ⟨_, rfl⟩
          have e3 : spsC (pre q d ++ spans d (l.take (k + 1))) = (pre q d ++ spans d (l.take (k + 1))).flatMap spC := rfl
          rw [← e3, ← hm3] at ho3
          rw [← hm3] at hrun
          have Hrun := Lib.hid hrun
          have HO3 := Lib.hid ho3
          have HB3 := Lib.hid (hb3.trans hb4)
          have HM3 := Lib.hid hm3
          clear hc hp hrun ho3 hb4 hb3 hown htk hm3 e3 HO2 hm2
          go_wp2_with (at_builtin; refine Lib.wpList_append_run _ rfl _ _ _ _ rfl _ _ rfl rfl _ _ Hrun.out ?_)
          refine ⟨⟨.slice A3 m3 c3, _, .int .i64 ((k : Int) + 1), ⟨k + 1, by omega, m3, A3, c3, rfl, by go_num, ?_, HO3.out⟩, rfl, rfl, rfl⟩, by simp [intOf]; omega⟩
          have := HM3.out
          rwa [List.length_append] at this
        · obtain rfl : k = sn := by omega
          have HE : Hid (l.take k = l) := List.take_of_length_le (by rw [HSV.out.1]; omega)
          rw [HE.out, ← HP.out] at HO2 HM2
          go_wp2
          go_roundw
          case rel => exact ⟨d + 1, m2, A2, c2, by omega, rfl, by go_num, HM2.out, HO2.out, HB2.out⟩
          case measure => simp [intOf]; omega
    · obtain rfl : d = 4 := by omega
      have hm := HM.out
      subst hm
      go_wp2
      go_ret
      exact ⟨_, _, rfl, HO.out, HB.out⟩
end Cx
end Go.Proofs.Ytfkkjgebemnhnaa
