/- Lists of runs laid over, compared; ends of runs, the next one. -/
import Derived.Test.YtcdpmedihgobcaaSpan2
namespace Go.Proofs.Ytcdpmedihgobcaa
open Go.ChangeShapes Go.WideShapes Go.ChangeAt Go.RowKit
namespace Sp
set_option maxRecDepth 100000 in
set_option maxHeartbeats 1000000 in
theorem runs_any (l : List (Int × Int)) (n : Nat) (A : Option Addr) (c : Nat) (w : World) (hl : l.length = n) (hn : n ≤ 800000) (hr : Rd w w.heap.size 2 A n c (runsC l)) :
    Calls Try.prog 12 #[.slice A n c] w fun e w' => ∃ A' c', e = .returned (.slice A' n c') ∧ Own w' w.heap.size 49 2 A' n c' (runsC l) ∧ Below w.heap.size w w' := by
  have HR := Lib.hid hr
  have HL := Lib.hid hl
  clear hr hl
  go_enter Try.func12, Try.ntmps12
  go_wp2
  go_loopw [3, 7] (fun v i wr => ∃ (k : Nat) (A' : Option Addr) (c' : Nat), k ≤ n ∧ v = .slice A' k c' ∧ i = .int .i64 k ∧ Hid (Own wr w.heap.size 49 2 A' k c' (runsC (l.take k))) ∧ Hid (Below w.heap.size w wr)) (fun _ i _ => n - (intOf i).toNat)
  case atStart => exact ⟨0, none, 0, by omega, rfl, rfl, ⟨World.ownsRow_nil _ _ _ _, by simp [runsC]⟩, Below.refl _ _⟩
  case round =>
    obtain ⟨k, A', c', hk, rfl, rfl, HO, HB⟩ := hrel
    by_cases hlt : k < n
    · have hkl : k < l.length := by rw [HL.out]; exact hlt
      obtain ⟨b, o, rfl, hbl, hc⟩ := rd_run HR.out HL.out hlt
      obtain ⟨q0, q1⟩ := hc k hkl
      have htk : l.take (k + 1) = l.take k ++ [l[k]] := List.take_succ_eq_append_getElem hkl
      have hlk : (l.take k).length = k := by rw [List.length_take]; omega
      obtain ⟨p, hp⟩ : ∃ p, p = l[k] := ⟨_, rfl⟩
      rw [← hp] at q0 q1 htk
      obtain ⟨x, y⟩ := p
      have q0 := (HB.out.cell (p := ⟨b, o + k * 2, none⟩) hbl).trans q0
      have q1 := (HB.out.cell (p := ⟨b, o + k * 2 + 1, none⟩) hbl).trans q1
      have hown := HO.out.row
      rw [show k = (l.take k).length from hlk.symm] at hown
      obtain ⟨A2, c2, w2, hrun, ho2, hb2⟩ := push_run Try.underlying24 infoR wr w.heap.size wr.heap.size rfl HB.out.size _ (l.take k) (by rw [hlk] at hown ⊢; exact hown) x y (by rw [hlk]; omega)
      have e2 : (l.take k ++ [(x, y)]).length = k + 1 := by simp [hlk]
      rw [e2] at hrun ho2
      rw [← htk] at ho2
      have Hrun := Lib.hid hrun
      have HO2 := Lib.hid ho2
      have HB2 := Lib.hid (HB.out.trans hb2)
      clear hc hp hrun ho2 hb2 hown htk hlk e2 HO
      go_wp2_with (at_builtin; refine Lib.wpList_append_run _ rfl _ _ _ _ rfl _ _ rfl rfl _ _ Hrun.out ?_)
      go_roundw
      case rel => exact ⟨k + 1, A2, c2, by omega, by go_num, by go_num, HO2.out, HB2.out⟩
      case measure => simp [intOf]; omega
    · obtain rfl : k = n := by omega
      have HE : Hid (l.take k = l) := List.take_of_length_le (by rw [HL.out]; omega)
      rw [HE.out] at HO
      go_wp2
      go_ret
      exact ⟨_, _, rfl, HO.out, HB.out⟩
set_option maxRecDepth 100000 in
set_option maxHeartbeats 1000000 in
theorem plain_any (l : List (Int × Int)) (n : Nat) (A : Option Addr) (c : Nat) (w : World) (hl : l.length = n) (hn : n ≤ 800000) (hr : Rd w w.heap.size 2 A n c (runsC l)) :
    Calls Try.prog 30 #[.slice A n c] w fun e w' => ∃ A' c', e = .returned (.slice A' n c') ∧ Own w' w.heap.size 48 2 A' n c' (runsC l) ∧ Below w.heap.size w w' := by
  have HR := Lib.hid hr
  have HL := Lib.hid hl
  clear hr hl
  go_enter Try.func30, Try.ntmps30
  go_wp2
  go_loopw [3, 7] (fun v i wr => ∃ (k : Nat) (A' : Option Addr) (c' : Nat), k ≤ n ∧ v = .slice A' k c' ∧ i = .int .i64 k ∧ Hid (Own wr w.heap.size 48 2 A' k c' (runsC (l.take k))) ∧ Hid (Below w.heap.size w wr)) (fun _ i _ => n - (intOf i).toNat)
  case atStart => exact ⟨0, none, 0, by omega, rfl, rfl, ⟨World.ownsRow_nil _ _ _ _, by simp [runsC]⟩, Below.refl _ _⟩
  case round =>
    obtain ⟨k, A', c', hk, rfl, rfl, HO, HB⟩ := hrel
    by_cases hlt : k < n
    · have hkl : k < l.length := by rw [HL.out]; exact hlt
      obtain ⟨b, o, rfl, hbl, hc⟩ := rd_run HR.out HL.out hlt
      obtain ⟨q0, q1⟩ := hc k hkl
      have htk : l.take (k + 1) = l.take k ++ [l[k]] := List.take_succ_eq_append_getElem hkl
      have hlk : (l.take k).length = k := by rw [List.length_take]; omega
      obtain ⟨p, hp⟩ : ∃ p, p = l[k] := ⟨_, rfl⟩
      rw [← hp] at q0 q1 htk
      obtain ⟨x, y⟩ := p
      have q0 := (HB.out.cell (p := ⟨b, o + k * 2, none⟩) hbl).trans q0
      have q1 := (HB.out.cell (p := ⟨b, o + k * 2 + 1, none⟩) hbl).trans q1
      have hown := HO.out.row
      rw [show k = (l.take k).length from hlk.symm] at hown
      obtain ⟨A2, c2, w2, hrun, ho2, hb2⟩ := push_run Try.underlying22 infoP wr w.heap.size wr.heap.size rfl HB.out.size _ (l.take k) (by rw [hlk] at hown ⊢; exact hown) x y (by rw [hlk]; omega)
      have e2 : (l.take k ++ [(x, y)]).length = k + 1 := by simp [hlk]
      rw [e2] at hrun ho2
      rw [← htk] at ho2
      have Hrun := Lib.hid hrun
      have HO2 := Lib.hid ho2
      have HB2 := Lib.hid (HB.out.trans hb2)
      clear hc hp hrun ho2 hb2 hown htk hlk e2 HO
      go_wp2_with (at_builtin; refine Lib.wpList_append_run _ rfl _ _ _ _ rfl _ _ rfl rfl _ _ Hrun.out ?_)
      go_roundw
      case rel => exact ⟨k + 1, A2, c2, by omega, by go_num, by go_num, HO2.out, HB2.out⟩
      case measure => simp [intOf]; omega
    · obtain rfl : k = n := by omega
      have HE : Hid (l.take k = l) := List.take_of_length_le (by rw [HL.out]; omega)
      rw [HE.out] at HO
      go_wp2
      go_ret
      exact ⟨_, _, rfl, HO.out, HB.out⟩
theorem cellsI : Try.prog.cellsOf 2 = 1 := by kernel_rfl
theorem eq2 (W : World) (a b c d : Int) : (Op.equalIn 10000 48 (.agg #[.int .i64 a, .int .i64 b]) (.agg #[.int .i64 c, .int .i64 d])).run Try.prog W = Result.ok (a == c && b == d) W := by
  obtain ⟨i0, hi0, _, hz1, _⟩ := info_of infoI
  rw [show (10000 : Nat) = 9999 + 1 from rfl, run_equalIn_array W 9999 _ _ Try.underlying48 hi0, cellsI]
  have hp : Try.prog.plainKey 2 = true := by kernel_rfl
  have he : ∀ (x y : Int) (W : World), (Op.equalIn 9999 2 (.int .i64 x) (.int .i64 y)).run Try.prog W = Result.ok (x == y) W := fun x y W => run_equalIn_int W 9998 2 .i64 .i64 x y Try.underlying2
  have hr : List.range 2 = [0, 1] := rfl
  rw [hr]
  have p0 : ∀ (xs : Array Value) (i : Nat) (v : Value) (W : World), xs[i]? = some v → (Go.part 2 xs i).run Try.prog W = Result.ok v W := fun xs i v W hx => run_part_plain (P := Try.prog) W hp hx
  have q0 := fun W => p0 #[.int .i64 a, .int .i64 b] 0 (.int .i64 a) W rfl
  have q1 := fun W => p0 #[.int .i64 a, .int .i64 b] 1 (.int .i64 b) W rfl
  have r0 := fun W => p0 #[.int .i64 c, .int .i64 d] 0 (.int .i64 c) W rfl
  have r1 := fun W => p0 #[.int .i64 c, .int .i64 d] 1 (.int .i64 d) W rfl
  simp only [Op.eqItems, Sem.run_bind, Nat.mul_one, q0, q1, r0, r1, Result.andThen_ok, he]
  cases h0 : (a == c) <;> cases h1 : (b == d) <;> simp [Sem.run_pure, q0, q1, r0, r1, he, h0, h1]
set_option maxRecDepth 100000 in
set_option maxHeartbeats 1000000 in
theorem refsame_any (a b : List (Int × Int)) (n m : Nat) (A B : Option Addr) (c d : Nat) (w : World) (ha : a.length = n) (hb : b.length = m) (hn : n ≤ 1000000) (hra : Rd w w.heap.size 2 A n c (runsC a)) (hrb : Rd w w.heap.size 2 B m d (runsC b)) :
    Calls Try.prog 33 #[.slice A n c, .slice B m d] w fun e w' => e = .returned (.bool (decide (a = b))) ∧ Below w.heap.size w w' := by
  obtain ⟨z, hz⟩ : ∃ z, z = decide (a = b) := ⟨_, rfl⟩
  rw [← hz]
  have HZ := Lib.hid hz
  clear hz
  have HA := Lib.hid hra
  have HB := Lib.hid hrb
  have HLA := Lib.hid ha
  have HLB := Lib.hid hb
  clear hra hrb ha hb
  by_cases hnm : n = m
  · subst hnm
    have f0 : (n != n) = false := by simp
    go_enter Try.func33, Try.ntmps33
    go_wp2
    go_loopw [13] (fun i wr => ∃ (k : Nat), k ≤ n ∧ i = .int .i64 k ∧ Hid (a.take k = b.take k) ∧ Hid (∃ q, wr = w.drewN q)) (fun i _ => n - (intOf i).toNat)
    case atStart => exact ⟨0, by omega, rfl, Lib.hid (by rw [List.take_zero, List.take_zero]), ⟨0, rfl⟩⟩
    case round =>
      obtain ⟨k, hk, rfl, HT, HQ⟩ := hrel
      obtain ⟨q, rfl⟩ := HQ.out
      by_cases hlt : k < n
      · have hka : k < a.length := by rw [HLA.out]; exact hlt
        have hkb : k < b.length := by rw [HLB.out]; exact hlt
        obtain ⟨g, o, rfl, hgl, hc⟩ := rd_run HA.out HLA.out hlt
        obtain ⟨g2, o2, rfl, hgl2, hc2⟩ := rd_run HB.out HLB.out hlt
        obtain ⟨q0, q1⟩ := hc k hka
        obtain ⟨r0, r1⟩ := hc2 k hkb
        have hT1 : a.take (k + 1) = a.take k ++ [a[k]] := List.take_succ_eq_append_getElem hka
        have hT2 : b.take (k + 1) = b.take k ++ [b[k]] := List.take_succ_eq_append_getElem hkb
        obtain ⟨p, hp⟩ : ∃ p, p = a[k] := ⟨_, rfl⟩
        obtain ⟨s, hs⟩ : ∃ s, s = b[k] := ⟨_, rfl⟩
        rw [← hp] at q0 q1 hT1
        rw [← hs] at r0 r1 hT2
        obtain ⟨x, y⟩ := p
        obtain ⟨u, v⟩ := s
        by_cases he : x = u ∧ y = v
        · obtain ⟨rfl, rfl⟩ := he
          have HT2 : Hid (a.take (k + 1) = b.take (k + 1)) := by unfold Hid; rw [hT1, hT2, HT.out]
          have e2 := fun W => (eq2 W x y x y).trans (show Result.ok (x == x && y == y) W = Result.ok true W by simp)
          clear hc hc2 hT1 hT2 hp hs
          go_wp2
          go_quiet (fail)
          go_wp2
          go_roundw
          case rel => exact ⟨k + 1, by omega, by go_num, HT2.out, ⟨q + _, rfl⟩⟩
          case measure => simp [intOf]; omega
        · have hne : Hid (decide (a = b) = false) := by
            apply decide_eq_false
            rintro rfl
            have := hp.trans hs.symm
            injection this with e1 e2
            exact he ⟨e1, e2⟩
          have hq : (x == u && y == v) = false := by
            cases h : (x == u && y == v) with
            | false => rfl
            | true => simp at h; exact absurd h he
          have e2 := fun W => (eq2 W x y u v).trans (show Result.ok (x == u && y == v) W = Result.ok false W by rw [hq])
          clear hc hc2 hT1 hT2 hp hs
          go_wp2
          go_quiet (fail)
          go_wp2
          go_ret
          exact ⟨ret_bool (by rw [HZ.out, hne.out]), bel_drewN (bel_drewN (Below.refl _ _) _) _⟩
      · have hE : Hid (decide (a = b) = true) := by
          have := HT.out
          rw [List.take_of_length_le (by rw [HLA.out]; omega), List.take_of_length_le (by rw [HLB.out]; omega)] at this
          exact decide_eq_true this
        go_wp2
        go_ret
        exact ⟨ret_bool (by rw [HZ.out, hE.out]), bel_drewN (Below.refl _ _) _⟩
  · have f0 : ((n : Int) != (m : Int)) = true := by simp; omega
    have hne : decide (a = b) = false := by
      apply decide_eq_false
      rintro rfl
      exact hnm (by rw [← HLA.out, HLB.out])
    have HNE := Lib.hid hne
    clear hne
    go_enter Try.func33, Try.ntmps33
    go_wp2
    go_ret
    exact ⟨ret_bool (by rw [HZ.out, HNE.out]), Below.refl _ _⟩
theorem same_any (a b : List (Int × Int)) (n m : Nat) (A B : Option Addr) (c d : Nat) (w : World) (ha : a.length = n) (hb : b.length = m) (hn : n ≤ 800000) (hra : Rd w w.heap.size 2 A n c (runsC a)) (hrb : Rd w w.heap.size 2 B m d (runsC b)) :
    Calls Try.prog 20 #[.slice A n c, .slice B m d] w fun e w' => e = .returned (.bool (decide (a = b))) ∧ Below w.heap.size w w' := by
  have HP := Lib.hid (plain_any a n A c w ha hn hra)
  have HB := Lib.hid hrb
  have HLA := Lib.hid ha
  have HLB := Lib.hid hb
  obtain ⟨x, hx⟩ : ∃ x, x = decide (a = b) := ⟨_, rfl⟩
  rw [← hx]
  have HX := Lib.hid hx
  clear hra hrb ha hb hx
  go_enter Try.func20, Try.ntmps20
  go_wp2_with (first
    | (go_at_call 30; refine HP.out.mono ?_; rintro e w1 ⟨A1, c1, rfl, ho1, hb1⟩; have HO1 := Lib.hid ho1; have HB1 := Lib.hid hb1; clear ho1 hb1)
    | (go_at_call 33; refine (refsame_any a b n m A1 B c1 d w1 HLA.out HLB.out (by omega) HO1.out.rd (HB.out.later HB1.out)).mono ?_; rw [← HX.out]; rintro e w2 ⟨rfl, hb2⟩))
  go_ret
  exact ⟨rfl, HB1.out.trans (hb2.mono HB1.out.size)⟩
end Sp
end Go.Proofs.Ytcdpmedihgobcaa
