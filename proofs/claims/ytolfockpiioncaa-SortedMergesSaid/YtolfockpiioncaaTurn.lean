/- slices' rotation in place at sorted's pairs: ranges exchanged, two neighbours turned. -/
import Derived.Test.YtolfockpiioncaaInsert
import Derived.Test.YtolfockpiioncaaBlocks
namespace Go.Proofs.Ytolfockpiioncaa
open Go.RowKit
namespace SortS
set_option maxRecDepth 100000 in
set_option maxHeartbeats 1000000 in
theorem swap_any (base g n c a b k : Nat) (f : Value) (xs : Ps) (w : World) (hrow : Row base g n c w xs) (hab : a + k ≤ b) (hbn : b + k ≤ n) (hn : n ≤ 1000) :
    Calls Try.prog 56 #[.slice (some ⟨g, 0, none⟩) n c, .int .i64 a, .int .i64 b, .int .i64 k, f] w
      (Turned base g n c (fun ys => Swapped xs ys a b k) w) := by
  have hg := hrow.lt
  have hO := Lib.hid hrow
  clear hrow
  go_enter Try.func56, Try.ntmps56
  go_wp2
  go_loopw [10] (fun v wr => ∃ i : Nat, v = .int .i64 i ∧ i ≤ k ∧ w.grownBy wr (some g) ∧ Hid (∃ ys, Swapping xs ys a b k i ∧ Row base g n c wr ys)) (fun v _ => (k - intOf v).toNat)
  case atStart => exact ⟨0, by go_num, by omega, gb_refl _ _, xs, Swapping.start xs hab (by have := hO.out.1; omega), hO.out⟩
  case round =>
    obtain ⟨i, rfl, hik, hgr, hys⟩ := hrel
    by_cases hlt : i < k
    · obtain ⟨ys, hsw, hrw⟩ := hys.out
      have hlen : ys.length = n := hrw.1
      obtain ⟨p, hp⟩ : ∃ p, p = a + i := ⟨_, rfl⟩
      obtain ⟨q, hq⟩ : ∃ q, q = b + i := ⟨_, rfl⟩
      have hpl : p < ys.length := by omega
      have hql : q < ys.length := by omega
      have hin := hrw.lt
      obtain ⟨x, hx⟩ : ∃ x, x = ys[p] := ⟨_, rfl⟩
      obtain ⟨u, hu⟩ : ∃ u, u = ys[q] := ⟨_, rfl⟩
      have k0 : wr.cell? ⟨g, p * 2, none⟩ = some (.string x.1) := by rw [hx]; exact hrw.fst p hpl
      have k1 : wr.cell? ⟨g, p * 2 + 1, none⟩ = some (.int .i64 x.2) := by rw [hx]; exact hrw.snd p hpl
      have k2 : wr.cell? ⟨g, q * 2, none⟩ = some (.string u.1) := by rw [hu]; exact hrw.fst q hql
      have k3 : wr.cell? ⟨g, q * 2 + 1, none⟩ = some (.int .i64 u.2) := by rw [hu]; exact hrw.snd q hql
      have l0 := hrw.frozen (p * 2)
      have l1 := hrw.frozen (p * 2 + 1)
      have l2 := hrw.frozen (q * 2)
      have l3 := hrw.frozen (q * 2 + 1)
      have HR3 := Lib.hid (hrw.set2 p hpl u)
      have hql2 : q < (ys.set p u).length := by simpa using hql
      have hne : p ≠ q := by omega
      have m2 := HR3.out.fst q hql2
      have m3 := HR3.out.snd q hql2
      rw [List.getElem_set_ne hne, ← hu] at m2 m3
      have hql2' := Lib.hid hql2
      have HRW := Lib.hid hrw
      have HX := Lib.hid hx
      have HU := Lib.hid hu
      have HP := Lib.hid hp
      have HQ := Lib.hid hq
      have hw0 : IntKind.i64.wrap ((a : Int) + i) = (p : Int) := by rw [IntWalk.i64_in _ (by omega)]; omega
      have hw1 : IntKind.i64.wrap ((b : Int) + i) = (q : Int) := by rw [IntWalk.i64_in _ (by omega)]; omega
      have hpn : (p : Int) < n := by omega
      have hqn : (q : Int) < n := by omega
      have hpn' : p < n := by omega
      have hqn' : q < n := by omega
      clear hrw hx hu hp hq hlen hys hql2 hne
      go_wp2
      go_region
      go_wp2
      go_roundw
      case rel => exact ⟨i + 1, by go_num, by omega, gb_drew (gb_set (gb_set (gb_set (gb_set hgr _ _) _ _) _ _) _ _),
        (ys.set p u).set q x, (by
          have ep := HP.out
          have eq' := HQ.out
          have ex := HX.out
          have eu := HU.out
          subst ep eq'
          rw [ex, eu]
          exact hsw.step hlt hpl hql), (HR3.out.set2 q hql2'.out x).drew⟩
      case measure => simp [intOf]; omega
    · obtain rfl : i = k := by omega
      go_wp2
      go_end0
      obtain ⟨ys, hsw, hrw⟩ := hys.out
      exact ⟨rfl, ⟨ys, hsw.stop, hrw⟩, hgr⟩

theorem gb_trans {w w1 w2 : World} {row : Option Nat} (h : w.grownBy w1 row) (k : w1.grownBy w2 row) : w.grownBy w2 row :=
  ⟨k.os.trans h.os, k.tape.trans h.tape, k.output.trans h.output, Nat.le_trans h.size k.size, fun q hq hr => (k.block q (Nat.lt_of_lt_of_le hq h.size) hr).trans (h.block q hq hr)⟩
set_option maxRecDepth 100000 in
set_option maxHeartbeats 1000000 in
theorem rotate_any (base g n c a m b : Nat) (f : Value) (xs : Ps) (w : World) (hrow : Row base g n c w xs) (ham : a < m) (hmb : m < b) (hbn : b ≤ n) (hn : n ≤ 1000) :
    Calls Try.prog 55 #[.slice (some ⟨g, 0, none⟩) n c, .int .i64 a, .int .i64 m, .int .i64 b, f] w
      (Turned base g n c (fun ys => Rotated xs ys a m b) w) := by
  have hg := hrow.lt
  have hO := Lib.hid hrow
  clear hrow
  have hw0 : IntKind.i64.wrap ((m : Int) - a) = ((m - a : Nat) : Int) := by rw [IntWalk.i64_in _ (by omega)]; omega
  have hw1 : IntKind.i64.wrap ((b : Int) - m) = ((b - m : Nat) : Int) := by rw [IntWalk.i64_in _ (by omega)]; omega
  obtain ⟨i0, hi0⟩ : ∃ i0, i0 = m - a := ⟨_, rfl⟩
  obtain ⟨j0, hj0⟩ : ∃ j0, j0 = b - m := ⟨_, rfl⟩
  rw [← hi0] at hw0
  rw [← hj0] at hw1
  have HI0 := Lib.hid hi0
  have HJ0 := Lib.hid hj0
  clear hi0 hj0
  go_enter Try.func55, Try.ntmps55
  go_wp2
  go_loopw [10, 11] (fun v u wr => ∃ i j : Nat, v = .int .i64 i ∧ u = .int .i64 j ∧ 0 < i ∧ 0 < j ∧ i ≤ m ∧ m + j ≤ n ∧ w.grownBy wr (some g) ∧ Hid (∃ ys, Turning xs ys a m b i j ∧ Row base g n c wr ys)) (fun v u _ => (intOf v + intOf u).toNat)
  case atStart => exact ⟨i0, j0, rfl, rfl, by have := HI0.out; omega, by have := HJ0.out; omega, by have := HI0.out; omega, by have := HJ0.out; omega, gb_refl _ _, xs, by rw [HI0.out, HJ0.out]; exact Turning.start xs (by omega) (by omega) (by have := hO.out.1; omega), hO.out⟩
  case round =>
    obtain ⟨i, j, rfl, rfl, hi, hj, him, hjn, hgr, hys⟩ := hrel
    obtain ⟨p, hp⟩ : ∃ p, p = m - i := ⟨_, rfl⟩
    have hwp : IntKind.i64.wrap ((m : Int) - i) = (p : Int) := by rw [IntWalk.i64_in _ (by omega)]; omega
    have hwp' : (m : Int) - i = (p : Int) := by omega
    obtain ⟨ys, htu, hrw⟩ := hys.out
    have HRW := Lib.hid hrw
    have HP := Lib.hid hp
    by_cases hij : i = j
    · subst hij
      have HC := Lib.hid (swap_any base g n c p m i f ys wr hrw (by omega) (by omega) hn)
      clear hrw hys hp
      have hd : decide ((i : Int) = i) = true := by simp
      go_wp2_with (go_at_call 56; refine HC.out.mono ?_; rintro e w2 ⟨rfl, hys2, hgr2⟩; (have HYS := Lib.hid hys2); clear hys2)
      go_end0
      obtain ⟨zs, hsw, hrz⟩ := HYS.out
      refine ⟨rfl, ⟨zs, ?_, hrz⟩, gb_trans hgr hgr2⟩
      rw [HP.out] at hsw
      exact htu.stop hsw
    · have hne : (i : Int) ≠ j := by omega
      by_cases hlt : j < i
      · have HC := Lib.hid (swap_any base g n c p m j f ys wr hrw (by omega) (by omega) hn)
        have hlt' : (j : Int) < i := by omega
        clear hrw hys hp
        go_wp2_with (go_at_call 56; refine HC.out.mono ?_; rintro e w2 ⟨rfl, hys2, hgr2⟩; (have HYS := Lib.hid hys2); clear hys2)
        go_roundw
        case rel =>
          obtain ⟨zs, hsw, hrz⟩ := HYS.out
          refine ⟨i - j, j, by go_num, rfl, by omega, hj, by omega, hjn, gb_trans hgr hgr2, zs, ?_, hrz⟩
          rw [HP.out] at hsw
          exact htu.left hlt hsw
        case measure => simp [intOf]; omega
      · have hlt' : (i : Int) < j := by omega
        obtain ⟨q1, hq1⟩ : ∃ q1, q1 = m + j := ⟨_, rfl⟩
        obtain ⟨q, hq⟩ : ∃ q, q = m + j - i := ⟨_, rfl⟩
        have hwq1 : IntKind.i64.wrap ((m : Int) + j) = (q1 : Int) := by rw [IntWalk.i64_in _ (by omega)]; omega
        have hwq : IntKind.i64.wrap ((q1 : Int) - i) = (q : Int) := by rw [IntWalk.i64_in _ (by omega)]; omega
        have hwq1' : (m : Int) + j = (q1 : Int) := by omega
        have hwq' : (q1 : Int) - i = (q : Int) := by omega
        have HC := Lib.hid (swap_any base g n c p q i f ys wr hrw (by omega) (by omega) hn)
        have HQ := Lib.hid hq
        clear hrw hys hp hq hq1
        go_wp2_with (go_at_call 56; refine HC.out.mono ?_; rintro e w2 ⟨rfl, hys2, hgr2⟩; (have HYS := Lib.hid hys2); clear hys2)
        go_roundw
        case rel =>
          obtain ⟨zs, hsw, hrz⟩ := HYS.out
          refine ⟨i, j - i, rfl, by go_num, hi, by omega, him, by omega, gb_trans hgr hgr2, zs, ?_, hrz⟩
          rw [HP.out, HQ.out] at hsw
          exact htu.right (by omega) hsw
        case measure => simp [intOf]; omega
end SortS
end Go.Proofs.Ytolfockpiioncaa
