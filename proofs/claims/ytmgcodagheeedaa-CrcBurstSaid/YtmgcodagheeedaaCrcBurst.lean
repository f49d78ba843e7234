/- CrcBurst answers true for all bytes, wherever whatever four are turned, and leaves them as they were. No condition. -/
import Derived.Test.YtmgcodagheeedaaCrcAwake
import Derived.StillTailTactics
import Derived.Laws.StructEq
import Derived.Laws.IdiomArrays
import Derived.ChangeKeysEq
namespace Go.Proofs.Ytmgcodagheeedaa.lawCrcBurst
open Go.ChangeShapes Go.WideShapes Go.ChangeAt Go.RowKit Crc
theorem xor8 (a b : UInt8) : bits .xor .u8 (a.toNat : Int) (b.toNat : Int) = (((a ^^^ b).toNat : Nat) : Int) := by
  rw [UInt8.toNat_xor]; exact u8_xor_nat _ _ a.toNat_lt b.toNat_lt
/-- the text when the first k of the four bytes at i are turned -/
def turn4 (bs : List UInt8) (i : Nat) (by4 : Fin 4 → UInt8) : Nat → List UInt8
  | 0 => bs
  | k + 1 => (turn4 bs i by4 k).set (i + k) (bs[i + k]?.getD 0 ^^^ (if h : k < 4 then by4 ⟨k, h⟩ else 0))
theorem turn4_len (bs : List UInt8) (i : Nat) (f : Fin 4 → UInt8) : ∀ k, (turn4 bs i f k).length = bs.length
  | 0 => rfl
  | k + 1 => by unfold turn4; rw [List.length_set]; exact turn4_len bs i f k
theorem turn4_get (bs : List UInt8) (i : Nat) (f : Fin 4 → UInt8) (j : Nat) : ∀ k, i + k ≤ j → (turn4 bs i f k)[j]? = bs[j]?
  | 0, _ => rfl
  | k + 1, h => by unfold turn4; rw [List.getElem?_set_ne (by omega)]; exact turn4_get bs i f j k (by omega)
theorem turn4_four {bs : List UInt8} {i : Nat} {f : Fin 4 → UInt8} (h : i + 4 ≤ bs.length) (e : crcN (turn4 bs i f 4) = crcN bs) : f 0 = 0 ∧ f 1 = 0 ∧ f 2 = 0 ∧ f 3 = 0 := by
  have h2 : bs = bs.take i ++ [bs[i], bs[i + 1], bs[i + 2], bs[i + 3]] ++ bs.drop (i + 4) := by
    have e1 : bs.drop i = bs[i] :: bs[i + 1] :: bs[i + 2] :: bs[i + 3] :: bs.drop (i + 4) := by
      rw [List.drop_eq_getElem_cons (by omega), List.drop_eq_getElem_cons (by omega), List.drop_eq_getElem_cons (by omega), List.drop_eq_getElem_cons (by omega)]
    conv => lhs; rw [← List.take_append_drop i bs, e1]
    simp
  have h1 : turn4 bs i f 4 = bs.take i ++ [bs[i] ^^^ f 0, bs[i + 1] ^^^ f 1, bs[i + 2] ^^^ f 2, bs[i + 3] ^^^ f 3] ++ bs.drop (i + 4) := by
    have g0 : bs[i]?.getD 0 = bs[i] := by rw [List.getElem?_eq_getElem (by omega)]; rfl
    have g1 : bs[i + 1]?.getD 0 = bs[i + 1] := by rw [List.getElem?_eq_getElem (by omega)]; rfl
    have g2 : bs[i + 2]?.getD 0 = bs[i + 2] := by rw [List.getElem?_eq_getElem (by omega)]; rfl
    have g3 : bs[i + 3]?.getD 0 = bs[i + 3] := by rw [List.getElem?_eq_getElem (by omega)]; rfl
    have hp : turn4 bs i f 4 = (((bs.set i (bs[i] ^^^ f 0)).set (i + 1) (bs[i + 1] ^^^ f 1)).set (i + 2) (bs[i + 2] ^^^ f 2)).set (i + 3) (bs[i + 3] ^^^ f 3) := by
      rw [← g0, ← g1, ← g2, ← g3]; rfl
    rw [hp]
    have hl : (bs.take i).length = i := by rw [List.length_take]; omega
    generalize bs[i] ^^^ f 0 = y0
    generalize bs[i + 1] ^^^ f 1 = y1
    generalize bs[i + 2] ^^^ f 2 = y2
    generalize bs[i + 3] ^^^ f 3 = y3
    conv => lhs; rw [h2]
    rw [List.append_assoc]
    rw [List.set_append_right _ _ (by omega), List.set_append_right _ _ (by omega), List.set_append_right _ _ (by omega), List.set_append_right _ _ (by omega), hl]
    rw [show i - i = 0 by omega, show i + 1 - i = 1 by omega, show i + 2 - i = 2 by omega, show i + 3 - i = 3 by omega, List.append_assoc]
    rfl
  rw [h1] at e
  conv at e => rhs; rw [h2]
  exact burst e
def four (b0 b1 b2 b3 : UInt8) : Fin 4 → UInt8 := fun k => if k.val = 0 then b0 else if k.val = 1 then b1 else if k.val = 2 then b2 else b3
theorem turn4_step {bs : List UInt8} {i k : Nat} (f : Fin 4 → UInt8) (hk : k < 4) (h : i + k < bs.length) : turn4 bs i f (k + 1) = (turn4 bs i f k).set (i + k) (bs[i + k] ^^^ f ⟨k, hk⟩) := by
  show (turn4 bs i f k).set (i + k) _ = _
  rw [List.getElem?_eq_getElem h, dif_pos hk]; rfl
theorem cells8 : Try.prog.cellsOf 5 = 1 := by kernel_rfl
theorem eq4 (W : World) (a b c d : Int) : (Op.equalIn 10000 31 (.agg #[.int .u8 a, .int .u8 b, .int .u8 c, .int .u8 d]) (.agg #[.int .u8 0, .int .u8 0, .int .u8 0, .int .u8 0])).run Try.prog W = Result.ok (a == 0 && (b == 0 && (c == 0 && d == 0))) W := by
  obtain ⟨i0, hi0, _, hz1, _⟩ := By.info_parts8
  rw [show (10000 : Nat) = 9999 + 1 from rfl, run_equalIn_array W 9999 _ _ Try.underlying31 hi0, cells8]
  have hp : Try.prog.plainKey 5 = true := by kernel_rfl
  have he : ∀ (x y : Int) (W : World), (Op.equalIn 9999 5 (.int .u8 x) (.int .u8 y)).run Try.prog W = Result.ok (x == y) W := fun x y W => run_equalIn_int W 9998 5 .u8 .u8 x y Try.underlying5
  have hr : List.range 4 = [0, 1, 2, 3] := rfl
  rw [hr]
  have p0 : ∀ (xs : Array Value) (i : Nat) (v : Value) (W : World), xs[i]? = some v → (Go.part 5 xs i).run Try.prog W = Result.ok v W := fun xs i v W hx => run_part_plain (P := Try.prog) W hp hx
  have q0 := fun W => p0 #[.int .u8 a, .int .u8 b, .int .u8 c, .int .u8 d] 0 (.int .u8 a) W rfl
  have q1 := fun W => p0 #[.int .u8 a, .int .u8 b, .int .u8 c, .int .u8 d] 1 (.int .u8 b) W rfl
  have q2 := fun W => p0 #[.int .u8 a, .int .u8 b, .int .u8 c, .int .u8 d] 2 (.int .u8 c) W rfl
  have q3 := fun W => p0 #[.int .u8 a, .int .u8 b, .int .u8 c, .int .u8 d] 3 (.int .u8 d) W rfl
  have r0 := fun W => p0 #[.int .u8 0, .int .u8 0, .int .u8 0, .int .u8 0] 0 (.int .u8 0) W rfl
  have r1 := fun W => p0 #[.int .u8 0, .int .u8 0, .int .u8 0, .int .u8 0] 1 (.int .u8 0) W rfl
  have r2 := fun W => p0 #[.int .u8 0, .int .u8 0, .int .u8 0, .int .u8 0] 2 (.int .u8 0) W rfl
  have r3 := fun W => p0 #[.int .u8 0, .int .u8 0, .int .u8 0, .int .u8 0] 3 (.int .u8 0) W rfl
  simp only [Op.eqItems, Sem.run_bind, Nat.mul_one, q0, q1, q2, q3, r0, r1, r2, r3, Result.andThen_ok, he]
  cases h0 : (a == 0) <;> cases h1 : (b == 0) <;> cases h2 : (c == 0) <;> cases h3 : (d == 0) <;> simp [Sem.run_pure, q0, q1, q2, q3, r0, r1, r2, r3, he, h0, h1, h2, h3]
set_option maxRecDepth 100000 in
set_option maxHeartbeats 800000 in
theorem walk_any (bs : List UInt8) (A : Option Addr) (c : Nat) (x1 : Int) (b0 b1 b2 b3 : UInt8) (w : World) (hr : Rd w w.heap.size 1 A bs.length c (u8s bs)) (h1 : 0 ≤ x1 ∧ x1 ≤ 4294967295) :
    Calls Try.prog 6 #[.slice A bs.length c, .int .u32 x1, .agg #[.int .u8 b0.toNat, .int .u8 b1.toNat, .int .u8 b2.toNat, .int .u8 b3.toNat]] w fun e w' => e = .returned (.bool true) ∧ Below w.heap.size w w' := by
  obtain ⟨n, hn⟩ : ∃ n, n = bs.length := ⟨_, rfl⟩
  obtain ⟨a, rfl⟩ := Int.eq_ofNat_of_zero_le h1.1
  rw [← hn] at hr ⊢
  have ha : a ≤ 4294967295 := by omega
  clear h1
  obtain ⟨y0, hy0⟩ : ∃ y, y = b0.toNat := ⟨_, rfl⟩
  obtain ⟨y1, hy1⟩ : ∃ y, y = b1.toNat := ⟨_, rfl⟩
  obtain ⟨y2, hy2⟩ : ∃ y, y = b2.toNat := ⟨_, rfl⟩
  obtain ⟨y3, hy3⟩ : ∃ y, y = b3.toNat := ⟨_, rfl⟩
  rw [← hy0, ← hy1, ← hy2, ← hy3]
  have HY0 := Lib.hid hy0
  have HY1 := Lib.hid hy1
  have HY2 := Lib.hid hy2
  have HY3 := Lib.hid hy3
  have HN := Lib.hid hn
  have HR := Lib.hid hr
  clear hr hn hy0 hy1 hy2 hy3
  by_cases hok : n ≤ 100000 ∧ 4 ≤ n
  · obtain ⟨hn1, hn0⟩ := hok
    have f1 : decide ((100000 : Int) < n) = false := by simp; omega
    have f2 : decide ((n : Int) < 4) = false := by simp; omega
    by_cases hz : (y0 = 0 ∧ y1 = 0 ∧ y2 = 0 ∧ y3 = 0)
    · obtain ⟨rfl, rfl, rfl, rfl⟩ := hz
      have e4 := fun W : World => (eq4 W 0 0 0 0)
      go_enter Try.func6, Try.ntmps6
      go_wp2_with (first
        | (go_at_call 8; refine (awake_any w1).mono ?_; rintro e w2 ⟨rfl, hb2⟩)
        | (go_at_call 8; refine (awake_any _).mono ?_; rintro e w1 ⟨rfl, hb1⟩; have hsz := hb1.size; simp at hsz; have k0 : w1.cell? ⟨w.heap.size, 0, none⟩ = some (.int .u8 0) := (hb1.cell (p := ⟨w.heap.size, 0, none⟩) (by simp)).trans (by go_simp); have k1 : w1.cell? ⟨w.heap.size, 1, none⟩ = some (.int .u8 0) := (hb1.cell (p := ⟨w.heap.size, 1, none⟩) (by simp)).trans (by go_simp); have k2 : w1.cell? ⟨w.heap.size, 2, none⟩ = some (.int .u8 0) := (hb1.cell (p := ⟨w.heap.size, 2, none⟩) (by simp)).trans (by go_simp); have k3 : w1.cell? ⟨w.heap.size, 3, none⟩ = some (.int .u8 0) := (hb1.cell (p := ⟨w.heap.size, 3, none⟩) (by simp)).trans (by go_simp)))
      go_ret
      exact ⟨rfl, ((Below.refl _ _).alloc (Nat.le_refl _) _).trans ((hb1.mono (by simp)).trans (hb2.mono (by omega)))⟩
    · have hq : (((y0 : Int) == 0 && ((y1 : Int) == 0 && ((y2 : Int) == 0 && (y3 : Int) == 0))) = false) := by
        have h : ¬ (((y0 : Int) == 0 && ((y1 : Int) == 0 && ((y2 : Int) == 0 && (y3 : Int) == 0))) = true) := by
          simp only [Bool.and_eq_true, beq_iff_eq]; omega
        simpa using h
      have e4 := fun W : World => (eq4 W y0 y1 y2 y3).trans (by rw [hq])
      obtain ⟨m, hm⟩ : ∃ m, m = n - 3 := ⟨_, rfl⟩
      obtain ⟨i, hi⟩ : ∃ i, i = a % m := ⟨_, rfl⟩
      have him : i < m := by rw [hi]; exact Nat.mod_lt _ (by omega)
      have hmod : (a : Int) % (m : Int) = (i : Int) := by rw [hi]; rfl
      have hmod2 : (a : Int).tmod (m : Int) = (i : Int) := by rw [hi]; rfl
      have hwa : IntKind.i64.wrap (a : Int) = a := IntWalk.i64_in _ (by omega)
      have hwm : IntKind.i64.wrap ((n : Int) - 3) = (m : Int) := by rw [IntWalk.i64_in _ (by omega)]; omega
      have hwm2 : (n : Int) - 3 = (m : Int) := by omega
      have hin : i + 4 ≤ n := by omega
      obtain ⟨f, hf⟩ : ∃ f, f = four b0 b1 b2 b3 := ⟨_, rfl⟩
      have hne : Hid (crcN (turn4 bs i f 4) ≠ crcN bs) := by
        intro e
        obtain ⟨e0, e1, e2, e3⟩ := turn4_four (by rw [← HN.out]; exact hin) e
        subst hf
        apply hz
        refine ⟨?_, ?_, ?_, ?_⟩
        · rw [HY0.out, show b0 = 0 from e0]; rfl
        · rw [HY1.out, show b1 = 0 from e1]; rfl
        · rw [HY2.out, show b2 = 0 from e2]; rfl
        · rw [HY3.out, show b3 = 0 from e3]; rfl
      obtain ⟨z, hzz⟩ : ∃ z, z = crcN bs := ⟨_, rfl⟩
      obtain ⟨z', hzz'⟩ : ∃ z, z = crcN (turn4 bs i f 4) := ⟨_, rfl⟩
      have hnz : ((z' : Int) != (z : Int)) = true := by have := hne.out; rw [← hzz', ← hzz] at this; simp only [bne_iff_ne]; omega
      have HZ := Lib.hid hzz
      have HZ' := Lib.hid hzz'
      have HF := Lib.hid hf
      clear hq hm hi hf hzz hzz' hz
      go_enter Try.func6, Try.ntmps6
      go_wp2_with (first
        | (go_at_call 8; refine (awake_any _).mono ?_; rintro e w1 ⟨rfl, hb1⟩; have k0 : w1.cell? ⟨w.heap.size, 0, none⟩ = some (.int .u8 y0) := (hb1.cell (p := ⟨w.heap.size, 0, none⟩) (by simp)).trans (by go_simp); have k1 : w1.cell? ⟨w.heap.size, 1, none⟩ = some (.int .u8 y1) := (hb1.cell (p := ⟨w.heap.size, 1, none⟩) (by simp)).trans (by go_simp); have k2 : w1.cell? ⟨w.heap.size, 2, none⟩ = some (.int .u8 y2) := (hb1.cell (p := ⟨w.heap.size, 2, none⟩) (by simp)).trans (by go_simp); have k3 : w1.cell? ⟨w.heap.size, 3, none⟩ = some (.int .u8 y3) := (hb1.cell (p := ⟨w.heap.size, 3, none⟩) (by simp)).trans (by go_simp); (have hbw : Below w.heap.size w w1 := ((Below.refl _ _).alloc (Nat.le_refl _) _).trans (hb1.mono (by simp))); (have hsz : w.heap.size < w1.heap.size := (by have := hb1.size; simp at this; omega)); have HB := Lib.hid hbw; (have HR' := Lib.hid (Rd.later HR.out hbw)); obtain ⟨g, c', w2, hrun, hc', hg, hwr, hb2⟩ := By.run_copy8 w1 HN.out.symm HR'.out (Nat.le_refl _) (by omega); have Hrun := Lib.hid hrun; have HW := Lib.hid hwr; have HB' := Lib.hid hb2; clear hb1 hbw hrun hwr hb2)
        | (at_builtin; refine Lib.wpList_append_run _ rfl _ _ _ _ rfl _ _ rfl rfl _ _ Hrun.out ?_)
        | fail)
      go_loopw [30] (fun q wr => ∃ k : Nat, k ≤ 4 ∧ q = .int .i64 k ∧ By.Wr wr g (turn4 bs i f k) ∧ Below w1.heap.size w1 wr) (fun q _ => 4 - (intOf q).toNat)
      case atStart => exact ⟨0, Nat.zero_le _, rfl, HW.out, HB'.out⟩
      case round =>
        obtain ⟨k, hk, rfl, hwr, hB⟩ := hrel
        by_cases hlt : k < 4
        · obtain ⟨y, hy⟩ : ∃ y, y = (f ⟨k, hlt⟩).toNat := ⟨_, rfl⟩
          have kb : wr.cell? ⟨w.heap.size, k, none⟩ = some (.int .u8 y) := by
            refine (hB.cell (p := ⟨w.heap.size, k, none⟩) hsz).trans ?_
            rw [hy, HF.out]
            match k, hlt with
            | 0, _ => rw [k0, HY0.out]; rfl
            | 1, _ => rw [k1, HY1.out]; rfl
            | 2, _ => rw [k2, HY2.out]; rfl
            | 3, _ => rw [k3, HY3.out]; rfl
          obtain ⟨j, hj⟩ : ∃ j, j = i + k := ⟨_, rfl⟩
          have hjn : j < n := by omega
          have hjb : j < bs.length := by rw [← HN.out]; exact hjn
          have hjp : j < (turn4 bs i f k).length := by rw [turn4_len]; exact hjb
          have kj := hwr.cell j hjp
          have hge : (turn4 bs i f k)[j] = bs[j] := by
            have := turn4_get bs i f j k (by omega)
            rw [List.getElem?_eq_getElem hjp, List.getElem?_eq_getElem hjb] at this
            injection this
          rw [hge] at kj
          have kf := hwr.free j
          have hx := xor8 bs[j] (f ⟨k, hlt⟩)
          obtain ⟨u, hu⟩ : ∃ u, u = bs[j].toNat := ⟨_, rfl⟩
          obtain ⟨v, hv⟩ : ∃ v, v = (bs[j] ^^^ f ⟨k, hlt⟩).toNat := ⟨_, rfl⟩
          rw [← hu] at kj
          rw [← hu, ← hy, ← hv] at hx
          have hwr2 := hwr.set hjp (bs[j] ^^^ f ⟨k, hlt⟩)
          have hst := turn4_step (bs := bs) (i := i) f hlt (by rw [← hj]; exact hjb)
          simp only [← hj] at hst
          rw [← hst, ← hv] at hwr2
          have HW2 := Lib.hid hwr2
          have HWB := Lib.hid hB
          have hik : (i : Int) + k = (j : Int) := by omega
          have hik2 : IntKind.i64.wrap ((i : Int) + k) = (j : Int) := by rw [IntWalk.i64_in _ (by omega)]; omega
          have hjn' : (j : Int) < n := by omega
          have hm0 : (m : Int) ≠ 0 := by omega
          have hm0' : m ≠ 0 := by omega
          have hwm3 : IntKind.i64.wrap (m : Int) = (m : Int) := IntWalk.i64_in _ (by omega)
          have hwi3 : IntKind.i64.wrap (i : Int) = (i : Int) := IntWalk.i64_in _ (by omega)
          have hwj3 : IntKind.i64.wrap (j : Int) = (j : Int) := IntWalk.i64_in _ (by omega)
          have hj0 : (0 : Int) ≤ j := by omega
          have hk4 : (k : Int) < 4 := by omega
          have HJ := Lib.hid hj
          clear hwr hwr2 hst hge hu hv hy hj hB k0 k1 k2 k3
          go_wp2
          go_still_tail 16, (by kernel_rfl)
          change wpList _ _ _ _ _ wr.drew
          have j0 : wr.drew.cell? ⟨g, j, none⟩ = some (.int .u8 u) := kj
          have jf : wr.drew.frozen? ⟨g, j, none⟩ = false := kf
          have HW3 : Hid (By.Wr (wr.drew.setCell ⟨g, j, none⟩ (.int .u8 v)) g (turn4 bs i f (k + 1))) := HW2.out.drewN 1
          have HWB3 : Hid (Below w1.heap.size w1 (wr.drew.setCell ⟨g, j, none⟩ (.int .u8 v))) := (bel_drewN HWB.out 1).setCell hg _
          clear HW2 HWB kj kf kb
          generalize wr.drew = w3 at *
          go_wp2
          go_roundw
          case rel => exact ⟨k + 1, by omega, by go_num, HW3.out, HWB3.out⟩
          case measure => simp [intOf]; omega
        · have hk4 : k = 4 := by omega
          subst hk4
          have hL : (turn4 bs i f 4).length = n := by rw [turn4_len]; exact HN.out.symm
          have HX := Lib.hid (hwr.rd hL hc')
          have HXL := Lib.hid hL
          have HBB := Lib.hid hB
          have HR3 := Lib.hid (Rd.later HR'.out hB)
          clear hwr hL hB k0 k1 k2 k3
          go_wp2_with (go_at_call 9; first
            | ((with_reducible refine (crc_any _ n (some ⟨g, 0, none⟩) c' _ _ HXL.out (by omega) HX.out).mono ?_); rw [← HZ'.out]; rintro e w' ⟨rfl, rfl⟩)
            | ((with_reducible refine (crc_any bs n A c _ _ HN.out.symm (by omega) HR3.out).mono ?_); rw [← HZ.out]; rintro e w' ⟨rfl, rfl⟩))
          go_ret
          exact ⟨rfl, HB.out.trans (HBB.out.mono HB.out.size)⟩
  · have hg : decide ((100000 : Int) < n) = true ∨ (decide ((100000 : Int) < n) = false ∧ decide ((n : Int) < 4) = true) := by
      by_cases g1 : n ≤ 100000
      · refine .inr ⟨by simp; omega, ?_⟩
        have g2 : n < 4 := by
          rcases Nat.lt_or_ge n 4 with h | h
          · exact h
          · exact absurd ⟨g1, h⟩ hok
        simp; omega
      · exact .inl (by simp; omega)
    clear hok
    rcases hg with g1 | ⟨g1, g2⟩
    all_goals
      go_enter Try.func6, Try.ntmps6
      go_wp2_with (first
        | (go_at_call 8; refine (awake_any w1).mono ?_; rintro e w2 ⟨rfl, hb2⟩)
        | (go_at_call 8; refine (awake_any _).mono ?_; rintro e w1 ⟨rfl, hb1⟩; have hsz := hb1.size; simp at hsz; have k0 : w1.cell? ⟨w.heap.size, 0, none⟩ = some (.int .u8 y0) := (hb1.cell (p := ⟨w.heap.size, 0, none⟩) (by simp)).trans (by go_simp); have k1 : w1.cell? ⟨w.heap.size, 1, none⟩ = some (.int .u8 y1) := (hb1.cell (p := ⟨w.heap.size, 1, none⟩) (by simp)).trans (by go_simp); have k2 : w1.cell? ⟨w.heap.size, 2, none⟩ = some (.int .u8 y2) := (hb1.cell (p := ⟨w.heap.size, 2, none⟩) (by simp)).trans (by go_simp); have k3 : w1.cell? ⟨w.heap.size, 3, none⟩ = some (.int .u8 y3) := (hb1.cell (p := ⟨w.heap.size, 3, none⟩) (by simp)).trans (by go_simp)))
      go_ret
      exact ⟨rfl, ((Below.refl _ _).alloc (Nat.le_refl _) _).trans ((hb1.mono (by simp)).trans (hb2.mono (by omega)))⟩
theorem list4 {l : List Value} (h : l.length = 4) : ∃ a b c d, l = [a, b, c, d] := by
  match l, h with
  | [a, b, c, d], _ => exact ⟨a, b, c, d, rfl⟩
theorem cells4 : Try.prog.cellsOf 31 = 4 := by kernel_rfl
/-- four bytes that came in -/
theorem arr4_of {H : Type} {enc : TypeId × Value → H} {W : World} {base0 base : Nat} {sp : Nat → Bool} {hd : Bool} {v : Value} {d : DataW H} {ps : List MemPlace} (hval : Value.okWide Try.prog W .any base0 31 v) (h : DataW.Trod enc Try.prog W base sp hd 31 v d ps) :
    ∃ b0 b1 b2 b3 : UInt8, v = .agg #[.int .u8 b0.toNat, .int .u8 b1.toNat, .int .u8 b2.toNat, .int .u8 b3.toNat] := by
  obtain ⟨cs, rfl, hsz, _⟩ : ∃ cs, v = .agg cs ∧ cs.size = Try.prog.cellsOf 31 ∧ Row.okWide Try.prog W .any base0 31 cs := by
    simpa [Value.okWide, Try.underlying31] using hval
  rw [cells4] at hsz
  obtain ⟨l⟩ := cs
  obtain ⟨c0, c1, c2, c3, rfl⟩ := list4 hsz
  obtain ⟨fuel, hf⟩ := h
  obtain ⟨y0, y1, y2, y3, m, hx, hy0, hy1, hy2, hy3⟩ := trod_array4 Try.underlying31 cells8 hf
  have one : ∀ (c : Value) (y : DataW H × List MemPlace), DataW.trod enc Try.prog W base sp hd m 5 [c] = some y → ∃ b : UInt8, c = .int .u8 b.toNat := by
    intro c y hy
    obtain ⟨x, e, _, hw⟩ := DataW.trod_int Try.underlying5 hy
    have := By.wf_u8 hw
    injection e with e
    refine ⟨UInt8.ofNat x.toNat, ?_⟩
    rw [e, UInt8.toNat_ofNat']
    congr 1
    omega
  obtain ⟨b0, rfl⟩ := one _ _ hy0
  obtain ⟨b1, rfl⟩ := one _ _ hy1
  obtain ⟨b2, rfl⟩ := one _ _ hy2
  obtain ⟨b3, rfl⟩ := one _ _ hy3
  exact ⟨b0, b1, b2, b3, rfl⟩
set_option maxRecDepth 100000 in
theorem lifted (os : Os) (started : os.Started) (H : Type) (enc : TypeId × Value → H) :
    ReturnsInHanded {} Try.checked os 6 .any (Rows.crcBurstSpec.pre6 enc Try.prog Try.f6 Rows.crcBurstRow.domain false) (Rows.crcBurstSpec.post enc Try.prog Try.f6 false true false false) := by
  refine returnsInHanded_of_change (C := Try.checked) own started (by kernel_rfl) Try.func6
    (ChangeSpec.witness6 (enc := enc) (C := Try.checked) false ⟨#[], #[.slice none 0 0, .int .u32 0, .agg #[.int .u8 0, .int .u8 0, .int .u8 0, .int .u8 0]], []⟩ 8 (by kernel_rfl) (by kernel_rfl) (by kernel_rfl) (by kernel_rfl)) ?_
  intro W base args ds gs before hval0 hW _ _
  have hval : ∀ (j : Nat) t v, Try.f6.params[j]? = some t → args[j]? = some v → Value.okWide Try.prog W .any base t v := hval0
  have hW' := hW
  obtain ⟨p, q, hA0, hV, rfl, hfz, hnd⟩ := hW
  have hA : DataW.TrodAll enc Try.prog W 0 (fun _ => true) true Try.f6.params.toList args.toList ds p := hA0
  rw [Try.params6] at hA hval
  obtain ⟨v0, v1, v2, d0, d1, d2, p0, p1, p2, rfl, rfl, rfl, h0, h1, h2⟩ := trodAll_three hA
  obtain ⟨rfl, rfl⟩ := trodVars_none hV
  obtain ⟨a0, len0, cap0, rfl⟩ := okWide_slice Try.underlying22 (hval 0 22 v0 rfl rfl)
  obtain ⟨fuel0, hf0⟩ := h0
  obtain ⟨bs0, rfl, hr0, _⟩ := By.bytes_of_trod hf0
  obtain ⟨x1, rfl, rfl, rfl, w1⟩ := open_int Try.underlying24 (hval 1 24 v1 rfl rfl) h1
  obtain ⟨y0, y1, y2, y3, rfl⟩ := arr4_of (hval 2 31 v2 rfl rfl) h2
  refine (walk_any bs0 a0 cap0 x1 y0 y1 y2 y3 W hr0 (By.wf_u32 w1)).mono fun e W' ⟨he, hb⟩ => ?_
  subst he
  exact ⟨_, rfl, law_post hW' (by kernel_rfl) rfl rfl rfl hb⟩
theorem proved : Rows.CrcBurstSaid :=
  OpenClaim.holds_of_wide 6 Try.f6 rfl rfl rfl rfl rfl rfl rfl ⟨rfl, rfl, rfl, rfl, rfl⟩ rfl rfl rfl rfl rfl (by kernel_rfl) Try.func6 (by kernel_rfl)
    (of_decide_eq_true (by kernel_rfl)) (by unfold Func.isWrapper; first | (rw [if_pos (by decide +kernel)]; kernel_rfl) | (rw [if_neg (by decide +kernel)]; exact ⟨rfl, rfl⟩))
    (fun os started H enc _ => lifted os started H enc)
#print axioms proved
end Go.Proofs.Ytmgcodagheeedaa.lawCrcBurst
