/- Package frame: a record's frame; what bytes are as one frame. -/
import Derived.Test.YtcffbgehopjgpaaFrameMem
import Derived.OwnWalk
namespace Go.Proofs.Ytcffbgehopjgpaa
open Go.RowKit
namespace Frm
open Crc
/-- new bytes, and a number beside them -/
def NewTup (bs : List UInt8) (k : Value) (w : World) (e : Ending) (w' : World) : Prop :=
  ∃ A c, e = .returned (.tuple #[.slice A bs.length c, k]) ∧ Own w' w.heap.size 5 1 A bs.length c (u8s bs) ∧ Below w.heap.size w w'
theorem newtup_none (k : Value) (w : World) : NewTup [] k w (.returned (.tuple #[.slice none 0 0, k])) w := ⟨none, 0, rfl, ⟨World.ownsRow_nil _ _ _ _, by simp [u8s]⟩, Below.refl _ _⟩
theorem row_cast {W : World} {base n m : Nat} {v : Value} {bs : List UInt8} (h : W.ownsRow base 5 1 v n (u8s bs)) (hl : bs.length = m) : n = m := by
  have := h.1
  rw [u8s_length] at this
  omega
set_option maxRecDepth 100000 in
set_option maxHeartbeats 400000 in
theorem frame_any (bs : List UInt8) (n : Nat) (A : Option Addr) (c B : Nat) (w : World) (hl : bs.length = n) (hn : n ≤ 60000) (hr : Rd w B 1 A n c (u8s bs)) (hB : B ≤ w.heap.size) :
    Calls Try.prog 30 #[.slice A n c] w (NewTup (frm bs) (.int .i64 0) w) := by
  have HR := Lib.hid hr
  have HL := Lib.hid hl
  clear hr hl
  obtain ⟨i0, hi0, hz0, hz1, hz2⟩ := By.info_parts8
  have hd : decide ((60000 : Int) < n) = false := by simp; omega
  have hb0 : i0.bytes * (n + 8) ≤ 281474976710656 := by rw [hz2]; omega
  have hm0 : n + 8 ≤ maxLen := by simp only [maxLen]; omega
  obtain ⟨z, hz⟩ : ∃ z, z = crcN (head bs) := ⟨_, rfl⟩
  have hzl : z < 4294967296 := by rw [hz]; exact crc_lt _
  have e1 : [] ++ le4 n = le4 n := rfl
  have e2 : le4 n ++ bs = head bs := by rw [← HL.out]; rfl
  have e3 : head bs ++ le4 z = frm bs := by rw [hz]; rfl
  have l2 : (head bs).length = n + 4 := by rw [head_len, HL.out]
  have l3 : (frm bs).length = n + 8 := by rw [frm_len, HL.out]
  have E1 := Lib.hid e1
  have E2 := Lib.hid e2
  have E3 := Lib.hid e3
  have L2 := Lib.hid l2
  have L3 := Lib.hid l3
  have HZ := Lib.hid hz
  clear e1 e2 e3 l2 l3 hz
  go_enter Try.func30, Try.ntmps30
  go_wp2_with (at_make; refine wpList_make_own _ rfl _ _ _ rfl w.heap.size 5 i0 _ 1 Try.underlying23 hi0 hz0 hz1 .i64 .i64 _ (n + 8) rfl rfl (by omega) hb0 hm0 (Nat.le_refl _) ?_; intro w3 hout hg3)
  have hB3 : Below w.heap.size w w3 := (Below.refl _ _).grown hg3 (Nat.le_refl _) (by intro k hk; cases hk)
  refine (put_to [] (le4 n) n 0 4 _ _ w.heap.size w3 rfl (by omega) (by simpa [u8s] using hout) hB3.size (by omega) E1.out rfl).mono ?_
  rintro e w4 ⟨A4, c4, rfl, ho4, hb4⟩
  have HO4 := Lib.hid ho4
  have HB4 := Lib.hid (hB3.trans hb4)
  clear hout hg3 ho4 hb4 hB3
  obtain ⟨A5, c5, w5, hrun, ho5, hb5⟩ := By.run_app8 w4 w.heap.size HB4.out.size _ (le4 n) HO4.out.row ((HR.out.keep fun p hp => HB4.out.cell (by omega)).more (Nat.le_refl _)) (by rw [le4_len]; omega)
  rw [E2.out] at ho5 hrun
  rw [L2.out] at ho5 hrun
  have Hrun := Lib.hid hrun
  have HO5 := Lib.hid ho5
  have HB5 := Lib.hid (HB4.out.trans hb5)
  clear hrun ho5 hb5
  go_wp2_with (first
    | (at_builtin; refine Lib.wpList_append_run _ rfl _ _ _ _ rfl _ _ rfl rfl _ _ Hrun.out ?_)
    | (go_at_call 47; refine (Crc.crc_any (head bs) (n + 4) A5 c5 _ w5 L2.out (by omega) HO5.out.rd).mono ?_; rw [← HZ.out]; rintro e w' ⟨rfl, rfl⟩)
    | (go_at_call 46; refine (put_to (head bs) (frm bs) z (n + 4) (n + 8) A5 c5 w.heap.size w5 L2.out hzl HO5.out.row HB5.out.size (by omega) E3.out L3.out).mono ?_; rintro e w6 ⟨A6, c6, rfl, ho6, hb6⟩))
  go_ret2
  refine ⟨A6, c6, ?_, ?_, HB5.out.trans hb6⟩
  · rw [L3.out]; rfl
  · rw [L3.out]; exact ho6
theorem frame_long (n : Nat) (A : Option Addr) (c : Nat) (w : World) (hn : 60000 < n) :
    Calls Try.prog 30 #[.slice A n c] w fun e w' => e = .returned (.tuple #[.slice none 0 0, .int .i64 3]) ∧ w = w' := by
  have hd : decide ((60000 : Int) < n) = true := by simp; omega
  go_enter Try.func30, Try.ntmps30
  go_wp2
  go_ret2
  exact ⟨rfl, rfl⟩
set_option maxRecDepth 100000 in
set_option maxHeartbeats 400000 in
theorem one_any (bs : List UInt8) (n : Nat) (A : Option Addr) (c : Nat) (w : World) (hl : bs.length = n) (hn : n ≤ 200000) (hr : Rd w w.heap.size 1 A n c (u8s bs)) :
    Calls Try.prog 55 #[.slice A n c] w (NewTup (oneB bs) (.int .i64 (oneE bs)) w) := by
  have HR := Lib.hid hr
  have HL := Lib.hid hl
  clear hr hl
  have HS := Lib.hid (size_any bs n A c _ w HL.out (by omega) HR.out)
  by_cases hf : Fits bs
  · by_cases hm : val4 bs + 8 = n
    · have ht : Told bs := ⟨hf.1, hf.2.1, by rw [HL.out]; exact hm⟩
      have HS1 : Hid (Calls Try.prog 54 #[.slice A n c] w fun e w' => e = .returned (.tuple #[.int .i64 n, .bool true]) ∧ w = w') := HS.out.mono (by
        rintro e w' ⟨rfl, ⟨_, hno⟩ | ⟨m, rfl, _, hmv⟩⟩
        · exact absurd hf hno
        · rw [hm] at hmv
          rw [hmv]
          exact ⟨rfl, rfl⟩)
      obtain ⟨q, hq⟩ : ∃ q, q = n - 4 := ⟨_, rfl⟩
      have h8 : 8 ≤ n := by rw [← HL.out]; exact hf.1
      have eq1 : (n : Int) - 4 = (q : Int) := by omega
      have hc := HR.out.cap
      have hqn : q ≤ n := by omega
      have hqc : q ≤ c := by omega
      have hrt : Rd w w.heap.size 1 A q c (u8s (bs.take q)) := by have := HR.out.to_ hqn; rwa [Nat.mul_one, ← u8s_take] at this
      obtain ⟨A2, hA2⟩ : ∃ A2, A2 = if c = q then A else A.map (·.add (q * 1)) := ⟨_, rfl⟩
      have hrf : Rd w w.heap.size 1 A2 (n - q) (c - q) (u8s (bs.drop q)) := by have := HR.out.from_ hqn; rw [Nat.mul_one, ← u8s_drop] at this; rw [hA2, Nat.mul_one]; exact this
      obtain ⟨i0, hi0, hz0, hz1, hz2⟩ := By.info_parts8
      have hc1 := fun W => run_cut_to (P := Try.prog) 23 5 1 Try.underlying23 hi0 hz1 A n c q hqc W
      have hc2 := fun W => run_cut_from (P := Try.prog) 23 5 1 Try.underlying23 hi0 hz1 A n c q hqn W
      rw [← hA2] at hc2
      have hc3 : ∀ W, (Instr.slice 23 (.slice A q c) (some (.int .i64 4)) none none).run Try.prog W = .ok (.slice (if c = 4 then A else A.map (·.add (4 * 1))) (q - 4) (c - 4)) W :=
        fun W => run_cut_from (P := Try.prog) 23 5 1 Try.underlying23 hi0 hz1 A q c 4 (by omega) W
      obtain ⟨A3, hA3⟩ : ∃ A3, A3 = if c = 4 then A else A.map (·.add (4 * 1)) := ⟨_, rfl⟩
      have hri : Rd w w.heap.size 1 A3 (q - 4) (c - 4) (u8s (inn bs)) := by
        have := hrt.from_ (i := 4) (by omega)
        rw [Nat.mul_one, ← u8s_drop] at this
        rw [hA3, Nat.mul_one]
        unfold inn
        rw [HL.out, ← hq]; exact this
      rw [← hA3] at hc3
      have lt1 : (bs.take q).length = q := by rw [List.length_take, HL.out]; omega
      have lt2 : (bs.drop q).length = n - q := by rw [List.length_drop, HL.out]
      have li : (inn bs).length = q - 4 := by rw [inn_len ht]; omega
      obtain ⟨q4, hq4⟩ : ∃ q4, q4 = q - 4 := ⟨_, rfl⟩
      obtain ⟨d4, hd4⟩ : ∃ d4, d4 = n - q := ⟨_, rfl⟩
      rw [← hq4] at hc3 hri li
      rw [← hd4] at hc2 hrf lt2
      have H1 := Lib.hid (crc_any (bs.take q) q A c _ w.drew lt1 (by omega) hrt.drew)
      have H2 := Lib.hid (get_any (bs.drop q) d4 A2 (c - q) _ w.drew lt2 (by omega) hrf.drew)
      have H3 := Lib.hid (clone_any q4 _ A3 (c - 4) w.drew (by omega) hri.drew)
      obtain ⟨z, hz⟩ : ∃ z, z = crcN (bs.take q) := ⟨_, rfl⟩
      obtain ⟨y, hy⟩ : ∃ y, y = val4 (bs.drop q) := ⟨_, rfl⟩
      rw [← hz] at H1
      rw [← hy] at H2
      have HSum : Hid (Sum bs ↔ y = z) := by unfold Hid Sum; rw [HL.out, ← hq, hz, hy]
      have LI := Lib.hid li
      have HT := Lib.hid ht
      have HM := Lib.hid hm
      have hbl := hq4
      have hn4 : 4 ≤ q := by omega
      clear hz hy hA2 hA3 hrt hrf hri hq hf ht hm li lt1 lt2 hq4 hd4 hbl
      by_cases hzy : y = z
      · have e1 : ((y : Int) == z) = true := by simp; omega
        have e2 : ((y : Int) != z) = false := by simp; omega
        have hE : Hid (oneE bs = 0) := oneE_ok HT.out (HSum.out.2 hzy)
        go_enter Try.func55, Try.ntmps55
        go_wp2_with (go_at_call 54; refine HS1.out.mono ?_; rintro e w' ⟨rfl, rfl⟩)
        go_region
        go_wp2_with (first
          | (go_at_call 57; refine H2.out.mono ?_; rintro e w' ⟨rfl, rfl⟩)
          | (go_at_call 47; refine H1.out.mono ?_; rintro e w' ⟨rfl, rfl⟩)
          | (go_at_call 58; refine H3.out.mono ?_; rintro e w' ⟨A4, c4, rfl, ho, hb⟩))
        go_ret2
        rw [oneB_ok hE.out, hE.out]
        refine ⟨A4, c4, ?_, ?_, (bel_drewN (Below.refl _ _) 1).trans hb⟩
        · rw [LI.out]; rfl
        · rw [LI.out]; exact ho
      · have e1 : ((y : Int) == z) = false := by simp; omega
        have e2 : ((y : Int) != z) = true := by simp; omega
        have hE : Hid (oneE bs = 11) := oneE_sum HT.out fun h => hzy (HSum.out.1 h)
        go_enter Try.func55, Try.ntmps55
        go_wp2_with (go_at_call 54; refine HS1.out.mono ?_; rintro e w' ⟨rfl, rfl⟩)
        go_region
        go_wp2_with (first
          | (go_at_call 57; refine H2.out.mono ?_; rintro e w' ⟨rfl, rfl⟩)
          | (go_at_call 47; refine H1.out.mono ?_; rintro e w' ⟨rfl, rfl⟩))
        go_ret2
        rw [oneB_bad (by rw [hE.out]; decide), hE.out]
        exact ⟨none, 0, rfl, ⟨World.ownsRow_nil _ _ _ _, by simp [u8s]⟩, bel_drewN (Below.refl _ _) 1⟩
    · obtain ⟨m, hm2⟩ : ∃ m, m = val4 bs + 8 := ⟨_, rfl⟩
      have HS1 : Hid (Calls Try.prog 54 #[.slice A n c] w fun e w' => e = .returned (.tuple #[.int .i64 m, .bool true]) ∧ w = w') := HS.out.mono (by
        rintro e w' ⟨rfl, ⟨_, hno⟩ | ⟨m', rfl, _, hmv⟩⟩
        · exact absurd hf hno
        · rw [← hm2] at hmv
          rw [hmv]
          exact ⟨rfl, rfl⟩)
      have e2 : ((m : Int) != n) = true := by simp; omega
      have e1 : ((m : Int) == n) = false := by simp; omega
      have hE : Hid (oneE bs = 2) := oneE_form fun h => hm (by rw [h.2.2, HL.out])
      clear hm hm2 hf
      go_enter Try.func55, Try.ntmps55
      go_wp2_with (go_at_call 54; refine HS1.out.mono ?_; rintro e w' ⟨rfl, rfl⟩)
      go_ret2
      rw [oneB_bad (by rw [hE.out]; decide), hE.out]
      exact newtup_none _ _
  · have HS1 : Hid (Calls Try.prog 54 #[.slice A n c] w fun e w' => e = .returned (.tuple #[.int .i64 0, .bool false]) ∧ w = w') := HS.out.mono (by
      rintro e w' ⟨rfl, ⟨rfl, hno⟩ | ⟨m', rfl, hyes, hmv⟩⟩
      · exact ⟨rfl, rfl⟩
      · exact absurd hyes hf)
    have hE : Hid (oneE bs = 2) := oneE_form fun h => hf ⟨h.1, h.2.1, by rw [h.2.2]; exact Nat.le_refl _⟩
    clear hf
    go_enter Try.func55, Try.ntmps55
    go_wp2_with (go_at_call 54; refine HS1.out.mono ?_; rintro e w' ⟨rfl, rfl⟩)
    go_ret2
    rw [oneB_bad (by rw [hE.out]; decide), hE.out]
    exact newtup_none _ _
end Frm
end Go.Proofs.Ytcffbgehopjgpaa
