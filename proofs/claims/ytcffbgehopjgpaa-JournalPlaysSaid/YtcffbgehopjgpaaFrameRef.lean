/- The document's own frames: a record's; what bytes begin with; what they are as one. -/
import Derived.Test.YtcffbgehopjgpaaFrameBits
import Derived.Test.YtcffbgehopjgpaaCrcRef
import Derived.Test.YtcffbgehopjgpaaByCut
import Derived.OwnWalk
namespace Go.Proofs.Ytcffbgehopjgpaa
open Go.RowKit
namespace Frm
open Crc
/-- new bytes, and a value beside them -/
def RefTup (bs : List UInt8) (k : Value) (w : World) (e : Ending) (w' : World) : Prop :=
  ∃ A c, e = .returned (.tuple #[.slice A bs.length c, k]) ∧ Own w' w.heap.size 5 1 A bs.length c (u8s bs) ∧ Below w.heap.size w w'
set_option maxRecDepth 100000 in
theorem four_any (n : Nat) (w : World) (hn : n < 4294967296) :
    Calls Try.prog 48 #[.int .i64 n] w fun e w' => ∃ A c, e = .returned (.slice A 4 c) ∧ Own w' w.heap.size 5 1 A 4 c (u8s (le4 n)) ∧ Below w.heap.size w w' := by
  go_enter Try.func48, Try.ntmps48
  go_wp2
  go_ret
  have hu : u8s (le4 n) = [Value.int .u8 ((n : Int) % 256), Value.int .u8 ((n : Int) / 256 % 256), Value.int .u8 ((n : Int) / 65536 % 256), Value.int .u8 ((n : Int) / 16777216 % 256)] := by
    simp [u8s, le4]
  refine ⟨_, 4, rfl, ⟨?_, u8s_one _⟩, (Below.refl _ _).alloc (Nat.le_refl _) _⟩
  rw [hu]
  exact World.ownsRow_lit (base := w.heap.size) (e := 5) (size := 1) w #[Value.int .u8 ((n : Int) % 256), Value.int .u8 ((n : Int) / 256 % 256), Value.int .u8 ((n : Int) / 65536 % 256), Value.int .u8 ((n : Int) / 16777216 % 256)] 4 (Nat.le_refl _) (by simp [maxLen]) rfl
set_option maxRecDepth 100000 in
theorem told_any (bs : List UInt8) (n : Nat) (A : Option Addr) (c B : Nat) (w : World) (hl : bs.length = n) (hr : Rd w B 1 A n c (u8s bs)) :
    Calls Try.prog 56 #[.slice A n c] w fun e w' => e = .returned (.int .i64 (if n < 4 then (-1 : Int) else (val4 bs : Int))) ∧ Below w.heap.size w w' := by
  by_cases h4 : n < 4
  · rw [if_pos h4]
    have hd : decide ((n : Int) < 4) = true := by simp; omega
    clear hr hl
    go_enter Try.func56, Try.ntmps56
    go_wp2
    go_ret
    exact ⟨rfl, Below.refl _ _⟩
  · rw [if_neg h4]
    have hd : decide ((n : Int) < 4) = false := by simp; omega
    obtain ⟨x0, x1, x2, x3, y, rfl⟩ := four_of (x := bs) (by omega)
    obtain ⟨b, o, rfl, hbw, hcl⟩ := hr.at_ (by omega)
    have k0 : w.cell? ⟨b, o, none⟩ = some (.int .u8 x0.toNat) := hcl 0 _ rfl
    have k1 : w.cell? ⟨b, o + 1, none⟩ = some (.int .u8 x1.toNat) := hcl 1 _ rfl
    have k2 : w.cell? ⟨b, o + 2, none⟩ = some (.int .u8 x2.toNat) := hcl 2 _ rfl
    have k3 : w.cell? ⟨b, o + 3, none⟩ = some (.int .u8 x3.toNat) := hcl 3 _ rfl
    have b0 := x0.toNat_lt
    have b1 := x1.toNat_lt
    have b2 := x2.toNat_lt
    have b3 := x3.toNat_lt
    show Calls _ _ _ _ (fun e w' => e = .returned (.int .i64 ((x0.toNat + 256 * x1.toNat + 65536 * x2.toNat + 16777216 * x3.toNat : Nat) : Int)) ∧ Below w.heap.size w w')
    obtain ⟨y0, hy0⟩ : ∃ y0, y0 = x0.toNat := ⟨_, rfl⟩
    obtain ⟨y1, hy1⟩ : ∃ y1, y1 = x1.toNat := ⟨_, rfl⟩
    obtain ⟨y2, hy2⟩ : ∃ y2, y2 = x2.toNat := ⟨_, rfl⟩
    obtain ⟨y3, hy3⟩ : ∃ y3, y3 = x3.toNat := ⟨_, rfl⟩
    rw [← hy0] at k0 b0 ⊢
    rw [← hy1] at k1 b1 ⊢
    rw [← hy2] at k2 b2 ⊢
    rw [← hy3] at k3 b3 ⊢
    clear hy0 hy1 hy2 hy3 hr hcl hl
    have HE : Hid (((y0 + 256 * y1 + 65536 * y2 + 16777216 * y3 : Nat) : Int) = (y0 : Int) + 256 * (y1 : Int) + 65536 * (y2 : Int) + 16777216 * (y3 : Int)) := by unfold Hid; omega
    have n0 : (0 : Int) < n := by omega
    have n1 : (1 : Int) < n := by omega
    have n2 : (2 : Int) < n := by omega
    have n3 : (3 : Int) < n := by omega
    go_enter Try.func56, Try.ntmps56
    go_wp2
    go_quiet (fail)
    go_wp2
    go_ret
    refine ⟨?_, bel_drewN (Below.refl _ _) _⟩
    rw [HE.out]
    rfl
set_option maxRecDepth 100000 in
set_option maxHeartbeats 400000 in
theorem refframe_any (bs : List UInt8) (n : Nat) (A : Option Addr) (c B : Nat) (w : World) (hl : bs.length = n) (hn : n ≤ 60000) (hr : Rd w B 1 A n c (u8s bs)) (hB : B ≤ w.heap.size) :
    Calls Try.prog 33 #[.slice A n c] w (RefTup (frm bs) (.bool true) w) := by
  have HR := Lib.hid hr
  have HL := Lib.hid hl
  clear hr hl
  have hd : decide ((60000 : Int) < n) = false := by simp; omega
  obtain ⟨z, hz⟩ : ∃ z, z = crcN (head bs) := ⟨_, rfl⟩
  have hzl : z < 4294967296 := by rw [hz]; exact crc_lt _
  have E2 : Hid (le4 n ++ bs = head bs) := by unfold Hid; rw [← HL.out]; rfl
  have E3 : Hid (head bs ++ le4 z = frm bs) := by unfold Hid; rw [hz]; rfl
  have L2 : Hid ((head bs).length = n + 4) := by unfold Hid; rw [head_len, HL.out]
  have L3 : Hid ((frm bs).length = n + 8) := by unfold Hid; rw [frm_len, HL.out]
  have HZ := Lib.hid hz
  clear hz
  have H1 : ∀ w4 A4 c4, Own w4 w.heap.size 5 1 A4 4 c4 (u8s (le4 n)) → Below w.heap.size w w4 → ∃ A5 c5 w5, Hid ((Builtin.append_ #[23, 23] 23 #[.slice A4 4 c4, .slice A n c]).run Try.prog w4 = .ok (.slice A5 (n + 4) c5) w5) ∧
      Hid (Own w5 w.heap.size 5 1 A5 (n + 4) c5 (u8s (head bs))) ∧ Hid (Below w.heap.size w w5) := by
    intro w4 A4 c4 ho4 hb4
    obtain ⟨A5, c5, w5, hrun, ho5, hb5⟩ := By.run_app8 w4 w.heap.size hb4.size _ (le4 n) ho4.row ((HR.out.keep fun p hp => hb4.cell (by omega)).more (Nat.le_refl _)) (by rw [le4_len]; omega)
    rw [E2.out] at ho5 hrun
    rw [L2.out] at ho5 hrun
    exact ⟨A5, c5, w5, hrun, ho5, hb4.trans hb5⟩
  have H2 : ∀ w5 A5 c5 w6 A6 c6, Own w5 w.heap.size 5 1 A5 (n + 4) c5 (u8s (head bs)) → Below w.heap.size w w5 → Own w6 w5.heap.size 5 1 A6 4 c6 (u8s (le4 z)) → Below w5.heap.size w5 w6 →
      ∃ A7 c7 w7, Hid ((Builtin.append_ #[23, 23] 23 #[.slice A5 (n + 4) c5, .slice A6 4 c6]).run Try.prog w6 = .ok (.slice A7 (n + 8) c7) w7) ∧
      Hid (Own w7 w.heap.size 5 1 A7 (n + 8) c7 (u8s (frm bs))) ∧ Hid (Below w.heap.size w w7) := by
    intro w5 A5 c5 w6 A6 c6 ho5 hb5 ho6 hb6
    have hb := hb5.trans (hb6.mono hb5.size)
    have ho5' := ownsRow_later ho5.row hb6
    obtain ⟨A7, c7, w7, hrun, ho7, hb7⟩ := By.run_app8 w6 w.heap.size hb.size _ (head bs) (by rw [L2.out]; exact ho5') ho6.rd (by rw [L2.out]; omega)
    rw [E3.out] at ho7 hrun
    rw [L3.out] at hrun ho7
    exact ⟨A7, c7, w7, hrun, ho7, hb.trans hb7⟩
  have HH1 := Lib.hid H1
  have HH2 := Lib.hid H2
  clear H1 H2
  go_enter Try.func33, Try.ntmps33
  go_wp2_with (first
    | (at_builtin; first
        | (refine Lib.wpList_append_run _ rfl _ _ _ _ rfl _ _ rfl rfl _ _ Hrun7.out ?_)
        | (refine Lib.wpList_append_run _ rfl _ _ _ _ rfl _ _ rfl rfl _ _ Hrun.out ?_))
    | (go_at_call 49; refine (Crc.refcrc_any (head bs) (n + 4) A5 c5 _ w5 L2.out (by omega) HO5.out.rd).mono ?_; rw [← HZ.out]; rintro e w' ⟨rfl, rfl⟩)
    | (go_at_call 48; first
        | ((with_reducible refine (four_any n w (by omega)).mono ?_); rintro e w4 ⟨A4, c4, rfl, ho4, hb4⟩; obtain ⟨A5, c5, w5, Hrun, HO5, HB5⟩ := HH1.out w4 A4 c4 ho4 hb4; clear ho4 hb4)
        | ((with_reducible refine (four_any z w5 hzl).mono ?_); rintro e w6 ⟨A6, c6, rfl, ho6, hb6⟩; obtain ⟨A7, c7, w7, Hrun7, HO7, HB7⟩ := HH2.out w5 A5 c5 w6 A6 c6 HO5.out HB5.out ho6 hb6; clear ho6 hb6)))
  go_ret2
  refine ⟨A7, c7, ?_, ?_, HB7.out⟩
  · rw [L3.out]; rfl
  · rw [L3.out]; exact HO7.out
theorem refframe_long (n : Nat) (A : Option Addr) (c : Nat) (w : World) (hn : 60000 < n) :
    Calls Try.prog 33 #[.slice A n c] w fun e w' => e = .returned (.tuple #[.slice none 0 0, .bool false]) ∧ w = w' := by
  have hd : decide ((60000 : Int) < n) = true := by simp; omega
  go_enter Try.func33, Try.ntmps33
  go_wp2
  go_ret2
  exact ⟨rfl, rfl⟩
end Frm
end Go.Proofs.Ytcffbgehopjgpaa
