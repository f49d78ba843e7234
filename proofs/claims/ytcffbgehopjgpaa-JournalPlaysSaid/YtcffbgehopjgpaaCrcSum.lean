/- Package crc and the document's own sums: one byte more; bytes' sums. -/
import Derived.Test.YtcffbgehopjgpaaCrcBits
import Derived.ProofKit
namespace Go.Proofs.Ytcffbgehopjgpaa
open Go.RowKit
namespace Crc
theorem ret_half {k s x u h : Nat} {v : Int} (hu : halfs k (s ^^^ x) = u) (hh : half u = h) (hv : v = (h : Int)) : Value.int .u32 v = .int .u32 ((halfs (k + 1) (s ^^^ x) : Nat) : Int) := by
  show _ = Value.int .u32 ((half (halfs k (s ^^^ x)) : Nat) : Int)
  rw [hu, hh, hv]
set_option maxRecDepth 100000 in
theorem step_any (s x : Nat) (w : World) (hs : s < 4294967296) (hx : x < 256) :
    Calls Try.prog 52 #[.int .u32 s, .int .u8 x] w fun e w' => e = .returned (.int .u32 (stp s x)) ∧ w = w' := by
  have hxr := xor32 hs (show x < 4294967296 by omega)
  have hw : IntKind.u32.wrap (x : Int) = x := by rw [IntKind.wrap_u32']; omega
  have hbx : bits .xor .u32 (s : Int) (x : Int) = ((s ^^^ x : Nat) : Int) := u32_xor_nat s x hs (by omega)
  go_enter Try.func52, Try.ntmps52
  go_wp2
  go_loop [0, 10] (fun u q => ∃ k : Nat, k ≤ 8 ∧ q = .int .i64 k ∧ u = .int .u32 (halfs k (s ^^^ x))) (fun _ q => 8 - (intOf q).toNat)
  case atStart => exact ⟨0, Nat.zero_le _, rfl, rfl⟩
  case round =>
    clear hbx hw
    obtain ⟨k, hk, rfl, rfl⟩ := hrel
    have hul := halfs_lt hxr k
    obtain ⟨u, hu⟩ : ∃ u, u = halfs k (s ^^^ x) := ⟨_, rfl⟩
    rw [← hu] at hul ⊢
    have HU := Lib.hid hu
    clear hu
    by_cases hlt : k < 8
    · have h2 := Nat.mod_two_eq_zero_or_one u
      rcases h2 with h2 | h2
      · have e1 : bits .and .u32 (u : Int) 1 = 0 := by
          have := u32_and_nat u 1 hul (by omega)
          rw [Nat.and_one_is_mod, h2] at this
          exact this
        go_wp2
        go_round
        case rel => exact ⟨k + 1, by omega, by go_num, ret_half HU.out.symm (half_even h2) (by omega)⟩
        case measure => simp [intOf]; omega
      · have e1 : bits .and .u32 (u : Int) 1 = 1 := by
          have := u32_and_nat u 1 hul (by omega)
          rw [Nat.and_one_is_mod, h2] at this
          exact this
        have e2 : bits .xor .u32 ((u : Int) / 2) 2197175160 = ((u / 2 ^^^ 2197175160 : Nat) : Int) := by
          have := u32_xor_nat (u / 2) 2197175160 (by omega) (by omega)
          rw [← this]; rfl
        go_wp2
        go_round
        case rel => exact ⟨k + 1, by omega, by go_num, ret_half HU.out.symm (half_odd h2) rfl⟩
        case measure => simp [intOf]; omega
    · have hk8 : k = 8 := by omega
      subst hk8
      go_wp2
      go_ret
      rw [HU.out]
      exact ⟨rfl, rfl⟩
theorem not_u32 {u : Nat} (h : u < 4294967296) : bits .xor .u32 IntKind.u32.max (u : Int) = ((u ^^^ ones : Nat) : Int) := by
  have e : IntKind.u32.max = ((ones : Nat) : Int) := by decide
  rw [e, Nat.xor_comm]
  exact u32_xor_nat ones u ones_lt h
theorem ret_u32 {a b : Int} (h : a = b) : Ending.returned (.int .u32 a) = .returned (.int .u32 b) := by rw [h]
set_option maxRecDepth 100000 in
theorem crc_any (bs : List UInt8) (n : Nat) (A : Option Addr) (c B : Nat) (w : World) (hl : bs.length = n) (hn : n ≤ 1000000) (hr : Rd w B 1 A n c (u8s bs)) :
    Calls Try.prog 47 #[.slice A n c] w fun e w' => e = .returned (.int .u32 (crcN bs)) ∧ w = w' := by
  have HR := Lib.hid hr
  have HL := Lib.hid hl
  clear hr hl
  go_enter Try.func47, Try.ntmps47
  go_wp2
  go_loop [3, 8] (fun u q => ∃ i : Nat, i ≤ n ∧ q = .int .i64 i ∧ u = .int .u32 (run ones (bs.take i))) (fun _ q => n - (intOf q).toNat)
  case atStart => exact ⟨0, Nat.zero_le _, rfl, rfl⟩
  case round =>
    obtain ⟨i, hi, rfl, rfl⟩ := hrel
    have hul := run_lt (bs.take i) ones_lt
    obtain ⟨u, hu⟩ : ∃ u, u = run ones (bs.take i) := ⟨_, rfl⟩
    rw [← hu] at hul ⊢
    have HU := Lib.hid hu
    clear hu
    by_cases hlt : i < n
    · have hib : i < bs.length := by rw [HL.out]; exact hlt
      obtain ⟨b, o, rfl, hbw, hcl⟩ := HR.out.at_ (by omega)
      have k0 : w.cell? ⟨b, o + i, none⟩ = some (.int .u8 bs[i].toNat) := hcl i _ (u8s_get bs i hib)
      obtain ⟨x, hx⟩ : ∃ x, x = bs[i].toNat := ⟨_, rfl⟩
      have hx256 : x < 256 := by rw [hx]; exact bs[i].toNat_lt
      rw [← hx] at k0
      have HS : Hid (stp u x = run ones (bs.take (i + 1))) := by
        unfold Hid
        rw [List.take_succ_eq_append_getElem hib, run_snoc, ← HU.out, hx]
      have hin : (i : Int) < n := by omega
      clear hx hcl
      go_wp2_with (go_at_call 52; refine (step_any u x w hul hx256).mono ?_; rintro e w' ⟨rfl, rfl⟩)
      go_round
      case rel => exact ⟨i + 1, by omega, by go_num, by rw [HS.out]⟩
      case measure => simp [intOf]; omega
    · have hE : Hid (bits .xor .u32 IntKind.u32.max (u : Int) = (crcN bs : Int)) := by
        unfold Hid
        rw [not_u32 hul, HU.out, List.take_of_length_le (by rw [HL.out]; omega)]; rfl
      go_wp2
      go_ret
      exact ⟨ret_u32 hE.out, rfl⟩
set_option maxRecDepth 100000 in
theorem mirror_any (r : Nat) (w : World) (hr : r < 4294967296) :
    Calls Try.prog 53 #[.int .u32 r] w fun e w' => e = .returned (.int .u32 (rv 32 r)) ∧ w = w' := by
  go_enter Try.func53, Try.ntmps53
  go_wp2
  go_loop [0, 3, 4] (fun u v q => ∃ k : Nat, k ≤ 32 ∧ q = .int .i64 k ∧ v = .int .u32 (rv k r) ∧ u = .int .u32 (r / 2 ^ k : Nat)) (fun _ _ q => 32 - (intOf q).toNat)
  case atStart => exact ⟨0, Nat.zero_le _, rfl, rfl, by simp⟩
  case round =>
    obtain ⟨k, hk, rfl, rfl, rfl⟩ := hrel
    obtain ⟨u, hu⟩ : ∃ u, u = r / 2 ^ k := ⟨_, rfl⟩
    obtain ⟨v, hv⟩ : ∃ v, v = rv k r := ⟨_, rfl⟩
    have hul : u < 4294967296 := by rw [hu]; exact Nat.lt_of_le_of_lt (Nat.div_le_self _ _) hr
    rw [← hu, ← hv]
    have HU := Lib.hid hu
    have HV := Lib.hid hv
    have hvl := rv_lt k r
    rw [← hv] at hvl
    clear hu hv
    by_cases hlt : k < 32
    · have hv2 : v < 2147483648 := Nat.lt_of_lt_of_le hvl (show 2 ^ k ≤ 2 ^ 31 from Nat.pow_le_pow_right (by omega) (by omega))
      have HV2 : Hid ((2 * v + u % 2 : Nat) = rv (k + 1) r) := by unfold Hid; rw [HV.out, HU.out]; rfl
      have HU2 : Hid ((u / 2 : Nat) = r / 2 ^ (k + 1)) := by unfold Hid; rw [HU.out, Nat.pow_succ, Nat.div_div_eq_div_mul]
      clear hvl
      go_wp2
      go_round
      case rel => exact ⟨k + 1, by omega, by go_num, by rw [← HV2.out]; go_num, by rw [← HU2.out]; go_num⟩
      case measure => simp [intOf]; omega
    · have hk8 : k = 32 := by omega
      subst hk8
      clear hvl
      go_wp2
      go_ret
      rw [HV.out]
      exact ⟨rfl, rfl⟩
end Crc
end Go.Proofs.Ytcffbgehopjgpaa
