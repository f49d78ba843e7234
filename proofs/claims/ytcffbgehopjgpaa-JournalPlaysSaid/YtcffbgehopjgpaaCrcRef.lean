/- The document's own sums: bit by bit, from the other end; a text's bytes from the last one to the first one. -/
import Derived.Test.YtcffbgehopjgpaaCrcSum
namespace Go.Proofs.Ytcffbgehopjgpaa
open Go.RowKit
namespace Crc
theorem refbit_lt {r : Nat} (c : Nat) : refbit r c < 4294967296 := by
  unfold refbit
  split
  · omega
  · exact xor32 (by omega) (by omega)
theorem refbits_lt {r : Nat} (hr : r < 4294967296) (x : Nat) : ∀ n, refbits n r x < 4294967296
  | 0 => hr
  | _ + 1 => refbit_lt _
theorem refbit_eq {r c : Nat} (h : r / 2147483648 = c) : refbit r c = 2 * r % 4294967296 := if_pos h
theorem refbit_ne {r c : Nat} (h : r / 2147483648 ≠ c) : refbit r c = 2 * r % 4294967296 ^^^ 517762881 := if_neg h
set_option maxRecDepth 100000 in
set_option maxHeartbeats 400000 in
theorem refcrc_any (bs : List UInt8) (n : Nat) (A : Option Addr) (c B : Nat) (w : World) (hl : bs.length = n) (hn : n ≤ 1000000) (hr : Rd w B 1 A n c (u8s bs)) :
    Calls Try.prog 49 #[.slice A n c] w fun e w' => e = .returned (.int .u32 (crcN bs)) ∧ w = w' := by
  have HR := Lib.hid hr
  have HL := Lib.hid hl
  clear hr hl
  go_enter Try.func49, Try.ntmps49
  go_wp2
  go_loop [3, 9] (fun u q => ∃ i : Nat, i ≤ n ∧ q = .int .i64 i ∧ u = .int .u32 (rv 32 (run ones (bs.take i)))) (fun _ q => n - (intOf q).toNat)
  case atStart => exact ⟨0, Nat.zero_le _, rfl, by rw [show rv 32 (run ones (bs.take 0)) = ones from rv_ones]; rfl⟩
  case round =>
    obtain ⟨i, hi, rfl, rfl⟩ := hrel
    have hul := run_lt (bs.take i) ones_lt
    obtain ⟨s, hs⟩ : ∃ s, s = run ones (bs.take i) := ⟨_, rfl⟩
    have hrl : rv 32 s < 4294967296 := rv_lt 32 s
    rw [← hs] at hul ⊢
    obtain ⟨r, hr⟩ : ∃ r, r = rv 32 s := ⟨_, rfl⟩
    rw [← hr] at hrl ⊢
    have HU := Lib.hid hs
    have HV := Lib.hid hr
    clear hs hr
    by_cases hlt : i < n
    · have hib : i < bs.length := by rw [HL.out]; exact hlt
      obtain ⟨b, o, rfl, hbw, hcl⟩ := HR.out.at_ (by omega)
      have k0 : w.cell? ⟨b, o + i, none⟩ = some (.int .u8 bs[i].toNat) := hcl i _ (u8s_get bs i hib)
      have HS : Hid (refbits 8 r bs[i].toNat = rv 32 (run ones (bs.take (i + 1)))) := by
        unfold Hid
        rw [List.take_succ_eq_append_getElem hib, run_snoc, ← HU.out, ← ref_stp hul, HV.out]
      obtain ⟨x, hx⟩ : ∃ x, x = bs[i].toNat := ⟨_, rfl⟩
      have hx256 : x < 256 := by rw [hx]; exact bs[i].toNat_lt
      rw [← hx] at k0 HS
      have hin : (i : Int) < n := by omega
      have hwx : IntKind.u32.wrap (x : Int) = x := by rw [IntKind.wrap_u32']; omega
      clear hx hcl
      go_wp2
      go_loop [3, 5, 17] (fun u v q => ∃ j : Nat, j ≤ 8 ∧ q = .int .i64 j ∧ u = .int .u32 (refbits j r x) ∧ v = .int .u32 (x / 2 ^ j : Nat)) (fun _ _ q => 8 - (intOf q).toNat)
      case atStart => exact ⟨0, Nat.zero_le _, rfl, rfl, by simp⟩
      case round =>
        clear hwx k0
        obtain ⟨j, hj, rfl, rfl, rfl⟩ := hrel
        have hpl := refbits_lt hrl x j
        obtain ⟨p, hp⟩ : ∃ p, p = refbits j r x := ⟨_, rfl⟩
        obtain ⟨y, hy⟩ : ∃ y, y = x / 2 ^ j := ⟨_, rfl⟩
        have hyl : y < 256 := by rw [hy]; exact Nat.lt_of_le_of_lt (Nat.div_le_self _ _) hx256
        rw [← hp] at hpl
        rw [← hp, ← hy]
        have HY2 : Hid ((y / 2 : Nat) = x / 2 ^ (j + 1)) := by unfold Hid; rw [hy, Nat.pow_succ, Nat.div_div_eq_div_mul]
        have HP2 : Hid (refbits (j + 1) r x = refbit p (y % 2)) := by unfold Hid; rw [hy, hp]; rfl
        have HP := Lib.hid hp
        clear hp hy
        have hw2 : IntKind.u32.wrap (2 * (p : Int)) = ((2 * p % 4294967296 : Nat) : Int) := by rw [IntKind.wrap_u32']; omega
        by_cases hlt2 : j < 8
        · by_cases ht : p / 2147483648 = y % 2
          · have ht1 : ((p : Int) / 2147483648 == (y : Int) % 2) = true := by simp; omega
            have ht2 : ((p : Int) / 2147483648 != (y : Int) % 2) = false := by simp; omega
            have HF : Hid (2 * p % 4294967296 = refbits (j + 1) r x) := by unfold Hid; rw [HP2.out, refbit_eq ht]
            clear ht
            go_wp2
            go_round
            case rel => exact ⟨j + 1, by omega, by go_num, by rw [← HF.out]; first | rfl | go_num, by rw [← HY2.out]; go_num⟩
            case measure => simp [intOf]; omega
          · have ht1 : ((p : Int) / 2147483648 == (y : Int) % 2) = false := by simp; omega
            have ht2 : ((p : Int) / 2147483648 != (y : Int) % 2) = true := by simp; omega
            have HF : Hid ((2 * p % 4294967296 ^^^ 517762881 : Nat) = refbits (j + 1) r x) := by unfold Hid; rw [HP2.out, refbit_ne ht]
            have hx2 : bits .xor .u32 ((2 * p % 4294967296 : Nat) : Int) 517762881 = ((2 * p % 4294967296 ^^^ 517762881 : Nat) : Int) := u32_xor_nat _ 517762881 (by omega) (by omega)
            have hx3 : bits .xor .u32 (2 * (p : Int) % 4294967296) 517762881 = ((2 * p % 4294967296 ^^^ 517762881 : Nat) : Int) := hx2
            clear ht
            go_wp2
            go_round
            case rel => exact ⟨j + 1, by omega, by go_num, by rw [← HF.out], by rw [← HY2.out]; go_num⟩
            case measure => simp [intOf]; omega
        · have hk8 : j = 8 := by omega
          subst hk8
          have HE : Hid (p = rv 32 (run ones (bs.take (i + 1)))) := HP.out.trans HS.out
          go_wp2
          go_round
          case rel => exact ⟨i + 1, by omega, by go_num, by rw [HE.out]⟩
          case measure => simp [intOf]; omega
    · have he := xor32 hrl ones_lt
      have HE : Hid (rv 32 (r ^^^ ones) = crcN bs) := by
        unfold Hid
        rw [HV.out, ref_end hul, HU.out, List.take_of_length_le (by rw [HL.out]; omega)]; rfl
      have hx2 : bits .xor .u32 (r : Int) 4294967295 = ((r ^^^ ones : Nat) : Int) := u32_xor_nat r ones hrl ones_lt
      obtain ⟨z, hz⟩ : ∃ z, z = r ^^^ ones := ⟨_, rfl⟩
      rw [← hz] at he HE hx2
      clear hz
      go_wp2_with (go_at_call 53; refine (mirror_any z w he).mono ?_; rintro e w' ⟨rfl, rfl⟩)
      go_ret
      rw [HE.out]
      exact ⟨rfl, rfl⟩
end Crc
end Go.Proofs.Ytcffbgehopjgpaa
