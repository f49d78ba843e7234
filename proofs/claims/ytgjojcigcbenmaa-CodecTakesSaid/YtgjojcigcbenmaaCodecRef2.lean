/- The document's own taking of numbers and texts. -/
import Derived.Test.YtgjojcigcbenmaaCodecIn2
import Derived.Deep.QuietTactic
import Derived.BigQuiet
import Derived.Deep.RegionLaw
namespace Go.Proofs.Ytgjojcigcbenmaa
open Go.RowKit
namespace Codec
theorem add_step (a x i : Nat) (y : Int) (hy : y = ((128 ^ i : Nat) : Int)) :
    IntKind.u64.wrap (((a % 18446744073709551616 : Nat) : Int) + IntKind.u64.wrap ((x : Int) % 128 * y)) = (((a + 128 ^ i * (x % 128)) % 18446744073709551616 : Nat) : Int) := by
  subst hy
  have e2 : (x : Int) % 128 * ((128 ^ i : Nat) : Int) = ((x % 128 * 128 ^ i : Nat) : Int) := by push_cast; rfl
  have e3 : 128 ^ i * (x % 128) = x % 128 * 128 ^ i := Nat.mul_comm _ _
  rw [e2, e3, IntKind.wrap_u64, IntKind.wrap_u64]
  omega
theorem str_beq {a b : List UInt8} : ((strOf a).toList == (strOf b).toList) = true ↔ a = b := by
  rw [ByteArray.toList_eq, ByteArray.toList_eq, strOf_list, strOf_list]
  simp
/-- what Take answers -/
def TakeIs (bs : List UInt8) (w : World) (e : Ending) (w' : World) : Prop :=
  Below w.heap.size w w' ∧ ∃ (v : Int) (k : Nat) (ok : Bool), e = .returned (.tuple #[.int .i64 v, .int .i64 k, .bool ok]) ∧ (ok = true → Begins bs (foldN v) k ∧ -9223372036854775808 ≤ v ∧ v ≤ 9223372036854775807) ∧ (ok = false → ∀ u n, ¬ Begins bs u n)
set_option maxRecDepth 100000 in
set_option maxHeartbeats 400000 in
theorem take_any (bs : List UInt8) (n : Nat) (A : Option Addr) (c : Nat) (w : World) (hl : bs.length = n) (hn : n ≤ 900000) (hr : Rd w w.heap.size 1 A n c (u8s bs)) :
    Calls Try.prog 31 #[.slice A n c] w (TakeIs bs w) := by
  have HR := Lib.hid hr
  have HL := Lib.hid hl
  clear hr hl
  go_enter Try.func31, Try.ntmps31
  go_wp2
  go_loop [5, 10] (fun x q => ∃ (i : Nat) (u : Nat), q = .int .i64 i ∧ i ≤ n ∧ i ≤ 10 ∧ x = .int .u64 u ∧ Hid (u = val (bs.take i) % 18446744073709551616) ∧ Hid (On bs i)) (fun _ q => (n - intOf q).toNat)
  case atStart => exact ⟨0, 0, rfl, Nat.zero_le _, by omega, rfl, by simp [val, Hid], On.zero _⟩
  case round =>
    obtain ⟨i, u, rfl, hi, hi10, rfl, hu, hon⟩ := hrel
    by_cases hlt : i < n
    · have hib : i < bs.length := by rw [HL.out]; exact hlt
      obtain ⟨b, o, rfl, hbw, hcl⟩ := HR.out.at_ (by omega)
      have k0 : w.cell? ⟨b, o + i, none⟩ = some (.int .u8 bs[i].toNat) := hcl i _ (u8s_get bs i hib)
      obtain ⟨x, hx⟩ : ∃ x, x = bs[i].toNat := ⟨_, rfl⟩
      rw [← hx] at k0
      have HX := Lib.hid hx
      have hx256 : x < 256 := by rw [hx]; exact bs[i].toNat_lt
      have hin : (i : Int) < n := by omega
      clear hx hcl
      by_cases h10 : i = 10
      · have f1 : decide ((9 : Int) < i) = true := by simp; omega
        have f2 : decide (9 < i) = true := by simp; omega
        have hno : Hid (∀ u n, ¬ Begins bs u n) := by
          intro u n hb
          obtain ⟨q, rfl, hoq, hq, h1, _, h3⟩ := hb.ends
          have h10' := sev_ten hb.1
          have hl := hb.len
          have := hon.out q hq (by omega)
          omega
        clear h10
        go_wp2
        go_ret3
        exact ⟨Below.refl _ _, 0, 0, false, rfl, (fun h => Bool.noConfusion h), fun _ => hno.out⟩
      · have f1 : decide ((9 : Int) < i) = false := by simp; omega
        have f2 : decide (9 < i) = false := by simp; omega
        obtain ⟨u2, hu2⟩ : ∃ u2, u2 = val (bs.take (i + 1)) % 18446744073709551616 := ⟨_, rfl⟩
        have hadd : Hid (IntKind.u64.wrap ((u : Int) + IntKind.u64.wrap ((x : Int) % 128 * 2 ^ (7 * i))) = (u2 : Int)) := by
          unfold Hid
          have ep : (2 : Int) ^ (7 * i) = ((128 ^ i : Nat) : Int) := by
            have : 2 ^ (7 * i) = 128 ^ i := by rw [Nat.pow_mul]
            rw [← this]; push_cast; rfl
          rw [hu, add_step _ x i _ ep, hu2, val_take_succ _ _ hib, HX.out]
        have hadd' := hadd.out
        have hu2lt : u2 < 18446744073709551616 := by rw [hu2]; exact Nat.mod_lt _ (by decide)
        have HU2 := Lib.hid hu2
        clear hu2
        by_cases h128 : 128 ≤ x
        · have hon2 : Hid (On bs (i + 1)) := hon.out.step hib (by rw [← HX.out]; exact h128)
          go_wp2
          go_round
          case rel => exact ⟨i + 1, u2, by go_num, by omega, by omega, rfl, HU2.out, hon2⟩
          case measure => simp [intOf]; omega
        · obtain ⟨v, hv⟩ : ∃ v, v = unfoldN u2 := ⟨_, rfl⟩
          have hvr := unfold_in hu2lt
          rw [← hv] at hvr
          obtain ⟨hv1, hv2⟩ := hvr
          have hok : Hid ((numB v = bs.take (i + 1) → Begins bs (foldN v) (i + 1)) ∧ (numB v ≠ bs.take (i + 1) → ∀ u n, ¬ Begins bs u n)) := by
            refine ⟨fun h => begins_numB hv1 hv2 (by omega) h, fun h u n hb => h ?_⟩
            obtain ⟨h1, h2, _⟩ := hb.at_ hon.out hib (by rw [← HX.out]; omega)
            have h3 : u2 = u := by rw [HU2.out, ← h2]; exact Nat.mod_eq_of_lt hb.1
            rw [hv, h3]
            unfold numB
            rw [fold_unfold, ← hb.2.2, h1]
          obtain ⟨m, hm⟩ : ∃ m, m = i + 1 := ⟨_, rfl⟩
          have hm1 : Hid (IntKind.i64.wrap ((i : Int) + 1) = (m : Int)) := by unfold Hid; rw [IntWalk.i64_in _ (by omega)]; omega
          have hm1' := hm1.out
          have hwm : IntKind.i64.wrap (m : Int) = (m : Int) := IntWalk.i64_in _ (by omega)
          have hm2 : Hid ((i : Int) + 1 = (m : Int)) := by unfold Hid; omega
          have hm2' := hm2.out
          have hml : m ≤ n := by omega
          have hmi : (m : Int) ≤ n := by omega
          rw [← hm] at hok
          clear hm
          have hmc : m ≤ c := by have := HR.out.cap; omega
          have hcut := fun W => run_cut_to (P := Try.prog) 25 5 1 Try.underlying25 (Classical.choose_spec info_parts8).1 (Classical.choose_spec info_parts8).2.2.1 (some ⟨b, o, none⟩) n c m hmc W
          have HTO : Hid (Rd w w.heap.size 1 (some ⟨b, o, none⟩) m c (u8s (bs.take m))) := by
            have h1 := HR.out.to_ hml
            rw [Nat.mul_one, ← u8s_take] at h1
            exact h1
          have hs0 := run_str (P := Try.prog) w.drew 25 9 5 Try.underlying25 Try.underlying5 Try.underlying9 HTO.out.drew
          by_cases hodd : u2 % 2 = 1
          · have e1 : Hid (-((u2 : Int) / 2) - 1 = v) := by unfold Hid; rw [hv]; unfold unfoldN; rw [if_pos hodd]; omega
            have e1' := e1.out
            have e2 : ((u2 : Int) % 2 == 1) = true := by simp; omega
            clear hv
            go_wp2
            go_region_law (go_simp; go_at_call 29; refine (refnum_any v _ hv1 hv2).mono ?_; rintro e w1 ⟨A1, c1, rfl, ho1, hb1⟩; (have hs1 := run_str (P := Try.prog) w1 25 9 5 Try.underlying25 Try.underlying5 Try.underlying9 ho1.rd); (have hs2 := run_str (P := Try.prog) w1 25 9 5 Try.underlying25 Try.underlying5 Try.underlying9 (HTO.out.drew.later hb1)))
            all_goals
              go_wp2
              go_ret3
              exact ⟨(Below.refl w.heap.size w).drew.trans hb1, v, m, _, rfl, fun h => ⟨hok.out.1 (str_beq.1 h), hv1, hv2⟩, fun h => hok.out.2 fun h2 => by rw [str_beq.2 h2] at h; cases h⟩
          · have e1 : Hid ((u2 : Int) / 2 = v) := by unfold Hid; rw [hv]; unfold unfoldN; rw [if_neg hodd]; omega
            have e1' := e1.out
            have e2 : ((u2 : Int) % 2 == 1) = false := by simp; omega
            clear hv
            go_wp2
            go_region_law (go_simp; go_at_call 29; refine (refnum_any v _ hv1 hv2).mono ?_; rintro e w1 ⟨A1, c1, rfl, ho1, hb1⟩; (have hs1 := run_str (P := Try.prog) w1 25 9 5 Try.underlying25 Try.underlying5 Try.underlying9 ho1.rd); (have hs2 := run_str (P := Try.prog) w1 25 9 5 Try.underlying25 Try.underlying5 Try.underlying9 (HTO.out.drew.later hb1)))
            all_goals
              go_wp2
              go_ret3
              exact ⟨(Below.refl w.heap.size w).drew.trans hb1, v, m, _, rfl, fun h => ⟨hok.out.1 (str_beq.1 h), hv1, hv2⟩, fun h => hok.out.2 fun h2 => by rw [str_beq.2 h2] at h; cases h⟩
    · have hno : Hid (∀ u n, ¬ Begins bs u n) := by
        have he : i = bs.length := by rw [HL.out]; omega
        rw [he] at hon
        exact no_begins_end hon
      go_wp2
      go_ret3
      exact ⟨Below.refl _ _, 0, 0, false, rfl, (fun h => Bool.noConfusion h), fun _ => hno.out⟩
end Codec
end Go.Proofs.Ytgjojcigcbenmaa
