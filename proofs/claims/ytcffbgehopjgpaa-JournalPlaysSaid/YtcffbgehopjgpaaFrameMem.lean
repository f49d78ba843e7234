/- Package frame: four bytes of a number, there and back; a copy of bytes; how long a frame is. -/
import Derived.Test.YtcffbgehopjgpaaFrameBits
import Derived.Test.YtcffbgehopjgpaaCrcSum
import Derived.Test.YtcffbgehopjgpaaBytesMem
import Derived.ProofKit
namespace Go.Proofs.Ytcffbgehopjgpaa
open Go.RowKit
namespace Frm
/-- the number of bytes, the least first -/
def vals : List UInt8 → Nat
  | [] => 0
  | b :: l => b.toNat + 256 * vals l
theorem vals_lt : ∀ l : List UInt8, vals l < 256 ^ l.length
  | [] => by simp [vals]
  | b :: l => by
    have h1 := vals_lt l
    have h2 := b.toNat_lt
    simp only [vals, List.length_cons, Nat.pow_succ]
    omega
theorem vals_snoc : ∀ (l : List UInt8) (b : UInt8), vals (l ++ [b]) = vals l + 256 ^ l.length * b.toNat
  | [], b => by simp [vals]
  | a :: l, b => by
    simp only [List.cons_append, vals, vals_snoc l b, List.length_cons, Nat.pow_succ, Nat.mul_add]
    rw [← Nat.mul_assoc, Nat.mul_comm 256 (256 ^ l.length)]
    omega
theorem vals_take {x : List UInt8} {i : Nat} (h : i < x.length) : vals (x.take (i + 1)) = vals (x.take i) + 256 ^ i * x[i].toNat := by
  rw [List.take_succ_eq_append_getElem h, vals_snoc, List.length_take, Nat.min_eq_left (by omega)]
theorem vals_four {x : List UInt8} (h : 4 ≤ x.length) : vals (x.take 4) = val4 x := by
  obtain ⟨a, b, c, d, y, rfl⟩ := four_of h
  simp only [List.take_succ_cons, List.take_zero, vals, val4]
  omega
theorem or_byte {a x i : Nat} (ha : a < 256 ^ i) (hx : x < 256) (hi : i < 4) :
    bits .or .u32 (a : Int) ((x : Int) * 2 ^ (8 * i) % 4294967296) = ((a + 256 ^ i * x : Nat) : Int) := by
  have ep : 2 ^ (8 * i) = 256 ^ i := by rw [Nat.pow_mul]
  have hp : 256 ^ i ≤ 256 ^ 3 := Nat.pow_le_pow_right (by decide) (by omega)
  have hb : x * 256 ^ i ≤ 255 * 256 ^ 3 := Nat.mul_le_mul (by omega) hp
  have e2 : (x : Int) * 2 ^ (8 * i) = ((x * 256 ^ i : Nat) : Int) := by rw [← ep]; push_cast; rfl
  rw [e2, Int.emod_eq_of_lt (by omega) (by omega)]
  rw [u32_or_nat a (x * 256 ^ i) (by omega) (by omega)]
  congr 1
  rw [Nat.or_comm, nat_join (8 * i) (x * 256 ^ i) a (by rw [ep]; exact Nat.mul_mod_left _ _) (by rw [ep]; exact ha), Nat.mul_comm, Nat.add_comm]
set_option maxRecDepth 100000 in
theorem get_any (bs : List UInt8) (n : Nat) (A : Option Addr) (c B : Nat) (w : World) (hl : bs.length = n) (hn : 4 ≤ n) (hr : Rd w B 1 A n c (u8s bs)) :
    Calls Try.prog 57 #[.slice A n c] w fun e w' => e = .returned (.int .u32 (val4 bs)) ∧ w = w' := by
  have HR := Lib.hid hr
  have HL := Lib.hid hl
  clear hr hl
  go_enter Try.func57, Try.ntmps57
  go_wp2
  go_loop [3, 5] (fun u q => ∃ i : Nat, i ≤ 4 ∧ q = .int .i64 i ∧ u = .int .u32 (vals (bs.take i))) (fun _ q => 4 - (intOf q).toNat)
  case atStart => exact ⟨0, Nat.zero_le _, rfl, rfl⟩
  case round =>
    obtain ⟨i, hi, rfl, rfl⟩ := hrel
    have hul := vals_lt (bs.take i)
    rw [List.length_take, Nat.min_eq_left (by rw [HL.out]; omega)] at hul
    obtain ⟨u, hu⟩ : ∃ u, u = vals (bs.take i) := ⟨_, rfl⟩
    rw [← hu] at hul ⊢
    have HU := Lib.hid hu
    clear hu
    by_cases hlt : i < 4
    · have hib : i < bs.length := by rw [HL.out]; omega
      obtain ⟨b, o, rfl, hbw, hcl⟩ := HR.out.at_ (by omega)
      have k0 : w.cell? ⟨b, o + i, none⟩ = some (.int .u8 bs[i].toNat) := hcl i _ (u8s_get bs i hib)
      have HS := Lib.hid (vals_take hib)
      obtain ⟨x, hx⟩ : ∃ x, x = bs[i].toNat := ⟨_, rfl⟩
      have hx256 : x < 256 := by rw [hx]; exact bs[i].toNat_lt
      rw [← hx] at k0 HS
      rw [← HU.out] at HS
      have hor := or_byte hul hx256 hlt
      obtain ⟨v, hv⟩ : ∃ v, v = u + 256 ^ i * x := ⟨_, rfl⟩
      rw [← hv] at hor HS
      have hin : (i : Int) < n := by omega
      clear hx hcl hv hul
      go_wp2
      go_round
      case rel => exact ⟨i + 1, by omega, by go_num, by rw [HS.out]⟩
      case measure => simp [intOf]; omega
    · have hE : Hid (u = val4 bs) := by
        unfold Hid
        rw [HU.out, show i = 4 by omega, vals_four (by rw [HL.out]; omega)]
      go_wp2
      go_ret
      rw [hE.out]
      exact ⟨rfl, rfl⟩
theorem le4_snoc (n i : Nat) (h : i < 4) : (le4 n).take (i + 1) = (le4 n).take i ++ [UInt8.ofNat (n / 256 ^ i)] := by
  rcases (by omega : i = 0 ∨ i = 1 ∨ i = 2 ∨ i = 3) with rfl | rfl | rfl | rfl <;> simp [le4]
set_option maxRecDepth 100000 in
theorem put_any (acc : List UInt8) (n m : Nat) (v : Value) (base : Nat) (w : World) (hm : acc.length = m) (hn : n < 4294967296) (hown : w.ownsRow base 5 1 v m (u8s acc)) (hb : base ≤ w.heap.size) (hl : m ≤ 800000) :
    Calls Try.prog 46 #[v, .int .u32 n] w fun e w' => ∃ A c, e = .returned (.slice A (acc ++ le4 n).length c) ∧ Own w' base 5 1 A (acc ++ le4 n).length c (u8s (acc ++ le4 n)) ∧ Below base w w' := by
  subst hm
  have HO := Lib.hid hown
  clear hown
  go_enter Try.func46, Try.ntmps46
  go_wp2
  go_loopw [0, 1, 5] (fun v x q wr => ∃ i : Nat, i ≤ 4 ∧ q = .int .i64 i ∧ x = .int .u32 (n / 256 ^ i : Nat) ∧ wr.ownsRow base 5 1 v (acc ++ (le4 n).take i).length (u8s (acc ++ (le4 n).take i)) ∧ Below base w wr) (fun _ _ q _ => 4 - (intOf q).toNat)
  case atStart => exact ⟨0, Nat.zero_le _, rfl, by simp, by simpa using HO.out, Below.refl _ _⟩
  case round =>
    obtain ⟨i, hi, rfl, rfl, hown, hB⟩ := hrel
    by_cases hlt : i < 4
    · obtain ⟨acc2, hacc⟩ : ∃ acc2, acc2 = acc ++ (le4 n).take i := ⟨_, rfl⟩
      rw [← hacc] at hown
      have hal : acc2.length ≤ 900000 := by rw [hacc]; simp [le4]; omega
      obtain ⟨y, hy⟩ : ∃ y, y = n / 256 ^ i := ⟨_, rfl⟩
      have hsn : Hid (acc ++ (le4 n).take (i + 1) = acc2 ++ [UInt8.ofNat y]) := by
        unfold Hid
        rw [hacc, le4_snoc n i hlt, List.append_assoc, hy]
      have hyl : y < 4294967296 := by rw [hy]; exact Nat.lt_of_le_of_lt (Nat.div_le_self _ _) hn
      have hy2 : Hid ((y / 256 : Nat) = n / 256 ^ (i + 1)) := by unfold Hid; rw [hy, Nat.pow_succ, Nat.div_div_eq_div_mul]
      rw [← hy]
      obtain ⟨v2, w4, hrun, hown2, hb4⟩ := By.run_push8 wr base wr.heap.size rfl (by have := hB.size; omega) _ acc2 hown (UInt8.ofNat y) (IntKind.u8.wrap (y : Int)) (by rw [UInt8.toNat_ofNat', IntKind.wrap_u8']; omega) hal
      have Hrun := Lib.hid hrun
      clear hrun hacc hy
      go_wp2_with (at_builtin; refine Lib.wpList_append_run _ rfl _ _ _ _ rfl _ _ rfl rfl _ _ Hrun.out ?_)
      go_roundw
      case rel => exact ⟨i + 1, by omega, by go_num, by rw [← hy2.out]; go_num, by rw [hsn.out]; exact hown2, hB.trans hb4⟩
      case measure => simp [intOf]; omega
    · obtain rfl : i = 4 := by omega
      have ht : (le4 n).take 4 = le4 n := rfl
      rw [ht] at hown
      obtain ⟨A2, c2, rfl, ho2⟩ := Own.of_row hown (u8s_one _)
      clear ht hown
      go_wp2
      go_ret
      exact ⟨A2, c2, rfl, ho2, hB⟩
theorem put_to (acc t : List UInt8) (n m k : Nat) (A : Option Addr) (c base : Nat) (w : World) (hm : acc.length = m) (hn : n < 4294967296) (hown : w.ownsRow base 5 1 (.slice A m c) m (u8s acc)) (hb : base ≤ w.heap.size) (hl : m ≤ 800000) (ht : acc ++ le4 n = t) (hk : t.length = k) :
    Calls Try.prog 46 #[.slice A m c, .int .u32 n] w fun e w' => ∃ A c, e = .returned (.slice A k c) ∧ Own w' base 5 1 A k c (u8s t) ∧ Below base w w' := by
  subst ht; subst hk
  exact put_any acc n m _ base w hm hn hown hb hl
set_option maxRecDepth 100000 in
theorem clone_any (n : Nat) (xs : List Value) (A : Option Addr) (c : Nat) (w : World) (hn : n ≤ 900000) (hr : Rd w w.heap.size 1 A n c xs) :
    Calls Try.prog 58 #[.slice A n c] w (NewRow 5 1 xs n w) := by
  have hR := Lib.hid hr
  obtain ⟨i0, hi0, hz0, hz1, hz2⟩ := By.info_parts8
  have heq := fun W => Lib.run_eql_slice_nil (P := Try.prog) W 23 5 A n c 0 0 Try.underlying23
  cases A with
  | none =>
    have hn0 : n = 0 := by
      rcases Nat.eq_zero_or_pos n with h | h
      · exact h
      · obtain ⟨_, _, h, _⟩ := hr.at_ h; cases h
    subst hn0
    have hx : xs = [] := List.eq_nil_of_length_eq_zero (by simpa using hr.len)
    subst hx
    clear hr
    go_enter Try.func58, Try.ntmps58
    go_wp2
    go_ret
    exact ⟨none, 0, rfl, ⟨World.ownsRow_nil _ _ _ _, by simp⟩, Below.refl _ _⟩
  | some a =>
    clear hr
    go_enter Try.func58, Try.ntmps58
    go_wp2_with (at_builtin; (obtain ⟨v1, w1, hrun, hown1, hg1, hat1⟩ := run_app (P := Try.prog) (w.alloc (.cells #[] 5)) w.heap.size 23 23 5 i0 _ 1 1 Try.underlying23 hi0 hz0 hz1 hz2 rfl (by omega) (World.ownsRow_made w #[] 0 (Nat.le_refl _) (by simp [maxLen]) rfl) (hR.out.alloc (Nat.le_refl _) _) (by omega) (by omega) (by simp)); refine Lib.wpList_append_run _ rfl _ _ _ _ rfl _ _ rfl rfl _ _ hrun ?_)
    go_ret
    obtain ⟨A', c', rfl, hrd⟩ := Own.of_row hown1 (by simpa using hR.out.one)
    refine ⟨A', c', by first | rfl | (rw [Nat.zero_add]; rfl), by simpa using hrd, ?_⟩
    exact ((Below.refl _ _).alloc (Nat.le_refl _) _).grown hg1 (by simp) (by simp [Value.ownBlock])
/-- what 'size' answers -/
def SizeIs (bs : List UInt8) (w : World) (e : Ending) (w' : World) : Prop :=
  w = w' ∧ ((e = .returned (.tuple #[.int .i64 0, .bool false]) ∧ ¬ Fits bs) ∨ (∃ m : Nat, e = .returned (.tuple #[.int .i64 m, .bool true]) ∧ Fits bs ∧ m = val4 bs + 8))
set_option maxRecDepth 100000 in
theorem size_any (bs : List UInt8) (n : Nat) (A : Option Addr) (c B : Nat) (w : World) (hl : bs.length = n) (hn : n ≤ 1000000) (hr : Rd w B 1 A n c (u8s bs)) :
    Calls Try.prog 54 #[.slice A n c] w (SizeIs bs w) := by
  by_cases h8 : 8 ≤ n
  · have HR := Lib.hid hr
    have HL := Lib.hid hl
    clear hr hl
    have HV := Lib.hid (val4_lt bs)
    have HG := Lib.hid (get_any bs n A c B w HL.out (by omega) HR.out)
    obtain ⟨v, hv⟩ : ∃ v, v = val4 bs := ⟨_, rfl⟩
    rw [← hv] at HV HG
    have HVV := Lib.hid hv
    clear hv
    have hlt : decide ((n : Int) < 8) = false := by simp; omega
    by_cases h6 : v ≤ 60000
    · have e1 : decide ((60000 : Int) < v) = false := by simp; omega
      by_cases hle : v + 8 ≤ n
      · have e2 : decide ((n : Int) - 8 < v) = false := by simp; omega
        have hf : Hid (Fits bs) := ⟨by rw [HL.out]; exact h8, by rw [← HVV.out]; exact h6, by rw [← HVV.out, HL.out]; exact hle⟩
        go_enter Try.func54, Try.ntmps54
        go_wp2_with (go_at_call 57; refine HG.out.mono ?_; rintro e w' ⟨rfl, rfl⟩)
        go_ret2
        exact ⟨rfl, .inr ⟨v + 8, by first | rfl | (congr 2), hf.out, by rw [HVV.out]⟩⟩
      · have e2 : decide ((n : Int) - 8 < v) = true := by simp; omega
        have hf : Hid (¬ Fits bs) := fun h => by have := h.2.2; rw [← HVV.out, HL.out] at this; omega
        go_enter Try.func54, Try.ntmps54
        go_wp2_with (go_at_call 57; refine HG.out.mono ?_; rintro e w' ⟨rfl, rfl⟩)
        go_ret2
        exact ⟨rfl, .inl ⟨rfl, hf.out⟩⟩
    · have e1 : decide ((60000 : Int) < v) = true := by simp; omega
      have hf : Hid (¬ Fits bs) := fun h => by have := h.2.1; rw [← HVV.out] at this; omega
      go_enter Try.func54, Try.ntmps54
      go_wp2_with (go_at_call 57; refine HG.out.mono ?_; rintro e w' ⟨rfl, rfl⟩)
      go_ret2
      exact ⟨rfl, .inl ⟨rfl, hf.out⟩⟩
  · have hf : Hid (¬ Fits bs) := fun h => by have := h.1; rw [hl] at this; omega
    clear hr hl
    have hlt : decide ((n : Int) < 8) = true := by simp; omega
    go_enter Try.func54, Try.ntmps54
    go_wp2
    go_ret2
    exact ⟨rfl, .inl ⟨rfl, hf.out⟩⟩
end Frm
end Go.Proofs.Ytcffbgehopjgpaa
