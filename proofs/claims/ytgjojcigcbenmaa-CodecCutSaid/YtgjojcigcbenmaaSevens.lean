/- Numbers by sevens of bits, taken back: plain mathematics. -/
import Derived.Test.YtgjojcigcbenmaaBytes
namespace Go.Proofs.Ytgjojcigcbenmaa
/-- what bytes tell, by sevens -/
def val : List UInt8 → Nat
  | [] => 0
  | b :: l => b.toNat % 128 + 128 * val l
theorem val_append (l m : List UInt8) : val (l ++ m) = val l + 128 ^ l.length * val m := by
  induction l with
  | nil => simp [val]
  | cons b l ih =>
    simp only [List.cons_append, val, ih, List.length_cons, Nat.pow_succ]
    rw [Nat.mul_add, Nat.mul_comm (128 ^ l.length) 128, Nat.mul_assoc]; omega
theorem val_lt (l : List UInt8) : val l < 128 ^ l.length := by
  induction l with
  | nil => simp [val]
  | cons b l ih =>
    simp only [val, List.length_cons, Nat.pow_succ]
    omega
theorem val_one (x : UInt8) : val [x] = x.toNat % 128 := by simp [val]
theorem val_take_succ (bs : List UInt8) (i : Nat) (h : i < bs.length) : val (bs.take (i + 1)) = val (bs.take i) + 128 ^ i * (bs[i].toNat % 128) := by
  rw [List.take_succ_eq_append_getElem h, val_append, val_one, List.length_take, Nat.min_eq_left (by omega)]
theorem val_sev : ∀ u : Nat, val (sev u) = u := by
  intro u
  induction u using Nat.strongRecOn with
  | ind u ih =>
    rcases Nat.lt_or_ge u 128 with h | h
    · rw [sev_lt h, val_one, UInt8.toNat_ofNat']; omega
    · rw [sev_ge h]
      simp only [val]
      rw [ih (u / 128) (by omega), UInt8.toNat_ofNat']; omega
/-- the form of a number's bytes -/
theorem sev_shape : ∀ u : Nat, ∃ pre x, sev u = pre ++ [x] ∧ (∀ b ∈ pre, 128 ≤ b.toNat) ∧ x.toNat < 128 ∧ (pre ≠ [] → x.toNat ≠ 0) := by
  intro u
  induction u using Nat.strongRecOn with
  | ind u ih =>
    rcases Nat.lt_or_ge u 128 with h | h
    · exact ⟨[], UInt8.ofNat u, by rw [sev_lt h]; rfl, by simp, by rw [UInt8.toNat_ofNat']; omega, fun h => absurd rfl h⟩
    · obtain ⟨pre, x, e, h1, h2, h3⟩ := ih (u / 128) (by omega)
      refine ⟨UInt8.ofNat (u % 128 + 128) :: pre, x, by rw [sev_ge h, e]; rfl, ?_, h2, fun _ => ?_⟩
      · intro b hb
        rcases List.mem_cons.1 hb with rfl | hb
        · rw [UInt8.toNat_ofNat']; omega
        · exact h1 b hb
      · by_cases hp : pre = []
        · subst hp
          have hv := val_sev (u / 128)
          rw [e] at hv
          simp only [List.nil_append, val_one] at hv
          omega
        · exact h3 hp
theorem sev_val : ∀ (pre : List UInt8) (x : UInt8), (∀ b ∈ pre, 128 ≤ b.toNat) → x.toNat < 128 → (pre ≠ [] → x.toNat ≠ 0) → sev (val (pre ++ [x])) = pre ++ [x]
  | [], x, _, h2, _ => by
    simp only [List.nil_append, val_one]
    rw [sev_lt (by omega), Nat.mod_eq_of_lt h2]
    simp
  | b :: pre, x, h1, h2, h3 => by
    have hb := h1 b (by simp)
    have hx := h3 (by simp)
    have ih := sev_val pre x (fun c hc => h1 c (List.mem_cons_of_mem _ hc)) h2 (fun _ => hx)
    have hpos : 1 ≤ val (pre ++ [x]) := by
      rw [val_append, val_one, Nat.mod_eq_of_lt h2]
      have : 0 < 128 ^ pre.length := Nat.pow_pos (by decide)
      have := Nat.mul_pos this (Nat.pos_of_ne_zero hx)
      omega
    have hlt := b.toNat_lt
    simp only [List.cons_append, val]
    rw [sev_ge (by omega)]
    have e1 : (b.toNat % 128 + 128 * val (pre ++ [x])) / 128 = val (pre ++ [x]) := by omega
    have e2 : (b.toNat % 128 + 128 * val (pre ++ [x])) % 128 + 128 = b.toNat := by omega
    rw [e1, e2, ih]
    simp
/-- all bytes ahead of place i go on -/
def On (bs : List UInt8) (i : Nat) : Prop := ∀ j (h : j < bs.length), j < i → 128 ≤ bs[j].toNat
theorem On.zero (bs : List UInt8) : On bs 0 := fun _ _ h => by omega
theorem On.step {bs : List UInt8} {i : Nat} (h : On bs i) (hi : i < bs.length) (hx : 128 ≤ bs[i].toNat) : On bs (i + 1) := fun j hj hji => by
  rcases Nat.lt_or_ge j i with h1 | h1
  · exact h j hj h1
  · obtain rfl : j = i := by omega
    exact hx
theorem On.take {bs : List UInt8} {i : Nat} (h : On bs i) : ∀ b ∈ bs.take i, 128 ≤ b.toNat := by
  intro b hb
  obtain ⟨j, hj, rfl⟩ := List.getElem_of_mem hb
  rw [List.length_take] at hj
  rw [List.getElem_take]
  exact h j (by omega) (by omega)
/-- where bytes begin with a number: all go on but the last one -/
theorem Begins.ends {bs : List UInt8} {u n : Nat} (h : Begins bs u n) : ∃ q, n = q + 1 ∧ On bs q ∧ ∃ hq : q < bs.length, bs[q].toNat < 128 ∧ (0 < q → bs[q].toNat ≠ 0) ∧ u = val (bs.take (q + 1)) := by
  obtain ⟨pre, x, e, h1, h2, h3⟩ := sev_shape u
  have hn := h.len
  have hs := h.split
  rw [e] at hn hs
  rw [List.length_append, List.length_singleton] at hn
  have hl := h.2.1
  have hq : pre.length < bs.length := by omega
  have hx : bs[pre.length] = x := by
    have : bs[pre.length]? = some x := by rw [hs]; simp
    rw [List.getElem?_eq_getElem hq] at this
    injection this
  refine ⟨pre.length, hn, ?_, hq, by rw [hx]; exact h2, fun h0 => by rw [hx]; exact h3 (by intro e; rw [e] at h0; simp at h0), ?_⟩
  · intro j hj hjp
    have hj2 : bs[j]? = some pre[j] := by rw [hs, List.append_assoc, List.getElem?_append_left hjp, List.getElem?_eq_getElem hjp]
    rw [List.getElem?_eq_getElem hj] at hj2
    injection hj2 with hj2
    rw [hj2]; exact h1 _ (List.getElem_mem hjp)
  · rw [← hn, h.2.2, val_sev]
/-- the two ends of one list are one -/
theorem Begins.at_ {bs : List UInt8} {u n i : Nat} (h : Begins bs u n) (ho : On bs i) (hi : i < bs.length) (hx : bs[i].toNat < 128) : n = i + 1 ∧ u = val (bs.take (i + 1)) ∧ (0 < i → bs[i].toNat ≠ 0) := by
  obtain ⟨q, rfl, hoq, hq, h1, h2, h3⟩ := h.ends
  have : q = i := by
    rcases Nat.lt_trichotomy q i with h4 | h4 | h4
    · have := ho q hq h4; omega
    · exact h4
    · have := hoq i hi h4; omega
  subst this
  exact ⟨rfl, h3, h2⟩
theorem no_begins_end {bs : List UInt8} (ho : On bs bs.length) (u n : Nat) : ¬ Begins bs u n := fun h => by
  obtain ⟨q, rfl, hoq, hq, h1, _⟩ := h.ends
  have := ho q hq hq
  omega
theorem no_begins_ten {bs : List UInt8} (ho : On bs 9) (h9 : 9 < bs.length) (hx : 1 < bs[9].toNat) (u n : Nat) : ¬ Begins bs u n := fun h => by
  obtain ⟨q, rfl, hoq, hq, h1, _, h3⟩ := h.ends
  have h10 := sev_ten h.1
  have hl := h.len
  have hq9 : 9 ≤ q := by
    rcases Nat.lt_or_ge q 9 with h4 | h4
    · have := ho q hq h4; omega
    · exact h4
  obtain rfl : q = 9 := by omega
  rw [val_take_succ _ _ hq] at h3
  have h5 : bs[9].toNat % 128 = bs[9].toNat := Nat.mod_eq_of_lt h1
  rw [h5] at h3
  have h6 := h.1
  omega
theorem no_begins_zero {bs : List UInt8} {i : Nat} (ho : On bs i) (hi : i < bs.length) (hx : bs[i].toNat = 0) (h0 : 0 < i) (u n : Nat) : ¬ Begins bs u n := fun h => by
  exact (h.at_ ho hi (by omega)).2.2 h0 hx
theorem begins_at {bs : List UInt8} {i : Nat} (ho : On bs i) (hi : i < bs.length) (h9 : i ≤ 9) (hx9 : i = 9 → bs[i].toNat ≤ 1) (hx : bs[i].toNat < 128) (h0 : 0 < i → bs[i].toNat ≠ 0) : Begins bs (val (bs.take (i + 1))) (i + 1) := by
  have e : bs.take (i + 1) = bs.take i ++ [bs[i]] := List.take_succ_eq_append_getElem hi
  refine ⟨?_, by omega, ?_⟩
  · rw [val_take_succ _ _ hi]
    have h1 := val_lt (bs.take i)
    rw [List.length_take, Nat.min_eq_left (by omega)] at h1
    rcases Nat.lt_or_ge i 9 with h2 | h2
    · have h3 : 128 ^ (i + 1) ≤ 128 ^ 9 := Nat.pow_le_pow_right (by decide) (by omega)
      have h4 : val (bs.take i) + 128 ^ i * (bs[i].toNat % 128) < 128 ^ (i + 1) := by
        have := val_lt (bs.take (i + 1))
        rw [val_take_succ _ _ hi, List.length_take, Nat.min_eq_left (by omega)] at this
        exact this
      omega
    · obtain rfl : i = 9 := by omega
      have := hx9 rfl
      have h5 : bs[9].toNat % 128 = bs[9].toNat := Nat.mod_eq_of_lt hx
      rw [h5]
      omega
  · rw [e]
    refine (sev_val _ _ ho.take hx fun hp => h0 ?_).symm
    rcases Nat.eq_zero_or_pos i with rfl | h
    · simp at hp
    · exact h
/-- a number's bytes read as themselves -/
theorem begins_numB {v : Int} {bs : List UInt8} {k : Nat} (h1 : -9223372036854775808 ≤ v) (h2 : v ≤ 9223372036854775807) (hk : k ≤ bs.length) (h : numB v = bs.take k) : Begins bs (foldN v) k :=
  ⟨fold_lt h1 h2, hk, h.symm⟩
theorem or_step {a x i : Nat} (ha : a < 128 ^ i) (hx : x < 256) (hi : i < 9 ∨ (i = 9 ∧ x ≤ 1)) :
    bits .or .u64 (a : Int) (IntKind.u64.wrap (IntKind.u64.wrap (bits .and .u8 (x : Int) 127) * 2 ^ (7 * i))) = ((a + 128 ^ i * (x % 128) : Nat) : Int) := by
  have e1 : bits .and .u8 (x : Int) 127 = ((x % 128 : Nat) : Int) := by
    rw [show (127 : Int) = ((127 : Nat) : Int) from rfl, u8_and_nat x 127 hx (by decide), nat_mask7]
  have ep : 2 ^ (7 * i) = 128 ^ i := by rw [Nat.pow_mul]
  have hp : 128 ^ i ≤ 128 ^ 9 := Nat.pow_le_pow_right (by decide) (by omega)
  have hb : x % 128 * 128 ^ i < 18446744073709551616 := by
    rcases hi with h | ⟨rfl, h⟩
    · have h1 : 128 ^ i ≤ 128 ^ 8 := Nat.pow_le_pow_right (by decide) (by omega)
      have h2 : x % 128 * 128 ^ i ≤ 127 * 128 ^ 8 := Nat.mul_le_mul (by omega) h1
      omega
    · have h1 : x % 128 ≤ 1 := by omega
      have h2 : x % 128 * 128 ^ 9 ≤ 1 * 128 ^ 9 := Nat.mul_le_mul_right _ h1
      omega
  have e2 : ((x % 128 : Nat) : Int) * 2 ^ (7 * i) = ((x % 128 * 128 ^ i : Nat) : Int) := by
    rw [← ep]; push_cast; rfl
  rw [e1, IntWalk.u64_in ((x % 128 : Nat) : Int) (by omega), e2, IntWalk.u64_in _ (by omega)]
  rw [u64_or_nat a (x % 128 * 128 ^ i) (by omega) hb]
  congr 1
  rw [Nat.or_comm, nat_join (7 * i) (x % 128 * 128 ^ i) a (by rw [ep]; exact Nat.mul_mod_left _ _) (by rw [ep]; exact ha), Nat.mul_comm, Nat.add_comm]
end Go.Proofs.Ytgjojcigcbenmaa
