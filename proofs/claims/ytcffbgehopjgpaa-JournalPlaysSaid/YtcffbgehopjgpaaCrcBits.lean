/- Sums of 32 bits: plain mathematics. A sum is halved, and turned where a 1 drops; so it is linear, and no two sums are halved alike. Nothing here speaks of a program. -/
import Derived.Test.YtcffbgehopjgpaaBytes
namespace Go.Proofs.Ytcffbgehopjgpaa
namespace Crc
def ones : Nat := 4294967295
def half (u : Nat) : Nat := if u % 2 = 1 then (u / 2) ^^^ 2197175160 else u / 2
def halfs : Nat → Nat → Nat
  | 0, u => u
  | k + 1, u => half (halfs k u)
def stp (s x : Nat) : Nat := halfs 8 (s ^^^ x)
def run : Nat → List UInt8 → Nat
  | s, [] => s
  | s, b :: l => run (stp s b.toNat) l
def crcN (bs : List UInt8) : Nat := run ones bs ^^^ ones
theorem half_odd {u : Nat} (h : u % 2 = 1) : half u = (u / 2) ^^^ 2197175160 := if_pos h
theorem half_even {u : Nat} (h : u % 2 = 0) : half u = u / 2 := if_neg (by omega)
theorem xor32 {a b : Nat} (ha : a < 4294967296) (hb : b < 4294967296) : a ^^^ b < 4294967296 := Nat.xor_lt_two_pow (n := 32) ha hb
theorem half_lt {u : Nat} (h : u < 4294967296) : half u < 4294967296 := by
  unfold half
  split
  · exact xor32 (by omega) (by omega)
  · omega
theorem halfs_lt {u : Nat} (h : u < 4294967296) : ∀ k, halfs k u < 4294967296
  | 0 => h
  | k + 1 => half_lt (halfs_lt h k)
theorem byte_lt (b : UInt8) : b.toNat < 4294967296 := Nat.lt_trans b.toNat_lt (by omega)
theorem stp_lt {s x : Nat} (h : s < 4294967296) (hx : x < 4294967296) : stp s x < 4294967296 := halfs_lt (xor32 h hx) 8
theorem ones_lt : ones < 4294967296 := by decide
theorem run_lt : ∀ (bs : List UInt8) {s : Nat}, s < 4294967296 → run s bs < 4294967296
  | [], _, h => h
  | b :: l, _, h => run_lt l (stp_lt h (byte_lt b))
theorem crc_lt (bs : List UInt8) : crcN bs < 4294967296 := xor32 (run_lt bs ones_lt) ones_lt
theorem run_append : ∀ (a b : List UInt8) (s : Nat), run s (a ++ b) = run (run s a) b
  | [], _, _ => rfl
  | x :: a, b, s => run_append a b (stp s x.toNat)
theorem run_snoc (a : List UInt8) (b : UInt8) (s : Nat) : run s (a ++ [b]) = stp (run s a) b.toNat := run_append a [b] s

/- linear -/
theorem xor_swap (a b c d : Nat) : (a ^^^ b) ^^^ (c ^^^ d) = (a ^^^ c) ^^^ (b ^^^ d) := by
  rw [Nat.xor_assoc, ← Nat.xor_assoc b c d, Nat.xor_comm b c, Nat.xor_assoc c b d, ← Nat.xor_assoc]
theorem half_xor (u v : Nat) : half (u ^^^ v) = half u ^^^ half v := by
  have hd : (u ^^^ v) / 2 = u / 2 ^^^ v / 2 := by simpa using Nat.xor_div_two_pow (a := u) (b := v) (n := 1)
  have hm := Nat.xor_mod_two_eq_one (a := u) (b := v)
  unfold half
  rw [hd]
  by_cases h1 : u % 2 = 1 <;> by_cases h2 : v % 2 = 1
  · rw [if_neg (by rw [hm]; simp [h1, h2]), if_pos h1, if_pos h2, xor_swap, Nat.xor_self, Nat.xor_zero]
  · rw [if_pos (by rw [hm]; simp [h1]; omega), if_pos h1, if_neg h2, Nat.xor_assoc, Nat.xor_comm (v / 2), ← Nat.xor_assoc]
  · rw [if_pos (by rw [hm]; simp [h2]; omega), if_neg h1, if_pos h2, Nat.xor_assoc]
  · rw [if_neg (by rw [hm]; simp [h1, h2]), if_neg h1, if_neg h2]
theorem halfs_xor (u v : Nat) : ∀ k, halfs k (u ^^^ v) = halfs k u ^^^ halfs k v
  | 0 => rfl
  | k + 1 => by show half (halfs k (u ^^^ v)) = _; rw [halfs_xor u v k, half_xor]; rfl
theorem stp_xor (a b x y : Nat) : stp (a ^^^ b) (x ^^^ y) = stp a x ^^^ stp b y := by unfold stp; rw [xor_swap, halfs_xor]
/-- texts turned by one another -/
def zip (x y : List UInt8) : List UInt8 := List.zipWith (· ^^^ ·) x y
theorem run_xor : ∀ (x y : List UInt8) (a b : Nat), x.length = y.length → run (a ^^^ b) (zip x y) = run a x ^^^ run b y
  | [], [], _, _, _ => rfl
  | x :: xs, y :: ys, a, b, h => by
    show run (stp (a ^^^ b) (x ^^^ y).toNat) (zip xs ys) = _
    rw [UInt8.toNat_xor, stp_xor]
    exact run_xor xs ys _ _ (by simpa using h)
theorem affine {a b c : List UInt8} (hb : b.length = a.length) (hc : c.length = a.length) : crcN (zip (zip a b) c) = crcN a ^^^ crcN b ^^^ crcN c := by
  have e : ones = (ones ^^^ ones) ^^^ ones := by rw [Nat.xor_self, Nat.zero_xor]
  have hz : (zip a b).length = a.length := by unfold zip; rw [List.length_zipWith]; omega
  unfold crcN
  have h1 : run ones (zip (zip a b) c) = run ones a ^^^ run ones b ^^^ run ones c := by
    conv => lhs; rw [e]
    rw [run_xor _ _ _ _ (by omega), run_xor _ _ _ _ (by omega)]
  rw [h1]
  have e2 : ∀ p q r o : Nat, p ^^^ q ^^^ r ^^^ o = p ^^^ o ^^^ (q ^^^ o) ^^^ (r ^^^ o) := by
    intro p q r o
    rw [xor_swap p o q o, Nat.xor_self, Nat.xor_zero, ← Nat.xor_assoc]
  exact e2 _ _ _ _

/- one to one -/
theorem xor_rc {a b c : Nat} (h : a ^^^ c = b ^^^ c) : a = b := by
  have := congrArg (· ^^^ c) h
  simpa [Nat.xor_assoc] using this
theorem xor_lc {a b c : Nat} (h : c ^^^ a = c ^^^ b) : a = b := by
  rw [Nat.xor_comm c a, Nat.xor_comm c b] at h
  exact xor_rc h
theorem half_inj {u v : Nat} (hu : u < 4294967296) (hv : v < 4294967296) (h : half u = half v) : u = v := by
  have key : ∀ a b : Nat, a < 2147483648 → b < 2147483648 → a ^^^ 2197175160 = b → False := by
    intro a b ha hb e
    have h1 := congrArg (fun n => Nat.testBit n 31) e
    simp only [Nat.testBit_xor] at h1
    rw [Nat.testBit_lt_two_pow (x := a) (i := 31) ha, Nat.testBit_lt_two_pow (x := b) (i := 31) hb] at h1
    exact absurd h1 (by decide)
  by_cases h1 : u % 2 = 1 <;> by_cases h2 : v % 2 = 1
  · rw [half_odd h1, half_odd h2] at h
    have := xor_rc h
    omega
  · rw [half_odd h1, half_even (by omega)] at h
    exact (key _ _ (by omega) (by omega) h).elim
  · rw [half_even (by omega), half_odd h2] at h
    exact (key _ _ (by omega) (by omega) h.symm).elim
  · rw [half_even (by omega), half_even (by omega)] at h
    omega
theorem halfs_inj {u v : Nat} (hu : u < 4294967296) (hv : v < 4294967296) : ∀ k, halfs k u = halfs k v → u = v
  | 0, h => h
  | k + 1, h => halfs_inj hu hv k (half_inj (halfs_lt hu k) (halfs_lt hv k) h)
theorem run_inj : ∀ (bs : List UInt8) {u v : Nat}, u < 4294967296 → v < 4294967296 → run u bs = run v bs → u = v
  | [], _, _, _, _, h => h
  | b :: l, _, _, hu, hv, h => xor_rc (halfs_inj (xor32 hu (byte_lt b)) (xor32 hv (byte_lt b)) 8 (run_inj l (stp_lt hu (byte_lt b)) (stp_lt hv (byte_lt b)) h))
theorem half_dbl (w : Nat) : half (2 * w) = w := by rw [half_even (by omega)]; omega
theorem halfs_eight (w : Nat) : halfs 8 (256 * w) = w := by
  have e : 256 * w = 2 * (2 * (2 * (2 * (2 * (2 * (2 * (2 * w))))))) := by omega
  rw [e]
  simp only [halfs, half_dbl]
/-- a step back, where nothing has dropped yet -/
theorem stp_back {s x t : Nat} (hs : s < 4294967296) (hx : x < 4294967296) (ht : t < 16777216) (h : stp s x = t) : s ^^^ x = 256 * t := by
  apply halfs_inj (xor32 hs hx) (by omega) 8
  rw [halfs_eight]; exact h
theorem xor_eq {a b c : Nat} (h : a ^^^ b = c) : a = c ^^^ b := by rw [← h, Nat.xor_assoc, Nat.xor_self, Nat.xor_zero]
theorem four_zero {b0 b1 b2 b3 : UInt8} (h : run 0 [b0, b1, b2, b3] = 0) : b0 = 0 ∧ b1 = 0 ∧ b2 = 0 ∧ b3 = 0 := by
  have h0 := b0.toNat_lt
  have h1 := b1.toNat_lt
  have h2 := b2.toNat_lt
  have h3 := b3.toNat_lt
  obtain ⟨v1, e1⟩ : ∃ v, v = stp 0 b0.toNat := ⟨_, rfl⟩
  obtain ⟨v2, e2⟩ : ∃ v, v = stp v1 b1.toNat := ⟨_, rfl⟩
  obtain ⟨v3, e3⟩ : ∃ v, v = stp v2 b2.toNat := ⟨_, rfl⟩
  have e4 : stp v3 b3.toNat = 0 := by rw [e3, e2, e1]; exact h
  have l1 : v1 < 4294967296 := by rw [e1]; exact stp_lt (by omega) (by omega)
  have l2 : v2 < 4294967296 := by rw [e2]; exact stp_lt l1 (by omega)
  have l3 : v3 < 4294967296 := by rw [e3]; exact stp_lt l2 (by omega)
  have k3 := xor_eq (stp_back l3 (by omega) (by omega) e4)
  rw [Nat.mul_zero, Nat.zero_xor] at k3
  have k2 := stp_back l2 (by omega) (by omega) e3.symm
  have m2 := xor_eq k2
  have n2 : v2 < 65536 := by rw [m2]; exact Nat.xor_lt_two_pow (n := 16) (by omega) (by omega)
  have k1 := stp_back l1 (by omega) (by omega) e2.symm
  have m1 := xor_eq k1
  have n1 : v1 < 16777216 := by rw [m1]; exact Nat.xor_lt_two_pow (n := 24) (by omega) (by omega)
  have k0 := stp_back (by omega) (by omega) n1 e1.symm
  rw [Nat.zero_xor] at k0
  have z1 : v1 = 0 := by omega
  rw [z1, Nat.zero_xor] at k1
  have z2 : v2 = 0 := by omega
  rw [z2, Nat.zero_xor] at k2
  have z3 : v3 = 0 := by omega
  refine ⟨?_, ?_, ?_, ?_⟩ <;> apply UInt8.toNat_inj.1
  · show _ = 0; omega
  · show _ = 0; omega
  · show _ = 0; omega
  · show _ = 0; omega
theorem run_zeros : ∀ n : Nat, run 0 (List.replicate n 0) = 0
  | 0 => rfl
  | n + 1 => by
    show run (stp 0 0) (List.replicate n 0) = 0
    have e : stp 0 0 = 0 := by decide
    rw [e]; exact run_zeros n
/-- four bytes that follow one another are turned -/
theorem burst {p q : List UInt8} {a0 a1 a2 a3 b0 b1 b2 b3 : UInt8} (h : crcN (p ++ [a0 ^^^ b0, a1 ^^^ b1, a2 ^^^ b2, a3 ^^^ b3] ++ q) = crcN (p ++ [a0, a1, a2, a3] ++ q)) : b0 = 0 ∧ b1 = 0 ∧ b2 = 0 ∧ b3 = 0 := by
  have h1 : run ones (p ++ [a0 ^^^ b0, a1 ^^^ b1, a2 ^^^ b2, a3 ^^^ b3] ++ q) = run ones (p ++ [a0, a1, a2, a3] ++ q) := xor_rc h
  rw [run_append, run_append p, run_append (p ++ _) q, run_append p] at h1
  have lp := run_lt p ones_lt
  have h2 := run_inj q (run_lt _ lp) (run_lt _ lp) h1
  have h3 : run (run ones p ^^^ 0) (zip [a0, a1, a2, a3] [b0, b1, b2, b3]) = run (run ones p) [a0, a1, a2, a3] ^^^ run 0 [b0, b1, b2, b3] := run_xor _ _ _ _ rfl
  rw [Nat.xor_zero] at h3
  have h4 : run (run ones p) [a0, a1, a2, a3] ^^^ run 0 [b0, b1, b2, b3] = run (run ones p) [a0, a1, a2, a3] ^^^ 0 := by rw [← h3, Nat.xor_zero]; exact h2
  exact four_zero (xor_lc h4)
/-- one byte is turned -/
theorem other {p q : List UInt8} {a b : UInt8} (h : crcN (p ++ [a ^^^ b] ++ q) = crcN (p ++ [a] ++ q)) : b = 0 := by
  have h1 : run ones (p ++ [a ^^^ b] ++ q) = run ones (p ++ [a] ++ q) := xor_rc h
  rw [run_append, run_append p, run_append (p ++ _) q, run_append p] at h1
  have lp := run_lt p ones_lt
  have h2 := run_inj q (run_lt _ lp) (run_lt _ lp) h1
  have h3 := xor_lc (halfs_inj (xor32 lp (byte_lt _)) (xor32 lp (byte_lt _)) 8 h2)
  rw [UInt8.toNat_xor] at h3
  have h4 : a.toNat ^^^ b.toNat = a.toNat ^^^ 0 := by rw [Nat.xor_zero]; exact h3
  exact UInt8.toNat_inj.1 (xor_lc h4)

/- the document's road: bit by bit, from the other end -/
def rv : Nat → Nat → Nat
  | 0, _ => 0
  | n + 1, r => 2 * rv n r + r / 2 ^ n % 2
theorem rv_bit : ∀ (n r i : Nat), (rv n r).testBit i = (decide (i < n) && r.testBit (n - 1 - i))
  | 0, r, i => by simp [rv]
  | n + 1, r, 0 => by
    show (2 * rv n r + r / 2 ^ n % 2).testBit 0 = _
    rw [Nat.testBit_zero, show n + 1 - 1 - 0 = n from by omega, Nat.testBit_eq_decide_div_mod_eq]
    rw [show (2 * rv n r + r / 2 ^ n % 2) % 2 = r / 2 ^ n % 2 from by omega]
    simp
  | n + 1, r, i + 1 => by
    show (2 * rv n r + r / 2 ^ n % 2).testBit (i + 1) = _
    rw [Nat.testBit_succ, show (2 * rv n r + r / 2 ^ n % 2) / 2 = rv n r from by omega, rv_bit n r i, show n + 1 - 1 - (i + 1) = n - 1 - i from by omega]
    congr 1
    simp
theorem rv_lt (n r : Nat) : rv n r < 2 ^ n := by
  apply Nat.lt_pow_two_of_testBit
  intro i hi
  rw [rv_bit]
  simp; omega
theorem rv_xor (n a b : Nat) : rv n (a ^^^ b) = rv n a ^^^ rv n b := by
  apply Nat.eq_of_testBit_eq
  intro i
  rw [Nat.testBit_xor, rv_bit, rv_bit, rv_bit, Nat.testBit_xor]
  by_cases h : i < n <;> simp [h]
theorem rv_rv {n r : Nat} (h : r < 2 ^ n) : rv n (rv n r) = r := by
  apply Nat.eq_of_testBit_eq
  intro i
  rw [rv_bit, rv_bit]
  by_cases hi : i < n
  · simp [hi, show n - 1 - i < n from by omega, show n - 1 - (n - 1 - i) = i from by omega]
  · simp [hi]
    refine Nat.testBit_lt_two_pow ?_
    exact Nat.lt_of_lt_of_le h (Nat.pow_le_pow_right (by omega) (by omega))
/-- one bit goes in, at the other end -/
def refbit (r c : Nat) : Nat := if r / 2147483648 = c then 2 * r % 4294967296 else (2 * r % 4294967296) ^^^ 517762881
theorem rv_top {s : Nat} : rv 32 s / 2147483648 = s % 2 := by
  have h1 := rv_lt 32 s
  have h2 := rv_bit 32 s 31
  rw [Nat.testBit_eq_decide_div_mod_eq] at h2
  have h3 : s.testBit 0 = decide (s % 2 = 1) := by rw [Nat.testBit_zero]
  simp only [show 32 - 1 - 31 = 0 from rfl, h3] at h2
  have h4 : (decide (31 < 32) : Bool) = true := by decide
  rw [h4, Bool.true_and] at h2
  have h5 : (rv 32 s / 2 ^ 31 % 2 = 1) = (s % 2 = 1) := by simpa using h2
  have h6 : rv 32 s / 2 ^ 31 = rv 32 s / 2147483648 := rfl
  rw [h6] at h5
  have h7 : rv 32 s < 4294967296 := h1
  have h8 : rv 32 s / 2147483648 < 2 := by omega
  by_cases h9 : s % 2 = 1
  · have h10 := h5.mpr h9; omega
  · have h10 : ¬ (rv 32 s / 2147483648 % 2 = 1) := fun h => h9 (h5.mp h); omega
theorem rv_shift {s : Nat} (hs : s < 4294967296) : 2 * rv 32 s % 4294967296 = rv 32 (s / 2) := by
  apply Nat.eq_of_testBit_eq
  intro i
  rw [show (4294967296 : Nat) = 2 ^ 32 from rfl, Nat.testBit_mod_two_pow, rv_bit]
  by_cases hi : i < 32
  · simp only [hi, decide_true, Bool.true_and]
    cases i with
    | zero =>
      rw [Nat.testBit_zero]
      have h1 : (s / 2).testBit (32 - 1 - 0) = false := Nat.testBit_lt_two_pow (by show s / 2 < 2147483648; omega)
      rw [h1]; simp
    | succ i =>
      rw [Nat.testBit_succ, show 2 * rv 32 s / 2 = rv 32 s from by omega, rv_bit, ← Nat.testBit_succ, show (32 - 1 - (i + 1)).succ = 32 - 1 - i from by omega]
      simp; omega
  · simp [hi]
theorem refbit_rv {s c : Nat} (hs : s < 4294967296) (hc : c < 2) : refbit (rv 32 s) c = rv 32 (half (s ^^^ c)) := by
  have e : rv 32 2197175160 = 517762881 := by decide +kernel
  have hd : (s ^^^ c) / 2 = s / 2 := by
    have := Nat.xor_div_two_pow (a := s) (b := c) (n := 1)
    rw [show (2 : Nat) ^ 1 = 2 from rfl, show c / 2 = 0 from by omega, Nat.xor_zero] at this
    exact this
  have hm := Nat.xor_mod_two_eq_one (a := s) (b := c)
  unfold refbit half
  rw [rv_top, rv_shift hs, hd]
  by_cases h : s % 2 = c
  · rw [if_pos h, if_neg (by rw [hm]; intro h2; apply h2; omega)]
  · rw [if_neg h, if_pos (by rw [hm]; intro h2; apply h; omega), rv_xor, e]
/-- n bits of x go in -/
def refbits : Nat → Nat → Nat → Nat
  | 0, r, _ => r
  | n + 1, r, x => refbit (refbits n r x) (x / 2 ^ n % 2)
theorem refbits_rv {s x : Nat} (hs : s < 4294967296) (hx : x < 4294967296) : ∀ n, n ≤ 32 → refbits n (rv 32 s) x = rv 32 (halfs n (s ^^^ x) ^^^ (x / 2 ^ n))
  | 0, _ => by show rv 32 s = _; rw [Nat.pow_zero, Nat.div_one]; show rv 32 s = rv 32 (s ^^^ x ^^^ x); rw [Nat.xor_assoc, Nat.xor_self, Nat.xor_zero]
  | n + 1, hn => by
    show refbit (refbits n (rv 32 s) x) (x / 2 ^ n % 2) = _
    have hq : x / 2 ^ n < 4294967296 := Nat.lt_of_le_of_lt (Nat.div_le_self _ _) hx
    rw [refbits_rv hs hx n (by omega), refbit_rv (xor32 (halfs_lt (xor32 hs hx) n) hq) (by omega)]
    congr 1
    have e1 : x / 2 ^ n ^^^ (x / 2 ^ n % 2) = 2 * (x / 2 ^ (n + 1)) := by
      have h1 : x / 2 ^ (n + 1) = x / 2 ^ n / 2 := by rw [Nat.pow_succ, Nat.div_div_eq_div_mul]
      rw [h1]
      apply Nat.eq_of_testBit_eq
      intro i
      rw [Nat.testBit_xor]
      cases i with
      | zero => rw [Nat.testBit_zero, Nat.testBit_zero, Nat.testBit_zero, Nat.mod_mod]; simp
      | succ i =>
        rw [Nat.testBit_succ, Nat.testBit_succ, Nat.testBit_succ, show x / 2 ^ n % 2 / 2 = 0 from by omega, Nat.zero_testBit, Bool.xor_false]
        congr 1; omega
    rw [Nat.xor_assoc, e1, half_xor, half_dbl]
    rfl
theorem ref_stp {s : Nat} (hs : s < 4294967296) (b : UInt8) : refbits 8 (rv 32 s) b.toNat = rv 32 (stp s b.toNat) := by
  rw [refbits_rv hs (byte_lt b) 8 (by omega)]
  have h := b.toNat_lt
  rw [show b.toNat / 2 ^ 8 = 0 from by rw [Nat.div_eq_zero_iff]; right; exact h, Nat.xor_zero]
  rfl
theorem rv_ones : rv 32 ones = ones := by decide +kernel
theorem ref_end {s : Nat} (hs : s < 4294967296) : rv 32 (rv 32 s ^^^ ones) = s ^^^ ones := by
  conv => lhs; rw [← rv_ones, ← rv_xor]
  exact rv_rv (xor32 hs ones_lt)
end Crc
end Go.Proofs.Ytcffbgehopjgpaa
