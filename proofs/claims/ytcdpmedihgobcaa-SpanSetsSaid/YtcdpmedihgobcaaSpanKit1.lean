/- The contracts of layer 6 as its laws use them: sets put together; one number more. -/
import Derived.Test.YtcdpmedihgobcaaSpanKit0
import Derived.Test.YtcdpmedihgobcaaSpanOps
namespace Go.Proofs.Ytcdpmedihgobcaa
open Go.ChangeShapes Go.WideShapes Go.ChangeAt Go.RowKit
namespace Sp
section
variable (a b : List (Int × Int)) (n m : Nat) (A B : Option Addr) (c d : Nat) (w : World)
/-- a slice that reads as what two sets make -/
def PutIs (f : Bool → Bool → Bool) (a b : List (Int × Int)) (n m : Nat) (w : World) (e : Ending) (w' : World) : Prop :=
  ∃ u q A' c', e = .returned (.slice A' q c') ∧ Hid (u.length = q) ∧ Hid (Put f a b u) ∧ q ≤ n + m ∧ Hid (Rd w' w'.heap.size 2 A' q c' (runsC u)) ∧ Below w.heap.size w w'
theorem putIs_of {f : Bool → Bool → Bool} {a b : List (Int × Int)} {n m : Nat} {w : World} {e : Ending} {w' : World} (ha : a.length = n) (hb : b.length = m) (h : JoinIs f a b w e w') : PutIs f a b n m w e w' := by
  obtain ⟨l, A, c, he, hp, ho, hb'⟩ := h
  exact ⟨l, l.length, A, c, he, rfl, hp, by have := hp.len; omega, ho.rd, hb'⟩
theorem union_to (hla : a.length = n) (hlb : b.length = m) (hn : n ≤ 100000) (hm : m ≤ 100000) (hra : Rd w w.heap.size 2 A n c (runsC a)) (hrb : Rd w w.heap.size 2 B m d (runsC b)) (oa : RightF 1 a) (ob : RightF 1 b) :
    Calls Try.prog 24 #[.slice A n c, .slice B m d] w (PutIs uniF a b n m w) := (union_any a b n m A B c d w hla hlb hn hm hra hrb oa ob).mono fun _ _ h => putIs_of hla hlb h
theorem meet_to (hla : a.length = n) (hlb : b.length = m) (hn : n ≤ 100000) (hm : m ≤ 100000) (hra : Rd w w.heap.size 2 A n c (runsC a)) (hrb : Rd w w.heap.size 2 B m d (runsC b)) (oa : RightF 1 a) (ob : RightF 1 b) :
    Calls Try.prog 25 #[.slice A n c, .slice B m d] w (PutIs metF a b n m w) := (meet_any a b n m A B c d w hla hlb hn hm hra hrb oa ob).mono fun _ _ h => putIs_of hla hlb h
theorem minus_to (hla : a.length = n) (hlb : b.length = m) (hn : n ≤ 100000) (hm : m ≤ 100000) (hra : Rd w w.heap.size 2 A n c (runsC a)) (hrb : Rd w w.heap.size 2 B m d (runsC b)) (oa : RightF 1 a) (ob : RightF 1 b) :
    Calls Try.prog 26 #[.slice A n c, .slice B m d] w (PutIs minF a b n m w) := (minus_any a b n m A B c d w hla hlb hn hm hra hrb oa ob).mono fun _ _ h => putIs_of hla hlb h
end
/-- how many numbers from m on, k in all, are told -/
def cnt (p : Int → Bool) (m : Int) : Nat → Int
  | 0 => 0
  | k + 1 => cnt p m k + (if p (m + k) then 1 else 0)
theorem cnt_add (p : Int → Bool) (m : Int) (j : Nat) : ∀ k : Nat, cnt p m (j + k) = cnt p m j + cnt p (m + j) k
  | 0 => by simp [cnt]
  | k + 1 => by
    show cnt p m (j + k) + _ = _ + (cnt p (m + j) k + _)
    have e : m + ((j.add k : Nat) : Int) = m + (j : Int) + (k : Int) := by show m + ((j + k : Nat) : Int) = _; omega
    rw [cnt_add p m j k, e]
    omega
theorem cnt_all {p : Int → Bool} {m : Int} : ∀ {k : Nat}, (∀ x, m ≤ x → x < m + k → p x = true) → cnt p m k = k
  | 0, _ => rfl
  | k + 1, h => by
    show cnt p m k + _ = _
    rw [cnt_all (k := k) (fun x h1 h2 => h x h1 (by omega)), h (m + k) (by omega) (by omega)]
    simp
theorem cnt_none {p : Int → Bool} {m : Int} : ∀ {k : Nat}, (∀ x, m ≤ x → x < m + k → p x = false) → cnt p m k = 0
  | 0, _ => rfl
  | k + 1, h => by
    show cnt p m k + _ = _
    rw [cnt_none (k := k) (fun x h1 h2 => h x h1 (by omega)), h (m + k) (by omega) (by omega)]
    simp
theorem cnt_congr {p q : Int → Bool} {m : Int} : ∀ {k : Nat}, (∀ x, m ≤ x → x < m + k → p x = q x) → cnt p m k = cnt q m k
  | 0, _ => rfl
  | k + 1, h => by
    show cnt p m k + _ = cnt q m k + _
    rw [cnt_congr (k := k) (fun x h1 h2 => h x h1 (by omega)), h (m + k) (by omega) (by omega)]
theorem cnt_one {p q : Int → Bool} {v m : Int} (hv : p v = false) (hq : ∀ x, q x = (p x || decide (x = v))) : ∀ {k : Nat}, m ≤ v → v < m + k → cnt q m k = cnt p m k + 1
  | 0, h1, h2 => by omega
  | k + 1, h1, h2 => by
    show cnt q m k + _ = cnt p m k + _ + 1
    by_cases h : v = m + k
    · have e : cnt q m k = cnt p m k := cnt_congr fun x h3 h4 => by
        rw [hq, decide_eq_false (by omega), Bool.or_false]
      rw [e, hq, ← h, hv]
      simp
    · rw [cnt_one hv hq (k := k) h1 (by omega)]
      have : q (m + k) = p (m + k) := by rw [hq, decide_eq_false (by omega), Bool.or_false]
      rw [this]
      omega
theorem cnt_count : ∀ {l : List (Int × Int)} {m : Int} {k : Nat}, RightF m l → 1099511627776 < m + k → cnt (hasB l) m k = countI l
  | [], m, k, _, _ => cnt_none fun _ _ _ => rfl
  | r :: l, m, k, h, hk => by
    obtain ⟨h1, h2, h3, h4⟩ := h
    obtain ⟨i, hi⟩ : ∃ i : Nat, (i : Int) = r.1 - m := ⟨(r.1 - m).toNat, by omega⟩
    obtain ⟨j, hj⟩ : ∃ j : Nat, (j : Int) = r.2 + 1 - r.1 := ⟨(r.2 + 1 - r.1).toNat, by omega⟩
    obtain ⟨q, hq⟩ : ∃ q : Nat, k = i + j + q := ⟨k - (i + j), by omega⟩
    subst hq
    have e1 : m + (i : Int) = r.1 := by omega
    have e2 : m + ((i + j : Nat) : Int) = r.2 + 1 := by omega
    rw [cnt_add, cnt_add, e1, e2]
    have c1 : cnt (hasB (r :: l)) m i = 0 := cnt_none fun x h5 h6 => by
      rw [has_cons, has_lt h4 (by omega)]
      simp; omega
    have c2 : cnt (hasB (r :: l)) r.1 j = j := cnt_all fun x h5 h6 => by
      rw [has_cons]
      have : decide (r.1 ≤ x ∧ x ≤ r.2) = true := by simp; omega
      rw [this]; rfl
    have c3 : cnt (hasB (r :: l)) (r.2 + 1) q = cnt (hasB l) (r.2 + 1) q := cnt_congr fun x h5 h6 => by
      rw [has_cons]
      have : decide (r.1 ≤ x ∧ x ≤ r.2) = false := by simp; omega
      rw [this]; rfl
    rw [c1, c2, c3, cnt_count (h4.mono (by omega)) (by omega)]
    simp only [countI]
    omega
/-- one number more -/
theorem count_one {l y : List (Int × Int)} {v : Int} (hl : RightF 1 l) (hy : RightF 1 y) (hv : 1 ≤ v ∧ v ≤ 1099511627776) (h : ∀ x, hasB y x = (hasB l x || decide (x = v))) : countI y = countI l + (if hasB l v then 0 else 1) := by
  cases hb : hasB l v with
  | true =>
    have : y = l := ext hy hl fun x => by
      rw [h]
      by_cases hx : x = v
      · rw [hx, hb]; simp
      · simp [hx]
    rw [this]; simp
  | false =>
    rw [← cnt_count hl (k := 1099511627776) (by omega), ← cnt_count hy (k := 1099511627776) (by omega), cnt_one hb h hv.1 (by omega)]
    simp
end Sp
end Go.Proofs.Ytcdpmedihgobcaa
