/- The contracts of layer 6 as its laws use them: with names for what is answered; the front; one number more. -/
import Derived.Test.YtcdpmedihgobcaaSpanAwake
import Derived.Test.YtcdpmedihgobcaaSpanOps
import Derived.Test.YtcdpmedihgobcaaSpanBy
namespace Go.Proofs.Ytcdpmedihgobcaa
open Go.ChangeShapes Go.WideShapes Go.ChangeAt Go.RowKit
namespace Sp
section
variable (l : List (Int × Int)) (n : Nat) (A : Option Addr) (c : Nat) (w : World)
/-- a slice that reads as l -/
def SlIs (q : Nat) (u : List (Int × Int)) (w : World) (e : Ending) (w' : World) : Prop := ∃ A' c', e = .returned (.slice A' q c') ∧ Rd w' w'.heap.size 2 A' q c' (runsC u) ∧ Below w.heap.size w w'
theorem runs_to (hl : l.length = n) (hn : n ≤ 800000) (hr : Rd w w.heap.size 2 A n c (runsC l)) : Calls Try.prog 12 #[.slice A n c] w (SlIs n l w) :=
  (runs_any l n A c w hl hn hr).mono fun _ _ ⟨A', c', he, ho, hb⟩ => ⟨A', c', he, ho.rd, hb⟩
theorem plain_to (hl : l.length = n) (hn : n ≤ 800000) (hr : Rd w w.heap.size 2 A n c (runsC l)) : Calls Try.prog 30 #[.slice A n c] w (SlIs n l w) :=
  (plain_any l n A c w hl hn hr).mono fun _ _ ⟨A', c', he, ho, hb⟩ => ⟨A', c', he, ho.rd, hb⟩
theorem has_to (v : Int) (hl : l.length = n) (hn : n ≤ 800000) (hr : Rd w w.heap.size 2 A n c (runsC l)) (p : Bool) (hp : (rightB l && hasB l v) = p) : Calls Try.prog 22 #[.slice A n c, .int .i64 v] w fun e w' => e = .returned (.bool p) ∧ Below w.heap.size w w' := by
  subst hp; exact has_any l n A c v w hl (by omega) hr
theorem refhas_to (v : Int) (hl : l.length = n) (hn : n ≤ 800000) (hr : Rd w w.heap.size 2 A n c (runsC l)) (p : Bool) (hp : hasB l v = p) : Calls Try.prog 23 #[.slice A n c, .int .i64 v] w fun e w' => e = .returned (.bool p) ∧ Below w.heap.size w w' := by
  subst hp; exact (refhas_any l n A c w hl (by omega) hr v).mono fun _ _ ⟨he, hw⟩ => ⟨he, by rw [hw]; exact Below.refl _ _⟩
theorem right_to (hl : l.length = n) (hn : n ≤ 800000) (hr : Rd w w.heap.size 2 A n c (runsC l)) (b : Bool) (hb : rightB l = b) : Calls Try.prog 14 #[.slice A n c] w fun e w' => e = .returned (.bool b) ∧ Below w.heap.size w w' := by
  subst hb; exact right_any l n A c w hl (by omega) hr
theorem refright_to (hl : l.length = n) (hn : n ≤ 800000) (hr : Rd w w.heap.size 2 A n c (runsC l)) (b : Bool) (hb : rightB l = b) : Calls Try.prog 13 #[.slice A n c] w fun e w' => e = .returned (.bool b) ∧ Below w.heap.size w w' := by
  subst hb; exact refright_any l n A c w hl (by omega) hr
theorem front_to (hl : l.length = n) (hn : n ≤ 800000) (hr : Rd w w.heap.size 2 A n c (runsC l)) (b : Bool) (hb : rightB l = b) (x : Int) (hx : (if b then frontI l else 0) = x) : Calls Try.prog 15 #[.slice A n c] w fun e w' => e = .returned (.int .i64 x) ∧ Below w.heap.size w w' := by
  subst hx; exact front_any l n A c w hl (by omega) hr b hb
theorem count_to (hl : l.length = n) (hn : n ≤ 800000) (hr : Rd w w.heap.size 2 A n c (runsC l)) (b : Bool) (hb : rightB l = b) (x : Int) (hx : (if b then countI l else 0) = x) : Calls Try.prog 16 #[.slice A n c] w fun e w' => e = .returned (.int .i64 x) ∧ Below w.heap.size w w' := by
  subst hx; exact count_any l n A c w hl (by omega) hr b hb
theorem reffront_to (hl : l.length = n) (hn : n ≤ 800000) (hr : Rd w w.heap.size 2 A n c (runsC l)) (hR : RightF 1 l) (x : Int) (hx : frontI l = x) : Calls Try.prog 17 #[.slice A n c] w fun e w' => e = .returned (.int .i64 x) ∧ Below w.heap.size w w' := by
  subst hx; exact (reffront_any l n A c w hl (by omega) hr hR).mono fun _ _ ⟨he, hw⟩ => ⟨he, by rw [hw]; exact Below.refl _ _⟩
theorem refcount_to (hl : l.length = n) (hn : n ≤ 800000) (hr : Rd w w.heap.size 2 A n c (runsC l)) (hR : RightF 1 l) (x : Int) (hx : countI l = x) : Calls Try.prog 18 #[.slice A n c] w fun e w' => e = .returned (.int .i64 x) ∧ Below w.heap.size w w' := by
  subst hx; exact refcount_any l n A c w hl (by omega) hr hR
end
section
variable (a b : List (Int × Int)) (n m : Nat) (A B : Option Addr) (c d : Nat) (w : World)
theorem same_to (ha : a.length = n) (hb : b.length = m) (hn : n ≤ 800000) (hra : Rd w w.heap.size 2 A n c (runsC a)) (hrb : Rd w w.heap.size 2 B m d (runsC b)) (he : a = b) :
    Calls Try.prog 20 #[.slice A n c, .slice B m d] w fun e w' => e = .returned (.bool true) ∧ Below w.heap.size w w' := by
  have := same_any a b n m A B c d w ha hb hn hra hrb
  rwa [decide_eq_true he] at this
/-- a slice that reads as what two sets make -/
def PutIs (f : Bool → Bool → Bool) (a b : List (Int × Int)) (n m : Nat) (w : World) (e : Ending) (w' : World) : Prop :=
  ∃ u q A' c', e = .returned (.slice A' q c') ∧ Hid (u.length = q) ∧ Hid (Put f a b u) ∧ q ≤ n + m ∧ Hid (Rd w' w'.heap.size 2 A' q c' (runsC u)) ∧ Below w.heap.size w w'
theorem putIs_of {f : Bool → Bool → Bool} {a b : List (Int × Int)} {n m : Nat} {w : World} {e : Ending} {w' : World} (ha : a.length = n) (hb : b.length = m) (h : JoinIs f a b w e w') : PutIs f a b n m w e w' := by
  obtain ⟨l, A, c, he, hp, ho, hb'⟩ := h
  exact ⟨l, l.length, A, c, he, rfl, hp, by have := hp.len; omega, ho.rd, hb'⟩
theorem union_to (hla : a.length = n) (hlb : b.length = m) (hn : n ≤ 100000) (hm : m ≤ 100000) (hra : Rd w w.heap.size 2 A n c (runsC a)) (hrb : Rd w w.heap.size 2 B m d (runsC b)) (oa : RightF 1 a) (ob : RightF 1 b) :
    Calls Try.prog 24 #[.slice A n c, .slice B m d] w (PutIs uniF a b n m w) := (union_any a b n m A B c d w hla hlb hn hm hra hrb oa ob).mono fun _ _ h => putIs_of hla hlb h
theorem meet_to (hla : a.length = n) (hlb : b.length = m) (hn : n ≤ 100000) (hm : m ≤ 100000) (hra : Rd w w.heap.size 2 A n c (runsC a)) (hrb : Rd w w.heap.size 2 B m d (runsC b)) (oa : RightF 1 a) (ob : RightF 1 b) :
    Calls Try.prog 25 #[.slice A n c, .slice B m d] w (PutIs metF a b n m w) := (meet_any a b n m A B c d w hla hlb hn hm hra hrb oa ob).mono fun _ _ h => putIs_of hla hlb h
theorem minus_to (hla : a.length = n) (hlb : b.length = m) (hn : n ≤ 100000) (hm : m ≤ 100000) (hra : Rd w w.heap.size 2 A n c (runsC a)) (hrb : Rd w w.heap.size 2 B m d (runsC b)) (oa : RightF 1 a) (ob : RightF 1 b) :
    Calls Try.prog 26 #[.slice A n c, .slice B m d] w (PutIs minF a b n m w) := (minus_any a b n m A B c d w hla hlb hn hm hra hrb oa ob).mono fun _ _ h => putIs_of hla hlb h
/-- the document's, told what the program's made -/
theorem refby_to (f : Bool → Bool → Bool) (how : Int) (hh : HowIs how f) (hla : a.length = n) (hlb : b.length = m) (hn : n ≤ 1000) (hm : m ≤ 1000) (hra : Rd w w.heap.size 2 A n c (runsC a)) (hrb : Rd w w.heap.size 2 B m d (runsC b)) (oa : RightF 1 a) (ob : RightF 1 b) (u : List (Int × Int)) (hu : Put f a b u) (q : Nat) (hq : u.length = q) :
    Calls Try.prog 29 #[.slice A n c, .slice B m d, .int .i64 how] w (SlIs q u w) := by
  refine (refby_any f how hh a b n m A B c d w hla hlb hn hm hra hrb oa ob).mono ?_
  rintro e w' ⟨l, A', c', he, h1, h2, ho, hb⟩
  have : l = u := ext h1 hu.right fun x => by rw [h2, hu.has]
  subst this
  subst hq
  exact ⟨A', c', he, ho.rd, hb⟩
end
/-- a row of slices, new -/
theorem sets_to (ps : List SP) (cs : Array Value) (n : Nat) (w : World) (hcs : cs.toList = ps.map fun p => .slice p.A p.n p.c) (hn : ps.length = n) (hn10 : n ≤ 10) (hr : ∀ p ∈ ps, p.l.length = p.n ∧ Rd w w.heap.size 2 p.A p.n p.c (runsC p.l)) (z : Bool) (hz : ps.all SP.ok = z) :
    Calls Try.prog 27 #[.slice (some ⟨w.heap.size, 0, none⟩) n n] (w.alloc (.cells cs 22)) fun e w' => e = .returned (.bool z) ∧ Below w.heap.size w w' := by
  subst hz
  refine (sets_any ps n w.heap.size (w.alloc (.cells cs 22)) hn hn10 (by simp) (fun k hk => ?_) (fun p hp => ⟨(hr p hp).1, ((hr p hp).2.alloc (Nat.le_refl _) _).more (by simp)⟩)).mono fun e w' ⟨he, hb⟩ => ⟨he, ((Below.refl w.heap.size w).alloc (Nat.le_refl _) _).trans (hb.mono (by simp))⟩
  rw [cell_of_row _ _ k _ _ (0, 0) (heap_alloc_new _ _), ← Array.getElem?_toList, hcs]
  simp [hk]
theorem front_spec {l : List (Int × Int)} (h : RightF 1 l) : 0 ≤ frontI l ∧ frontI l ≤ 1099511627776 ∧ hasB l (frontI l + 1) = false ∧ ∀ n, 1 ≤ n → n ≤ frontI l → hasB l n = true := by
  cases l with
  | nil => exact ⟨Int.le_refl _, by decide, rfl, fun n h1 h2 => by have h2 : n ≤ 0 := h2; omega⟩
  | cons r l =>
    obtain ⟨h1, h2, h3, h4⟩ := h
    by_cases hr : r.1 = 1
    · have e : frontI (r :: l) = r.2 := by simp [frontI, hr]
      rw [e]
      refine ⟨by omega, h3, ?_, fun n n1 n2 => has_true.2 ⟨r, List.mem_cons_self, by omega, n2⟩⟩
      rw [has_cons, has_lt h4 (by omega)]
      simp; omega
    · have e : frontI (r :: l) = 0 := by simp [frontI, hr]
      rw [e]
      refine ⟨Int.le_refl _, by decide, ?_, fun n n1 n2 => by omega⟩
      rw [has_cons, has_lt h4 (by omega)]
      simp; omega
/-- how many numbers from m on, k in all, are told -/
def cnt (p : Int → Bool) (m : Int) : Nat → Int
  | 0 => 0
  | k + 1 => cnt p m k + (if p (m + k) then 1 else 0)
theorem cnt_add (p : Int → Bool) (m : Int) (j : Nat) : ∀ k : Nat, cnt p m (j + k) = cnt p m j + cnt p (m + j) k
  | 0 => by simp [cnt]
  | k + 1 => by
    show cnt p m (j + k) + _ = _ + (cnt p (m + j) k + _)
    have e : m + ((j.add k : Nat) : Int) = m + (j : Int) + (k : Int) := by show m + ((j + k : Nat) : Int) = _; omega
    rw [cnt_add p m j k, e]
    omega
theorem cnt_all {p : Int → Bool} {m : Int} : ∀ {k : Nat}, (∀ x, m ≤ x → x < m + k → p x = true) → cnt p m k = k
  | 0, _ => rfl
  | k + 1, h => by
    show cnt p m k + _ = _
    rw [cnt_all (k := k) (fun x h1 h2 => h x h1 (by omega)), h (m + k) (by omega) (by omega)]
    simp
theorem cnt_none {p : Int → Bool} {m : Int} : ∀ {k : Nat}, (∀ x, m ≤ x → x < m + k → p x = false) → cnt p m k = 0
  | 0, _ => rfl
  | k + 1, h => by
    show cnt p m k + _ = _
    rw [cnt_none (k := k) (fun x h1 h2 => h x h1 (by omega)), h (m + k) (by omega) (by omega)]
    simp
theorem cnt_congr {p q : Int → Bool} {m : Int} : ∀ {k : Nat}, (∀ x, m ≤ x → x < m + k → p x = q x) → cnt p m k = cnt q m k
  | 0, _ => rfl
  | k + 1, h => by
    show cnt p m k + _ = cnt q m k + _
    rw [cnt_congr (k := k) (fun x h1 h2 => h x h1 (by omega)), h (m + k) (by omega) (by omega)]
theorem cnt_one {p q : Int → Bool} {v m : Int} (hv : p v = false) (hq : ∀ x, q x = (p x || decide (x = v))) : ∀ {k : Nat}, m ≤ v → v < m + k → cnt q m k = cnt p m k + 1
  | 0, h1, h2 => by omega
  | k + 1, h1, h2 => by
    show cnt q m k + _ = cnt p m k + _ + 1
    by_cases h : v = m + k
    · have e : cnt q m k = cnt p m k := cnt_congr fun x h3 h4 => by
        rw [hq, decide_eq_false (by omega), Bool.or_false]
      rw [e, hq, ← h, hv]
      simp
    · rw [cnt_one hv hq (k := k) h1 (by omega)]
      have : q (m + k) = p (m + k) := by rw [hq, decide_eq_false (by omega), Bool.or_false]
      rw [this]
      omega
theorem cnt_count : ∀ {l : List (Int × Int)} {m : Int} {k : Nat}, RightF m l → 1099511627776 < m + k → cnt (hasB l) m k = countI l
  | [], m, k, _, _ => cnt_none fun _ _ _ => rfl
  | r :: l, m, k, h, hk => by
    obtain ⟨h1, h2, h3, h4⟩ := h
    obtain ⟨i, hi⟩ : ∃ i : Nat, (i : Int) = r.1 - m := ⟨(r.1 - m).toNat, by omega⟩
    obtain ⟨j, hj⟩ : ∃ j : Nat, (j : Int) = r.2 + 1 - r.1 := ⟨(r.2 + 1 - r.1).toNat, by omega⟩
    obtain ⟨q, hq⟩ : ∃ q : Nat, k = i + j + q := ⟨k - (i + j), by omega⟩
    subst hq
    have e1 : m + (i : Int) = r.1 := by omega
    have e2 : m + ((i + j : Nat) : Int) = r.2 + 1 := by omega
    rw [cnt_add, cnt_add, e1, e2]
    have c1 : cnt (hasB (r :: l)) m i = 0 := cnt_none fun x h5 h6 => by
      rw [has_cons, has_lt h4 (by omega)]
      simp; omega
    have c2 : cnt (hasB (r :: l)) r.1 j = j := cnt_all fun x h5 h6 => by
      rw [has_cons]
      have : decide (r.1 ≤ x ∧ x ≤ r.2) = true := by simp; omega
      rw [this]; rfl
    have c3 : cnt (hasB (r :: l)) (r.2 + 1) q = cnt (hasB l) (r.2 + 1) q := cnt_congr fun x h5 h6 => by
      rw [has_cons]
      have : decide (r.1 ≤ x ∧ x ≤ r.2) = false := by simp; omega
      rw [this]; rfl
    rw [c1, c2, c3, cnt_count (h4.mono (by omega)) (by omega)]
    simp only [countI]
    omega
/-- one number more -/
theorem count_one {l y : List (Int × Int)} {v : Int} (hl : RightF 1 l) (hy : RightF 1 y) (hv : 1 ≤ v ∧ v ≤ 1099511627776) (h : ∀ x, hasB y x = (hasB l x || decide (x = v))) : countI y = countI l + (if hasB l v then 0 else 1) := by
  cases hb : hasB l v with
  | true =>
    have : y = l := ext hy hl fun x => by
      rw [h]
      by_cases hx : x = v
      · rw [hx, hb]; simp
      · simp [hx]
    rw [this]; simp
  | false =>
    rw [← cnt_count hl (k := 1099511627776) (by omega), ← cnt_count hy (k := 1099511627776) (by omega), cnt_one hb h hv.1 (by omega)]
    simp
end Sp
end Go.Proofs.Ytcdpmedihgobcaa
