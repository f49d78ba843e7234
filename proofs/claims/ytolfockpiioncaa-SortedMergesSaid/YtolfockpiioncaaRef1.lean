/- The document's answers for layer 1: Value and Keys, by definition. -/
import Derived.Test.YtolfockpiioncaaAwake
import Derived.Test.YtolfockpiioncaaSortS4
namespace Go.Proofs.Ytolfockpiioncaa
open Go.RowKit
structure Act where
  key : ByteArray
  v : Int
  gone : Bool
def flatA (l : List Act) : List Value := l.flatMap fun a => [.string a.key, .int .i64 a.v, .bool a.gone]
theorem flatA_len (l : List Act) : (flatA l).length = l.length * 3 := by
  induction l with
  | nil => rfl
  | cons p l ih => simp [flatA, List.flatMap_cons] at ih ⊢; omega
theorem flatA_at (l : List Act) : ∀ (j : Nat) (h : j < l.length), (flatA l)[j * 3]? = some (.string l[j].key) ∧ (flatA l)[j * 3 + 1]? = some (.int .i64 l[j].v) ∧ (flatA l)[j * 3 + 2]? = some (.bool l[j].gone) := by
  induction l with
  | nil => intro j h; simp at h
  | cons p l ih =>
    intro j h
    cases j with
    | zero => exact ⟨rfl, rfl, rfl⟩
    | succ j =>
      have := ih j (by simpa using h)
      refine ⟨?_, ?_, ?_⟩
      · simpa [flatA, List.flatMap_cons, Nat.succ_mul] using this.1
      · simpa [flatA, List.flatMap_cons, Nat.succ_mul] using this.2.1
      · simpa [flatA, List.flatMap_cons, Nat.succ_mul] using this.2.2
theorem flatA_one (l : List Act) : ∀ u ∈ flatA l, u.oneCell' = true := by
  intro u hu
  obtain ⟨p, _, hu⟩ := List.mem_flatMap.1 hu
  simp only [List.mem_cons, List.not_mem_nil, or_false] at hu
  rcases hu with rfl | rfl | rfl <;> rfl
theorem flatA_take (l : List Act) : ∀ i, flatA (l.take i) = (flatA l).take (i * 3) := by
  induction l with
  | nil => intro i; simp [flatA]
  | cons p l ih =>
    intro i
    cases i with
    | zero => simp [flatA]
    | succ i => have := ih i; simp [flatA, Nat.succ_mul] at this ⊢; exact this

/-- what a key has behind some acts -/
def valueOf (h : List Act) (k : ByteArray) : Option Int :=
  match h.reverse.find? (fun a => decide (a.key = k)) with
  | some a => if a.gone then none else some a.v
  | none => none
theorem valueOf_nil (k : ByteArray) : valueOf [] k = none := rfl
theorem valueOf_snoc (h : List Act) (a : Act) (k : ByteArray) : valueOf (h ++ [a]) k = if a.key = k then (if a.gone then none else some a.v) else valueOf h k := by
  unfold valueOf
  rw [List.reverse_append]
  simp only [List.reverse_singleton, List.singleton_append, List.find?_cons]
  by_cases h1 : a.key = k <;> simp [h1]
/-- what Value answers -/
def valV (o : Option Int) : Value := .tuple #[.int .i64 (o.getD 0), .bool o.isSome]

namespace Ref1
/-- the last i have none of k -/
def Past (h : List Act) (k : ByteArray) (i : Nat) : Prop := ∀ j (hj : j < h.length), h.length - i ≤ j → h[j].key ≠ k
theorem valueOf_drop {h : List Act} {k : ByteArray} : ∀ (i : Nat), i ≤ h.length → Past h k i → valueOf h k = valueOf (h.take (h.length - i)) k
  | 0, _, _ => by simp
  | i + 1, hi, hp => by
    rw [valueOf_drop i (by omega) (fun j hj h1 => hp j hj (by omega))]
    have e : h.take (h.length - i) = h.take (h.length - (i + 1)) ++ [h[h.length - (i + 1)]'(by omega)] := by
      have e2 : h.length - i = (h.length - (i + 1)) + 1 := by omega
      rw [e2, List.take_succ_eq_append_getElem (by omega)]
    rw [e, valueOf_snoc, if_neg (hp _ (by omega) (by omega))]

set_option maxRecDepth 100000 in
set_option maxHeartbeats 1000000 in
theorem value_any (h : List Act) (k : ByteArray) (A : Option Addr) (c : Nat) (w : World) (hr : Rd w w.heap.size 3 A h.length c (flatA h)) (hn : h.length ≤ 100000) :
    Calls Try.prog 25 #[.slice A h.length c, .string k] w fun e w' => e = .returned (valV (valueOf h k)) ∧ Below w.heap.size w w' := by
  have HR := Lib.hid hr
  clear hr
  go_enter Try.func25, Try.ntmps25
  go_wp2
  go_loopw [10] (fun q wr => ∃ i : Nat, q = .int .i64 i ∧ i ≤ h.length ∧ Below w.heap.size w wr ∧ Hid (Past h k i)) (fun q _ => (h.length - intOf q).toNat)
  case atStart => exact ⟨0, rfl, Nat.zero_le _, Below.refl _ _, fun j hj h1 => by omega⟩
  case round =>
    obtain ⟨i, rfl, hi, hB, hp⟩ := hrel
    by_cases hlt : i < h.length
    · obtain ⟨b, o, rfl, hb, hc⟩ := HR.out.at_ (by omega)
      obtain ⟨j, hj⟩ : ∃ j, j = h.length - (i + 1) := ⟨_, rfl⟩
      have hjl : j < h.length := by omega
      have hji : (h.length : Int) - 1 - i = (j : Int) := by omega
      obtain ⟨f0, f1, f2⟩ := flatA_at h j hjl
      obtain ⟨⟨ak, av, ag⟩, ha⟩ : ∃ a, a = h[j] := ⟨_, rfl⟩
      rw [← ha] at f0 f1 f2
      have k0 : wr.cell? ⟨b, o + j * 3, none⟩ = some (.string ak) := (hB.cell (p := ⟨b, o + j * 3, none⟩) hb).trans (hc _ _ f0)
      have k1 : wr.cell? ⟨b, o + j * 3 + 1, none⟩ = some (.int .i64 av) := (hB.cell (p := ⟨b, o + j * 3 + 1, none⟩) hb).trans (hc _ _ f1)
      have k2 : wr.cell? ⟨b, o + j * 3 + 2, none⟩ = some (.bool ag) := (hB.cell (p := ⟨b, o + j * 3 + 2, none⟩) hb).trans (hc _ _ f2)
      have hi1 : (i : Int) < h.length := by omega
      have hjl1 : (j : Int) < h.length := by omega
      have HJ := Lib.hid hj
      have HA := Lib.hid ha
      have hval : Hid (valueOf h k = if ak = k then (if ag then none else some av) else valueOf (h.take (h.length - (i + 1))) k) := by
        unfold Hid
        rw [valueOf_drop i hi hp]
        have e : h.take (h.length - i) = h.take j ++ [h[j]] := by
          have e2 : h.length - i = j + 1 := by omega
          rw [e2, List.take_succ_eq_append_getElem (by omega)]
        rw [e, valueOf_snoc, ← ha, hj]
      have hp2 : Hid (ak ≠ k → Past h k (i + 1)) := by
        intro hne j' hj' h1
        by_cases e : j' = j
        · subst e; rw [← ha]; exact hne
        · exact hp j' hj' (by omega)
      clear hc f0 f1 f2 hj ha hp
      by_cases hk : ak = k
      · have e1 : (ak.toList == k.toList) = true := by rw [hk]; simp
        have HV := hval
        unfold Hid at HV
        rw [if_pos hk] at HV
        have HV2 := Lib.hid HV
        clear HV hk hval hp2
        cases ag
        · go_wp2
          go_ret2
          refine ⟨?_, hB.alloc hB.size _⟩
          rw [HV2.out]
          rfl
        · go_wp2
          go_ret2
          refine ⟨?_, hB.alloc hB.size _⟩
          rw [HV2.out]
          rfl
      · have e1 : (ak.toList == k.toList) = false := by
          simp only [beq_eq_false_iff_ne, ne_eq]
          exact fun e => hk (bytes_ext e)
        have HP := Lib.hid (hp2 hk)
        clear hk hp2 hval
        go_wp2
        go_roundw
        case rel => exact ⟨i + 1, by go_num, by omega, hB.alloc hB.size _, HP.out⟩
        case measure => simp [intOf]; omega
    · obtain rfl : i = h.length := by omega
      have HV : Hid (valueOf h k = none) := by
        unfold Hid
        rw [valueOf_drop h.length (Nat.le_refl _) hp, Nat.sub_self]
        rfl
      clear hp
      go_wp2
      go_ret2
      exact ⟨by rw [HV.out]; rfl, hB⟩

/-- keys that have something, told rising -/
def KeysIs (h : List Act) (ks : List ByteArray) : Prop := ks.Pairwise ltS ∧ ∀ k, k ∈ ks ↔ (valueOf h k).isSome = true
/-- the keys told so far -/
def Told (h : List Act) (ks : List ByteArray) : Prop := ks.Pairwise ltS ∧ (∀ k ∈ ks, (valueOf h k).isSome = true) ∧ ∀ k, (valueOf h k).isSome = true → k ∈ ks ∨ ∀ a ∈ ks, ltS a k
/-- the least one above those told, among the first i -/
def Best (h : List Act) (ks : List ByteArray) (i : Nat) (best : ByteArray) (some_ : Bool) : Prop :=
  (some_ = true → (valueOf h best).isSome = true ∧ ∀ a ∈ ks, ltS a best) ∧
  ∀ j (hj : j < h.length), j < i → (valueOf h h[j].key).isSome = true → (∀ a ∈ ks, ltS a h[j].key) → some_ = true ∧ ¬ ltS h[j].key best
end Ref1
end Go.Proofs.Ytolfockpiioncaa
