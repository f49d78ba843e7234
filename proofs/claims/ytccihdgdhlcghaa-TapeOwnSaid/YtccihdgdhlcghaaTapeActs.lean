/- Layer 17: acts, few of them. -/
import Derived.Test.YtccihdgdhlcghaaTapeMem
namespace Go.Proofs.Ytccihdgdhlcghaa
open Go.ChangeShapes Go.WideShapes Go.ChangeAt Go.RowKit
namespace Tpe
open By
set_option maxRecDepth 100000
set_option maxHeartbeats 1000000
/-- an act, and where its bytes lie -/
structure Ac where
  kd : Int
  b : List UInt8
  m : Int
  y : UInt8
  A : Option Addr
  n : Nat
  c : Nat
def acC (x : Ac) : List Value := [.int .u8 x.kd, .slice x.A x.n x.c, .int .i64 x.m, .int .u8 x.y.toNat]
def acV (x : Ac) : Value := .agg #[.int .u8 x.kd, .slice x.A x.n x.c, .int .i64 x.m, .int .u8 x.y.toNat]
theorem acC_len (x : Ac) : (acC x).length = 4 := rfl
/-- an act's numbers -/
def AcN (x : Ac) : Prop := (0 ≤ x.kd ∧ x.kd ≤ 255) ∧ (-9223372036854775808 ≤ x.m ∧ x.m ≤ 9223372036854775807)
structure AcRd (w : World) (B : Nat) (A : Option Addr) (n c : Nat) (l : List Ac) : Prop where
  len : l.length = n
  row : Rd w B 4 A n c (l.flatMap acC)
  each : ∀ x ∈ l, Rd w B 1 x.A x.n x.c (u8s x.b) ∧ AcN x
theorem flat_at {α : Type} {f : α → List Value} {k : Nat} (hf : ∀ a, (f a).length = k) : ∀ (l : List α) (i j : Nat) (hi : i < l.length), j < k → (l.flatMap f)[i * k + j]? = (f l[i])[j]?
  | [], i, _, hi, _ => by simp at hi
  | a :: l, 0, j, _, hj => by
    rw [List.flatMap_cons, Nat.zero_mul, Nat.zero_add, List.getElem?_append_left (by rw [hf]; exact hj)]
    rfl
  | a :: l, i + 1, j, hi, hj => by
    have ih := flat_at hf l i j (by simpa using hi) hj
    have e : (i + 1) * k + j = k + (i * k + j) := by rw [Nat.succ_mul]; omega
    rw [List.flatMap_cons, e, List.getElem?_append_right (by rw [hf]; omega), hf, Nat.add_sub_cancel_left, ih]
    rfl
section
variable {w w' : World} {B B' n c : Nat} {A : Option Addr} {l : List Ac}
theorem AcRd.below (h : AcRd w B A n c l) (hb : Below B w w') : AcRd w' B A n c l := ⟨h.len, h.row.below hb, fun x hx => ⟨(h.each x hx).1.below hb, (h.each x hx).2⟩⟩
/-- the k-th act -/
theorem AcRd.at_ (h : AcRd w B A n c l) {k : Nat} (hk : k < n) : ∃ (b o : Nat) (x : Ac), A = some ⟨b, o, none⟩ ∧ b < B ∧ l[k]? = some x ∧ x ∈ l ∧
    w.cell? ⟨b, o + k * 4, none⟩ = some (.int .u8 x.kd) ∧ w.cell? ⟨b, o + k * 4 + 1, none⟩ = some (.slice x.A x.n x.c) ∧ w.cell? ⟨b, o + k * 4 + 2, none⟩ = some (.int .i64 x.m) ∧ w.cell? ⟨b, o + k * 4 + 3, none⟩ = some (.int .u8 x.y.toNat) := by
  obtain ⟨b, o, e, hb, hc⟩ := h.row.at_ (by omega)
  have hkl : k < l.length := by rw [h.len]; exact hk
  have key : ∀ j u, j < 4 → (acC l[k])[j]? = some u → w.cell? ⟨b, o + k * 4 + j, none⟩ = some u := fun j u hj hu => by
    rw [Nat.add_assoc]
    exact hc _ _ ((flat_at acC_len l k j hkl hj).trans hu)
  exact ⟨b, o, l[k], e, hb, List.getElem?_eq_getElem hkl, List.getElem_mem hkl, key 0 _ (by omega) rfl, key 1 _ (by omega) rfl, key 2 _ (by omega) rfl, key 3 _ (by omega) rfl⟩
end
def FewIs (l : List Ac) (n : Nat) (w : World) (e : Ending) (w' : World) : Prop := ∃ b : Bool, e = .returned (.bool b) ∧ Hid (b = true → n ≤ 61 ∧ ∀ x ∈ l, x.n ≤ 300) ∧ w = w'
theorem few_any (l : List Ac) (n : Nat) (A : Option Addr) (c B : Nat) (w : World) (hl : AcRd w B A n c l) (hn : n ≤ 9223372036854775807) :
    Calls Try.prog 9 #[.slice A n c] w (FewIs l n w) := by
  have HA := Lib.hid hl
  clear hl
  go_enter Try.func9, Try.ntmps9
  go_wp2_with fail
  go_loop [6] (fun q => ∃ k : Nat, k ≤ n ∧ q = .int .i64 k ∧ Hid (∀ (j : Nat) (x : Ac), j < k → l[j]? = some x → j ≤ 60 ∧ x.n ≤ 300)) (fun q => n - (intOf q).toNat)
  case atStart => exact ⟨0, by omega, rfl, fun j _ h => absurd h (by omega)⟩
  case round =>
    obtain ⟨k, hk, rfl, HI⟩ := hrel
    by_cases hlt : k < n
    · have hki : (k : Int) < (n : Int) := by omega
      by_cases h60 : 60 < k
      · have f1 : decide ((60 : Int) < (k : Int)) = true := decide_eq_true (by omega)
        go_wp2_with fail
        go_ret
        exact ⟨false, rfl, (fun h => by cases h), rfl⟩
      have f1 : decide ((60 : Int) < (k : Int)) = false := decide_eq_false (by omega)
      obtain ⟨b, o, x, rfl, _, hx, _, _, a1, _, _⟩ := HA.out.at_ hlt
      by_cases h300 : 300 < x.n
      · have f2 : decide ((300 : Int) < (x.n : Int)) = true := decide_eq_true (by omega)
        clear hx
        go_wp2_with fail
        go_ret
        exact ⟨false, rfl, (fun h => by cases h), rfl⟩
      have f2 : decide ((300 : Int) < (x.n : Int)) = false := decide_eq_false (by omega)
      have HX : Hid (∀ (j : Nat) (y : Ac), j < k + 1 → l[j]? = some y → j ≤ 60 ∧ y.n ≤ 300) := fun j y hj hy => by
        by_cases e : j = k
        · subst e
          rw [hx] at hy
          injection hy with hy
          subst hy
          exact ⟨by omega, by omega⟩
        · exact HI.out j y (by omega) hy
      clear hx h60 h300
      go_wp2_with fail
      go_round
      case rel => exact ⟨k + 1, by omega, by go_num, HX.out⟩
      case measure => simp [intOf]; omega
    · have hki : ¬ ((k : Int) < (n : Int)) := by omega
      obtain rfl : k = n := by omega
      have HX : Hid (true = true → k ≤ 61 ∧ ∀ x ∈ l, x.n ≤ 300) := fun _ => by
        have hl := HA.out.len
        refine ⟨?_, fun x hx => ?_⟩
        · by_cases h : k ≤ 61
          · exact h
          · have hj : 61 < l.length := by omega
            have := (HI.out 61 l[61] (by omega) (List.getElem?_eq_getElem hj)).1
            omega
        · obtain ⟨j, hj, rfl⟩ := List.mem_iff_getElem.1 hx
          exact (HI.out j _ (by omega) (List.getElem?_eq_getElem hj)).2
      go_wp2_with fail
      go_ret
      exact ⟨true, rfl, fun _ => HX.out trivial, rfl⟩
end Tpe
end Go.Proofs.Ytccihdgdhlcghaa
