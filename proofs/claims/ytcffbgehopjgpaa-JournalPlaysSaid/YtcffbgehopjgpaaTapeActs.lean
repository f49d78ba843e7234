/- Layer 17: acts, few of them. -/
import Derived.Test.YtcffbgehopjgpaaTapeMem
namespace Go.Proofs.Ytcffbgehopjgpaa
open Go.ChangeShapes Go.WideShapes Go.ChangeAt Go.RowKit
namespace Tpe
open By
set_option maxRecDepth 100000
set_option maxHeartbeats 1000000
/-- an act, and where its bytes lie -/
structure Ac where
  kd : Int
  b : List UInt8
  m : Int
  y : UInt8
  A : Option Addr
  n : Nat
  c : Nat
def acC (x : Ac) : List Value := [.int .u8 x.kd, .slice x.A x.n x.c, .int .i64 x.m, .int .u8 x.y.toNat]
def acV (x : Ac) : Value := .agg #[.int .u8 x.kd, .slice x.A x.n x.c, .int .i64 x.m, .int .u8 x.y.toNat]
theorem acC_len (x : Ac) : (acC x).length = 4 := rfl
/-- an act's numbers -/
def AcN (x : Ac) : Prop := (0 ≤ x.kd ∧ x.kd ≤ 255) ∧ (-9223372036854775808 ≤ x.m ∧ x.m ≤ 9223372036854775807)
structure AcRd (w : World) (B : Nat) (A : Option Addr) (n c : Nat) (l : List Ac) : Prop where
  len : l.length = n
  row : Rd w B 4 A n c (l.flatMap acC)
  each : ∀ x ∈ l, Rd w B 1 x.A x.n x.c (u8s x.b) ∧ AcN x
theorem flat_at {α : Type} {f : α → List Value} {k : Nat} (hf : ∀ a, (f a).length = k) : ∀ (l : List α) (i j : Nat) (hi : i < l.length), j < k → (l.flatMap f)[i * k + j]? = (f l[i])[j]?
  | [], i, _, hi, _ => by simp at hi
  | a :: l, 0, j, _, hj => by
    rw [List.flatMap_cons, Nat.zero_mul, Nat.zero_add, List.getElem?_append_left (by rw [hf]; exact hj)]
    rfl
  | a :: l, i + 1, j, hi, hj => by
    have ih := flat_at hf l i j (by simpa using hi) hj
    have e : (i + 1) * k + j = k + (i * k + j) := by rw [Nat.succ_mul]; omega
    rw [List.flatMap_cons, e, List.getElem?_append_right (by rw [hf]; omega), hf, Nat.add_sub_cancel_left, ih]
    rfl
section
variable {w w' : World} {B B' n c : Nat} {A : Option Addr} {l : List Ac}
theorem AcRd.below (h : AcRd w B A n c l) (hb : Below B w w') : AcRd w' B A n c l := ⟨h.len, h.row.below hb, fun x hx => ⟨(h.each x hx).1.below hb, (h.each x hx).2⟩⟩
/-- the k-th act -/
theorem AcRd.at_ (h : AcRd w B A n c l) {k : Nat} (hk : k < n) : ∃ (b o : Nat) (x : Ac), A = some ⟨b, o, none⟩ ∧ b < B ∧ l[k]? = some x ∧ x ∈ l ∧
    w.cell? ⟨b, o + k * 4, none⟩ = some (.int .u8 x.kd) ∧ w.cell? ⟨b, o + k * 4 + 1, none⟩ = some (.slice x.A x.n x.c) ∧ w.cell? ⟨b, o + k * 4 + 2, none⟩ = some (.int .i64 x.m) ∧ w.cell? ⟨b, o + k * 4 + 3, none⟩ = some (.int .u8 x.y.toNat) := by
  obtain ⟨b, o, e, hb, hc⟩ := h.row.at_ (by omega)
  have hkl : k < l.length := by rw [h.len]; exact hk
  have key : ∀ j u, j < 4 → (acC l[k])[j]? = some u → w.cell? ⟨b, o + k * 4 + j, none⟩ = some u := fun j u hj hu => by
    rw [Nat.add_assoc]
    exact hc _ _ ((flat_at acC_len l k j hkl hj).trans hu)
  exact ⟨b, o, l[k], e, hb, List.getElem?_eq_getElem hkl, List.getElem_mem hkl, key 0 _ (by omega) rfl, key 1 _ (by omega) rfl, key 2 _ (by omega) rfl, key 3 _ (by omega) rfl⟩
end
def FewIs (l : List Ac) (n : Nat) (w : World) (e : Ending) (w' : World) : Prop := ∃ b : Bool, e = .returned (.bool b) ∧ Hid (b = true → n ≤ 61 ∧ ∀ x ∈ l, x.n ≤ 300) ∧ w = w'
end Tpe
end Go.Proofs.Ytcffbgehopjgpaa
