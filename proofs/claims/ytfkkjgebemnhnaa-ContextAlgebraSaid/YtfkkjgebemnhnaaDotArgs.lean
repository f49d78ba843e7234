/- Dots that came in: one by value, a slice of them. -/
import Derived.Test.YtfkkjgebemnhnaaLaw
import Derived.Lib.SmallJoins
import Derived.ChangeSame
import Derived.ChangeArms
import Derived.Deep.Slices
namespace Go.Proofs.Ytfkkjgebemnhnaa
open Go.ChangeShapes Go.WideShapes Go.ChangeAt Go.RowKit Go.Joins
namespace Dt
set_option maxRecDepth 100000
theorem wf_i64 {n : Int} (h : (Lit.int .i64 n).wf = true) : -9223372036854775808 ≤ n ∧ n ≤ 9223372036854775807 := by
  have e1 : IntKind.i64.min = -9223372036854775808 := by decide
  have e2 : IntKind.i64.max = 9223372036854775807 := by decide
  simp [Lit.wf, e1, e2] at h
  exact h
/-- n fits 64 bits -/
def B64 (n : Int) : Prop := -9223372036854775808 ≤ n ∧ n ≤ 9223372036854775807
theorem dot_of_trod {H : Type} {enc : TypeId × Value → H} {W : World} {b0 : Nat} {v : Value} {d : DataW H} {p : List MemPlace}
    (hv : Value.okWide Try.prog W .any b0 41 v) (h : DataW.Trod enc Try.prog W 0 (fun _ => true) true 41 v d p) :
    ∃ a n : Int, v = .agg #[.int .i64 a, .int .i64 n] ∧ B64 a ∧ B64 n := by
  obtain ⟨v0, v1, y0, y1, n, rfl, _, _, h0, h1⟩ := open_agg2 Try.underlying41 (by kernel_rfl) (by kernel_rfl) hv h
  obtain ⟨a, e0, _, w0⟩ := DataW.trod_int Try.underlying3 h0
  obtain ⟨b, e1, _, w1⟩ := DataW.trod_int Try.underlying2 h1
  simp only [List.cons.injEq, and_true] at e0 e1
  subst e0; subst e1
  exact ⟨a, b, rfl, wf_i64 w0, wf_i64 w1⟩
/-- a dot's cells -/
def dotC (d : Int × Int) : List Value := [.int .i64 d.1, .int .i64 d.2]
theorem dots_of_trod {H : Type} {enc : TypeId × Value → H} {W : World} {A : Option Addr} {len cap fuel : Nat} {x : DataW H × List MemPlace}
    (h : DataW.trod enc Try.prog W 0 (fun _ => true) true fuel 35 (Value.slice A len cap).cells.toList = some x) :
    ∃ l : List (Int × Int), l.length = len ∧ Rd W W.heap.size 2 A len cap (l.flatMap dotC) ∧ len ≤ maxLen := by
  refine rd_of_trod dotC (fun _ => rfl) (fun _ u hu => by simp [dotC] at hu; rcases hu with rfl | rfl <;> rfl) (by omega) Try.underlying35 (by kernel_rfl) ?_ h
  intro n cs y hy
  obtain ⟨y0, y1, m, _, hlen, h0, h1⟩ := trod_struct2 Try.underlying41 hy
  have hc2 : Try.prog.cellsOf 41 = 2 := by kernel_rfl
  have hci : Try.prog.cellsOf 3 = 1 := by kernel_rfl
  have hcj : Try.prog.cellsOf 2 = 1 := by kernel_rfl
  rw [hc2] at hlen
  obtain ⟨c0, c1, rfl⟩ : ∃ c0 c1, cs = [c0, c1] := by
    match cs, hlen with
    | [c0, c1], _ => exact ⟨_, _, rfl⟩
  simp only [hci, hcj] at h0 h1
  obtain ⟨a, e0, _, w0⟩ := DataW.trod_int Try.underlying3 h0
  obtain ⟨b, e1, _, w1⟩ := DataW.trod_int Try.underlying2 h1
  simp at e0 e1
  subst e0; subst e1
  exact ⟨(a, b), rfl⟩
end Dt
end Go.Proofs.Ytfkkjgebemnhnaa
