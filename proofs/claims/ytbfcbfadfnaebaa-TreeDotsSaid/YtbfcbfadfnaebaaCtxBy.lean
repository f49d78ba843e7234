/- Sets of dots, the document's: two put together. -/
import Derived.Test.YtbfcbfadfnaebaaCtxRef1
import Derived.Test.YtbfcbfadfnaebaaCtxLow
import Derived.Test.YtbfcbfadfnaebaaSpanBy
namespace Go.Proofs.Ytbfcbfadfnaebaa
open Go.ChangeShapes Go.WideShapes Go.ChangeAt Go.RowKit
namespace Cx
open Sp Rw
theorem spsC_append (a b : List S3) : spsC (a ++ b) = spsC a ++ spsC b := by simp [spsC]
theorem spsC_one (l : List S3) : ∀ u ∈ spsC l, u.oneCell' = true := by
  intro u hu
  obtain ⟨s, _, hu⟩ := List.mem_flatMap.1 hu
  exact spC_one s u hu
theorem appsC {w : World} {base n m c c' : Nat} {A A' : Option Addr} {xs ys : List S3} (ho : Own w base 63 3 A n c (spsC xs)) (hr : Rd w w.heap.size 3 A' m c' (spsC ys)) (hn : n + m ≤ 1000000) (hb : base ≤ w.heap.size) :
    ∃ A2 c2 w2, (Builtin.append_ #[33, 33] 33 #[.slice A n c, .slice A' m c']).run Try.prog w = .ok (.slice A2 (n + m) c2) w2 ∧ Own w2 base 63 3 A2 (n + m) c2 (spsC (xs ++ ys)) ∧ Below base w w2 := by
  obtain ⟨i0, hi0, hz0, hz1, hz2⟩ := info_of infoS
  obtain ⟨v', w', h1, h2, h3, h4⟩ := run_app (P := Try.prog) w base 33 33 63 i0 _ 3 24 Try.underlying33 hi0 hz0 hz1 hz2 rfl (by omega) ho.row hr hn (by omega) hb
  rw [← spsC_append] at h2
  obtain ⟨A2, c2, rfl, h5⟩ := Own.of_row h2 (spsC_one _)
  exact ⟨A2, c2, w', h1, h5, (Below.refl base w).grown h3 hb (fun k hk => (ho.row.lt k hk).1)⟩
/-- the first d centers', put together -/
theorem pre_congr {q r : Nat → List (Int × Int)} : ∀ d : Nat, (∀ j, j < d → q j = r j) → pre q d = pre r d
  | 0, _ => rfl
  | d + 1, h => by simp only [pre]; rw [pre_congr d (fun j hj => h j (by omega)), h d (by omega)]
theorem has_le_len {a b l : List (Int × Int)} {f : Bool → Bool → Bool} {l' : List (Int × Int)} (h1 : RightF 1 l) (h2 : ∀ n, hasB l n = f (hasB a n) (hasB b n)) (h : Put f a b l') : l = l' := ext h1 h.right fun n => by rw [h2, h.has]
end Cx
end Go.Proofs.Ytbfcbfadfnaebaa
