/- Layer 17: an act befalls a tape, and the document's. -/
import Derived.Test.YtcffbgehopjgpaaTapeActs
import Derived.Test.YtcffbgehopjgpaaTape3
import Derived.Test.YtcffbgehopjgpaaTapeRef2
namespace Go.Proofs.Ytcffbgehopjgpaa
open Go.ChangeShapes Go.WideShapes Go.ChangeAt Go.RowKit
namespace Tpe
open By
set_option maxRecDepth 100000
set_option maxHeartbeats 1000000
theorem Did.from_ {w V w' : World} {lo g : Nat} {ob : Option Nat} {s : S} (hb : Below w.heap.size w V) (h : Did V lo g ob s w') : Did w lo g ob s w' := by
  obtain ⟨ob', h1, h2, h3⟩ := h
  refine ⟨ob', h1, (Two.of_below hb).trans (Fresh.refl _ _) h2, ?_⟩
  rcases h3 with h | h | ⟨k, h, hk⟩
  · exact .inl h
  · exact .inr (.inl h)
  · exact .inr (.inr ⟨k, h, Nat.le_trans hb.size hk⟩)
theorem two5 {W W9 : World} {r n c : Nat} {ok : Nat → Prop} {A : Option Addr} {bs : List UInt8} {a0 a1 a2 a3 a4 : Value} (h : W9 = ((((W.setCell ⟨r, 0, none⟩ a0).setCell ⟨r, 1, none⟩ a1).setCell ⟨r, 2, none⟩ a2).setCell ⟨r, 3, none⟩ a3).setCell ⟨r, 4, none⟩ a4) (hr : Rk W (fun b => ok b ∧ b ≠ r) A n c bs) : Rk W9 ok A n c bs := by
  have ht : Two r none W W9 := by rw [h]; exact (((((Two.refl r none W).setCell 0 _).setCell 1 _).setCell 2 _).setCell 3 _).setCell 4 _
  exact (hr.two ht fun b hb _ => ⟨hb.2, by simp⟩).mono fun b hb _ => hb.1
end Tpe
end Go.Proofs.Ytcffbgehopjgpaa
