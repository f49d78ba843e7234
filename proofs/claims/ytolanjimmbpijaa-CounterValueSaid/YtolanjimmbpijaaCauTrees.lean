/- What is known: two trees joined. -/
import Derived.Test.YtolanjimmbpijaaG00
import Derived.Test.YtolanjimmbpijaaCauMrgK
namespace Go.Proofs.Ytolanjimmbpijaa
open Go.ChangeShapes Go.WideShapes Go.ChangeAt Go.RowKit
namespace Cs
open Tr Cx Sp Rw
theorem boxC2 (w : World) (Ae Ak Be Bk Ca Cb : Option Addr) (ne nk ce ck me mk de dk na ca9 nb cb9 : Nat) : ∃ (W : World) (p q : Nat), Hid (W = (w.alloc (.cells #[.slice Ae ne ce, .slice Ak nk ck, .slice Ca na ca9] 33)).alloc (.cells #[.slice Be me de, .slice Bk mk dk, .slice Cb nb cb9] 33)) ∧ Hid (p = w.heap.size) ∧ Hid (q = p + 1) ∧ Hid (Kept [(⟨p, 0, none⟩, .slice Ae ne ce), (⟨p, 1, none⟩, .slice Ak nk ck), (⟨p, 2, none⟩, .slice Ca na ca9), (⟨q, 0, none⟩, .slice Be me de), (⟨q, 1, none⟩, .slice Bk mk dk), (⟨q, 2, none⟩, .slice Cb nb cb9)] w W) := by
 refine ⟨_, _, _, rfl, rfl, rfl, ?_⟩; have h0 := Kept.nil_of (Dt.box2_below w #[.slice Ae ne ce, .slice Ak nk ck, .slice Ca na ca9] #[.slice Be me de, .slice Bk mk dk, .slice Cb nb cb9] 33 33)
 refine (((((h0.cons_of ?_).cons_of ?_).cons_of ?_).cons_of ?_).cons_of ?_).cons_of ?_ <;> go_simp
theorem RdK.more {w : World} {B B' n c : Nat} {A : Option Addr} {ks : List Kd} (h : RdK w B A n c ks) (hB : B ≤ B') : RdK w B' A n c ks := by
 obtain ⟨xs, h1, h2, h3⟩ := h; refine ⟨xs, h1.more hB, h2, fun i hi => ?_⟩; obtain ⟨se, sk, e1, e2, e3, e4⟩ := h3 i hi; exact ⟨se, sk, e1, e2, e3, RdT.more hB _ e4⟩
end Cs
end Go.Proofs.Ytolanjimmbpijaa
