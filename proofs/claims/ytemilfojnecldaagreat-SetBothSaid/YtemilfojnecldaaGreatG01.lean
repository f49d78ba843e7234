/- Texts of the lower layers, and of layer 9, put together. -/
import Derived.Test.YtemilfojnecldaaGreatG00
namespace Go.Proofs.YtemilfojnecldaaGreat
open Go.ChangeShapes Go.WideShapes Go.ChangeAt Go.RowKit
namespace Tr
open Rw Sp
def Alike (u v : Value) : Prop := u = v ∨ (∃ a b : Int, u = .int .i64 a ∧ v = .int .i64 b) ∨ ∃ a b : ByteArray, u = .string a ∧ v = .string b
theorem Alike.trans {u v x : Value} (h : Alike u v) (k : Alike v x) : Alike u x := by
 rcases h with rfl | ⟨a, b, rfl, rfl⟩ | ⟨a, b, rfl, rfl⟩
 ·exact k
 ·rcases k with rfl | ⟨a', b', _, rfl⟩ | ⟨a', b', h, _⟩
  ·exact .inr (.inl ⟨_, _, rfl, rfl⟩)
  ·exact .inr (.inl ⟨_, _, rfl, rfl⟩)
  ·cases h
 ·rcases k with rfl | ⟨a', b', h, _⟩ | ⟨a', b', _, rfl⟩
  ·exact .inr (.inr ⟨_, _, rfl, rfl⟩)
  ·cases h
  ·exact .inr (.inr ⟨_, _, rfl, rfl⟩)
theorem Alike.int {a : Int} {v : Value} (h : Alike (.int .i64 a) v) : ∃ b : Int, v = .int .i64 b := by
 rcases h with rfl | ⟨_, b, _, rfl⟩ | ⟨_, _, h, _⟩
 ·exact ⟨_, rfl⟩
 ·exact ⟨b, rfl⟩
 ·cases h
theorem Alike.slice {A : Option Addr} {n c : Nat} {v : Value} (h : Alike (.slice A n c) v) : v = .slice A n c := by
 rcases h with rfl | ⟨_, _, h, _⟩ | ⟨_, _, h, _⟩
 ·rfl
 ·cases h
 ·cases h
structure Fr (lo : Nat) (w w' : World) : Prop where
 below : Below lo w w'
 size : w.heap.size ≤ w'.heap.size
 cell : ∀ (b j : Nat) (u : Value), b < w.heap.size → w.cell? ⟨b, j, none⟩ = some u → ∃ v, w'.cell? ⟨b, j, none⟩ = some v ∧ Alike u v
 froz : ∀ b j : Nat, b < w.heap.size → w'.frozen? ⟨b, j, none⟩ = w.frozen? ⟨b, j, none⟩
namespace Fr
variable {lo : Nat} {w w' w'' : World}
theorem refl (lo : Nat) (w : World) : Fr lo w w := ⟨Below.refl _ _, Nat.le_refl _, fun _ _ u _ h => ⟨u, h, .inl rfl⟩, fun _ _ _ => rfl⟩
theorem trans (h : Fr lo w w') (k : Fr lo w' w'') : Fr lo w w'' :=
 ⟨h.below.trans k.below, Nat.le_trans h.size k.size, fun b j u hb hu => by
  obtain ⟨v, hv, ha⟩ := h.cell b j u hb hu; obtain ⟨x, hx, ha2⟩ := k.cell b j v (Nat.lt_of_lt_of_le hb h.size) hv
  exact ⟨x, hx, ha.trans ha2⟩, fun b j hb => (k.froz b j (Nat.lt_of_lt_of_le hb h.size)).trans (h.froz b j hb)⟩
theorem set {b j : Nat} {u v : Value} (hl : lo ≤ b) (hf : w.frozen? ⟨b, j, none⟩ = false) (hu : w.cell? ⟨b, j, none⟩ = some u) (ha : Alike u v) : Fr lo w (w.setCell ⟨b, j, none⟩ v) :=
 ⟨(Below.refl lo w).setCell (p := ⟨b, j, none⟩) hl _, by simp [World.setCell], fun b' j' u' _ hu' => by
  by_cases he : (⟨b', j', none⟩ : Addr) = ⟨b, j, none⟩
  ·injection he with e1 e2
   subst e1; subst e2; rw [hu] at hu'; injection hu' with hu'; subst hu'; have m0 := hf; exact ⟨v, by go_simp, ha⟩
  ·exact ⟨u', (World.cell?_setCell_other w ⟨b, j, none⟩ ⟨b', j', none⟩ v (fun e => he e.symm)).trans hu', .inl rfl⟩, fun b' j' _ => by rw [World.frozen?_setCell]⟩
end Fr
def ScrT (w : World) (lo : Nat) : T → SV → SV → Prop
 | .mk es ks, se, sk => es.length = se.n ∧ (0 < se.n → ∃ b o, se.A = some ⟨b, o, none⟩ ∧ lo ≤ b ∧ b < w.heap.size ∧ (∀ j, w.frozen? ⟨b, j, none⟩ = false) ∧ ∀ i, i < se.n → ∃ (x0 x1 : Int) (x2 : ByteArray) (x3 : Int), w.cell? ⟨b, o + i * 4, none⟩ = some (.int .i64 x0) ∧ w.cell? ⟨b, o + i * 4 + 1, none⟩ = some (.int .i64 x1) ∧ w.cell? ⟨b, o + i * 4 + 2, none⟩ = some (.string x2) ∧ w.cell? ⟨b, o + i * 4 + 3, none⟩ = some (.int .i64 x3)) ∧
   ks.length = sk.n ∧ (0 < sk.n → ∃ b o, sk.A = some ⟨b, o, none⟩ ∧ lo ≤ b ∧ b < w.heap.size ∧ (∀ j, w.frozen? ⟨b, j, none⟩ = false) ∧ ∀ (i : Nat) (h : i < ks.length), ∃ (key : ByteArray) (se' sk' : SV), w.cell? ⟨b, o + i * 3, none⟩ = some (.string key) ∧ w.cell? ⟨b, o + i * 3 + 1, none⟩ = some (.slice se'.A se'.n se'.c) ∧ w.cell? ⟨b, o + i * 3 + 2, none⟩ = some (.slice sk'.A sk'.n sk'.c) ∧ ScrT w lo (ks[i]).2 se' sk')
termination_by t => SizeOf.sizeOf t
decreasing_by exact at_lt h es
theorem scrT_mk (w : World) (lo : Nat) (es : List E) (ks : List (ByteArray × T)) (se sk : SV) : ScrT w lo (.mk es ks) se sk ↔ (es.length = se.n ∧ (0 < se.n → ∃ b o, se.A = some ⟨b, o, none⟩ ∧ lo ≤ b ∧ b < w.heap.size ∧ (∀ j, w.frozen? ⟨b, j, none⟩ = false) ∧ ∀ i, i < se.n → ∃ (x0 x1 : Int) (x2 : ByteArray) (x3 : Int), w.cell? ⟨b, o + i * 4, none⟩ = some (.int .i64 x0) ∧ w.cell? ⟨b, o + i * 4 + 1, none⟩ = some (.int .i64 x1) ∧ w.cell? ⟨b, o + i * 4 + 2, none⟩ = some (.string x2) ∧ w.cell? ⟨b, o + i * 4 + 3, none⟩ = some (.int .i64 x3)) ∧
   ks.length = sk.n ∧ (0 < sk.n → ∃ b o, sk.A = some ⟨b, o, none⟩ ∧ lo ≤ b ∧ b < w.heap.size ∧ (∀ j, w.frozen? ⟨b, j, none⟩ = false) ∧ ∀ (i : Nat) (h : i < ks.length), ∃ (key : ByteArray) (se' sk' : SV), w.cell? ⟨b, o + i * 3, none⟩ = some (.string key) ∧ w.cell? ⟨b, o + i * 3 + 1, none⟩ = some (.slice se'.A se'.n se'.c) ∧ w.cell? ⟨b, o + i * 3 + 2, none⟩ = some (.slice sk'.A sk'.n sk'.c) ∧ ScrT w lo (ks[i]).2 se' sk')) := by
 rw [ScrT]
theorem ScrT.of_rd {w : World} {ok : Nat → Prop} {lo : Nat} (hok : ∀ b, ok b → b < w.heap.size → lo ≤ b) : ∀ (t : T) {se sk : SV}, RdO w ok t se sk → ScrT w lo t se sk := by
 intro t
 induction t using T.ind with
 | h es ks ih =>
  intro se sk h; rw [rdO_mk] at h; rw [scrT_mk]; obtain ⟨h1, h2, h3, xs, h4, h5⟩ := h; refine ⟨h1, fun hn => ?_, h3, fun hn => ?_⟩
  ·obtain ⟨b, o, e, q1, q2, q3, q4⟩ := h2.at_ hn
   refine ⟨b, o, e, hok b q1 q2, q2, q3, fun i hi => ?_⟩
   have hi' : i < es.length := by omega
   have f := fun j hj => flat_at entC_len es i j hi' hj; refine ⟨es[i].a, es[i].n, es[i].s, es[i].v, q4 _ _ (f 0 (by omega)), ?_, ?_, ?_⟩
   ·rw [Nat.add_assoc]; exact q4 _ _ (f 1 (by omega))
   ·rw [Nat.add_assoc]; exact q4 _ _ (f 2 (by omega))
   ·rw [Nat.add_assoc]; exact q4 _ _ (f 3 (by omega))
  ·obtain ⟨b, o, e, q1, q2, q3, q4⟩ := h4.at_ hn
   refine ⟨b, o, e, hok b q1 q2, q2, q3, fun i hi => ?_⟩; obtain ⟨se', sk', e1, e2, e3, e4⟩ := h5 i hi; refine ⟨(ks[i]).1, se', sk', q4 _ _ e1, ?_, ?_, ih _ (List.getElem_mem hi) e4⟩
   ·rw [Nat.add_assoc]; exact q4 _ _ e2
   ·rw [Nat.add_assoc]; exact q4 _ _ e3
end Tr
end Go.Proofs.YtemilfojnecldaaGreat
namespace Go.Proofs.YtemilfojnecldaaGreat
open Go.ChangeShapes Go.WideShapes Go.ChangeAt Go.RowKit
namespace Tr
open Sp Rw
end Tr
end Go.Proofs.YtemilfojnecldaaGreat
