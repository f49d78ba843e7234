/- Layer 18: a journal and the document's beside it, through whatever befalls them. -/
import Derived.Test.YtcffbgehopjgpaaJournalOpens2
import Derived.Test.YtcffbgehopjgpaaTapeRef2
namespace Go.Proofs.Ytcffbgehopjgpaa
open Go.ChangeShapes Go.WideShapes Go.ChangeAt Go.RowKit
namespace Jrn
open By Tpe Frm
set_option maxRecDepth 100000
set_option maxHeartbeats 1000000
/-- what is always so of a tape -/
def Okc (s : S) : Prop := Ok s 65535 ∧ s.bs.length ≤ s.cap ∧ s.cap ≤ 65535
section
variable {s : S} {b : Rec}
theorem Okc.app (h : Okc s) (x : Rec) : Okc (app s x).1 := by
  obtain ⟨⟨h1, h2, h3, h4⟩, h5, h6⟩ := h
  have h7 := less_ok h4
  unfold Tpe.app
  repeat' split
  · exact ⟨⟨h1, h2, h3, h4⟩, h5, h6⟩
  · exact ⟨⟨h1, h2, h3, h4⟩, h5, h6⟩
  · exact ⟨⟨h1, by dsimp only; rw [List.length_append]; omega, by dsimp only; rw [List.length_append]; omega, by dsimp only; omega⟩, by dsimp only; rw [List.length_append]; omega, h6⟩
  · exact ⟨⟨h1, by dsimp only; rw [List.length_append]; omega, by dsimp only; rw [List.length_append]; omega, by dsimp only; omega⟩, by dsimp only; rw [List.length_append]; omega, h6⟩
theorem Okc.syn (h : Okc s) : Okc (syn s).1 := by
  obtain ⟨⟨h1, h2, h3, h4⟩, h5, h6⟩ := h
  have h7 := less_ok h4
  unfold Tpe.syn
  repeat' split
  · exact ⟨⟨h1, h2, h3, h4⟩, h5, h6⟩
  · exact ⟨⟨h1, h2, h3, by dsimp only; omega⟩, h5, h6⟩
  · exact ⟨⟨h1, h2, Nat.le_refl _, by dsimp only; omega⟩, h5, h6⟩
theorem Okc.rep (h : Okc s) (x : Rec) : Okc (rep s x).1 := by
  obtain ⟨⟨h1, h2, h3, h4⟩, h5, h6⟩ := h
  have h7 := less_ok h4
  unfold Tpe.rep
  repeat' split
  · exact ⟨⟨h1, h2, h3, h4⟩, h5, h6⟩
  · exact ⟨⟨h1, h2, h3, h4⟩, h5, h6⟩
  · exact ⟨⟨h1, h2, h3, by dsimp only; omega⟩, h5, h6⟩
  · exact ⟨⟨h1, by dsimp only; omega, Nat.le_refl _, by dsimp only; omega⟩, by dsimp only; omega, h6⟩
theorem Okc.arm (h : Okc s) {n : Int} (hn : n ≤ 9223372036854775807) : Okc (arm s n).1 := by
  obtain ⟨⟨h1, h2, h3, h4⟩, h5, h6⟩ := h
  unfold Tpe.arm
  repeat' split
  · exact ⟨⟨h1, h2, h3, h4⟩, h5, h6⟩
  · exact ⟨⟨h1, h2, h3, h4⟩, h5, h6⟩
  · exact ⟨⟨h1, h2, h3, by dsimp only; omega⟩, h5, h6⟩
theorem Okc.rst (h : Okc s) (k : Int) (y : UInt8) : Okc (rst s k y) := by
  obtain ⟨⟨h1, h2, h3, h4⟩, h5, h6⟩ := h
  have h7 := stay_le s k
  have h8 := left_len h3 k y
  unfold Tpe.rst
  exact ⟨⟨h1, by dsimp only; omega, by dsimp only; omega, by dsimp only; omega⟩, by dsimp only; omega, h6⟩
theorem Okc.wrt (h : Okc s) (b : Rec) : Okc (wrt s b).1 := by
  unfold Jrn.wrt
  split
  · exact h
  split
  · exact h.app _
  · exact (h.app _).syn
theorem Okc.rnw (h : Okc s) (b : Rec) : Okc (rnw s b).1 := by
  unfold Jrn.rnw
  split
  · exact h
  · exact h.rep _
end
/-- the journal's tape is s2, with N2 records; the document's, in box r, is s, with N -/
structure Hf (lo g r : Nat) (w : World) (s : S) (A : Option Addr) (n c : Nat) (N : Int) (s2 : S) (jp : Option Nat) (N2 : Int) (ob : Option Nat) : Prop where
  tp : Tp w lo g ob s2
  box : BoxJ w r s A n c N
  len : s.bs.length = n
  rk : Rk w (fun b => b ≠ g ∧ some b ≠ ob ∧ some b ≠ jp ∧ b ≠ r) A n c s.bs
  neg : r ≠ g
  neo : some r ≠ ob
  nej : some r ≠ jp
  lor : lo ≤ r
  low : lo ≤ w.heap.size
  none_ : jp = none → N2 = 0
  some_ : ∀ p, jp = some p → JnAt w p g N2 ∧ lo ≤ p ∧ p ≠ g ∧ some p ≠ ob
/-- the document's journal in box r was written anew, and nothing else -/
structure CutJ (w w' : World) (r : Nat) (s : S) (A : Option Addr) (n c : Nat) (N : Int) (ok : Nat → Prop) : Prop where
  two : Two r none w w'
  box : BoxJ w' r s A n c N
  len : s.bs.length = n
  rk : Rk w' ok A n c s.bs
section
variable {lo g r p : Nat} {w w' : World} {s s2 s3 : S} {A A3 : Option Addr} {n c n3 c3 : Nat} {N N2 N3 : Int} {jp ob : Option Nat}
theorem Hf.later (h : Hf lo g r w s A n c N s2 jp N2 ob) (hb : Below w.heap.size w w') : Hf lo g r w' s A n c N s2 jp N2 ob :=
  ⟨h.tp.later hb, h.box.later hb, h.len, h.rk.later hb, h.neg, h.neo, h.nej, h.lor, Nat.le_trans h.low hb.size, h.none_, fun p hp => ⟨(h.some_ p hp).1.later hb, (h.some_ p hp).2⟩⟩
/-- what is new lies elsewhere -/
theorem Hf.ok (h : Hf lo g r w s A n c N s2 jp N2 ob) : ∀ b, w.heap.size ≤ b → b ≠ g ∧ some b ≠ ob ∧ some b ≠ jp ∧ b ≠ r := fun b hb =>
  ⟨(h.tp.free hb).1, (h.tp.free hb).2, fun e => by have := (h.some_ b e.symm).1.free.1; omega, by have := h.box.free.1; omega⟩
theorem bel_st6 {B : Nat} {X : World} {a0 a1 a2 a3 a4 a5 : Value} (h : Below B w X) (hr : B ≤ r) : Below B w ((((((X.setCell ⟨r, 0, none⟩ a0).setCell ⟨r, 1, none⟩ a1).setCell ⟨r, 2, none⟩ a2).setCell ⟨r, 3, none⟩ a3).setCell ⟨r, 4, none⟩ a4).setCell ⟨r, 5, none⟩ a5) :=
  (((((h.setCell (p := ⟨r, 0, none⟩) hr _).setCell (p := ⟨r, 1, none⟩) hr _).setCell (p := ⟨r, 2, none⟩) hr _).setCell (p := ⟨r, 3, none⟩) hr _).setCell (p := ⟨r, 4, none⟩) hr _).setCell (p := ⟨r, 5, none⟩) hr _
theorem bel_st5 {B : Nat} {X : World} {a0 a1 a2 a3 a4 : Value} (h : Below B w X) (hr : B ≤ r) : Below B w (((((X.setCell ⟨r, 0, none⟩ a0).setCell ⟨r, 1, none⟩ a1).setCell ⟨r, 2, none⟩ a2).setCell ⟨r, 3, none⟩ a3).setCell ⟨r, 4, none⟩ a4) :=
  ((((h.setCell (p := ⟨r, 0, none⟩) hr _).setCell (p := ⟨r, 1, none⟩) hr _).setCell (p := ⟨r, 2, none⟩) hr _).setCell (p := ⟨r, 3, none⟩) hr _).setCell (p := ⟨r, 4, none⟩) hr _
theorem Hf.did (h : Hf lo g r w s A n c N s2 jp N2 ob) (hd : Did w lo g ob s3 w') : ∃ ob', Hf lo g r w' s A n c N s3 jp N2 ob' := by
  obtain ⟨ob', hT, ht, hf⟩ := hd
  refine ⟨ob', hT, h.box.two ht h.neg h.neo, h.len, ?_, h.neg, Tpe.Fresh.ne hf h.neo h.box.free.1, h.nej, h.lor, Nat.le_trans h.low ht.size, h.none_, fun p hp => ?_⟩
  · exact Rk.did (P := fun b => some b ≠ jp ∧ b ≠ r) h.rk ht hf
  · obtain ⟨h1, h2, h3, h4⟩ := h.some_ p hp
    exact ⟨h1.two ht h3 h4, h2, h3, Tpe.Fresh.ne hf h4 h1.free.1⟩
theorem Hf.didB (h : Hf lo g r w s A n c N s2 jp N2 ob) (hd : Did w lo g ob s3 w') : Below lo w w' := by
  obtain ⟨_, _, ht, _⟩ := hd
  exact ht.below h.tp.lo_.1 (fun b hb => (h.tp.obl b hb).1) h.low
theorem Hf.didJ (h : Hf lo g r w s A n c N s2 (some p) N2 ob) (hd : DidJ w lo p g ob s3 N3 w') : ∃ ob', Hf lo g r w' s A n c N s3 (some p) N3 ob' := by
  obtain ⟨ob', w1, hT, hj, h1, h2, hf, hp⟩ := hd
  obtain ⟨g1, g2, g3, g4⟩ := h.some_ p rfl
  have hrp : r ≠ p := fun e => h.nej (by rw [e])
  refine ⟨ob', hT, (h.box.two h1 h.neg h.neo).two h2 hrp (by simp), h.len, ?_, h.neg, Tpe.Fresh.ne hf h.neo h.box.free.1, h.nej, h.lor, Nat.le_trans h.low (Nat.le_trans h1.size h2.size), (fun e => by cases e), fun q hq => ?_⟩
  · have hk := Rk.did (P := fun b => some b ≠ some p ∧ b ≠ r) h.rk h1 hf
    exact hk.two h2 fun b hb _ => ⟨fun e => hb.2.2.1 (by rw [e]), by simp⟩
  · injection hq with hq
    subst hq
    exact ⟨hj, g2, g3, hp⟩
theorem Hf.didJB (h : Hf lo g r w s A n c N s2 (some p) N2 ob) (hd : DidJ w lo p g ob s3 N3 w') : Below lo w w' :=
  hd.below h.tp.lo_.1 (fun b hb => (h.tp.obl b hb).1) (h.some_ p rfl).2.1 h.low
/-- both have come to the same -/
theorem Hf.meet (h : Hf lo g r w s A n c N s2 jp N2 ob) (hc : CutJ w w' r s2 A3 n3 c3 N2 (fun b => b ≠ g ∧ some b ≠ ob ∧ some b ≠ jp ∧ b ≠ r)) : Hf lo g r w' s2 A3 n3 c3 N2 s2 jp N2 ob := by
  refine ⟨h.tp.two hc.two h.neg.symm (by simp) fun b hb => ⟨fun e => h.neo (by rw [hb, e]), by simp⟩, hc.box, hc.len, hc.rk, h.neg, h.neo, h.nej, h.lor, Nat.le_trans h.low hc.two.size, h.none_, fun p hp => ?_⟩
  obtain ⟨h1, h2, h3, h4⟩ := h.some_ p hp
  exact ⟨h1.two hc.two (fun e => h.nej (by rw [hp, e])) (by simp), h2, h3, h4⟩
theorem Hf.meetB (h : Hf lo g r w s A n c N s2 jp N2 ob) (ht : Two r none w w') : Below lo w w' := ht.below h.lor (fun j hj => by cases hj) h.low
/-- opened anew, and the answer laid into box r -/
theorem Hf.opens {V X : World} {s9 : S} {ob' : Option Nat} {jq : Option Nat} (hb : BoxJ w r s A n c N) (hr1 : r ≠ g) (hr2 : some r ≠ ob) (hlr : lo ≤ r) (hlo : lo ≤ w.heap.size) (ho : OpnsAt lo g ob (fun b => b ≠ r) s3 s9 w V jq A3 n3 c3 N3 ob') (ht : Two r none V X) (hx : BoxJ X r s9 A3 n3 c3 N3) : Hf lo g r X s9 A3 n3 c3 N3 s9 jq N3 ob' := by
  have hro : some r ≠ ob' := Tpe.Fresh.ne ho.fresh hr2 hb.free.1
  have hrj : some r ≠ jq := fun e => by
    have h1 := (ho.some_ r e.symm).2.1
    have h2 := hb.free.1
    omega
  have hs1 := ho.two.size
  have hs2 := ht.size
  refine ⟨ho.tp.two ht hr1.symm (by simp) fun b hb => ⟨fun e => hro (by rw [hb, e]), by simp⟩, hx, ho.len, (ho.rk.two ht fun b hb _ => ⟨hb.2.2.2, by simp⟩), hr1, hro, hrj, hlr, by omega, fun e => (ho.none_ e).1, fun p hp => ?_⟩
  obtain ⟨h1, h2, h3, h4⟩ := ho.some_ p hp
  exact ⟨h1.two ht (fun e => hrj (by rw [hp, e])) (by simp), by omega, h3, h4⟩
end
end Jrn
end Go.Proofs.Ytcffbgehopjgpaa
