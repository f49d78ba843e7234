/- Layer 17: where a tape lies, and what of it lasts; bytes that a call hands on. -/
import Derived.Test.YtcffbgehopjgpaaTapeBits
import Derived.Test.YtcffbgehopjgpaaByCut
import Derived.Test.YtcffbgehopjgpaaKept
import Derived.ProofKit
namespace Go.Proofs.Ytcffbgehopjgpaa
open Go.ChangeShapes Go.WideShapes Go.ChangeAt Go.RowKit
namespace Tpe
open By
/-- a fuse, as the program keeps it -/
def Fu (fu : Int) (fb : Bool) (ah : Int) : Prop := (fb = true ∧ 0 ≤ fu ∧ ah = fu) ∨ (fb = false ∧ fu = -1 ∧ ah = 0)
/-- the tape s lies at block g, its bytes in a block of the call's own (from lo on) -/
structure TpAt (w : World) (lo g : Nat) (s : S) (A : Option Addr) (n c : Nat) (fb : Bool) (ah : Int) : Prop where
  c0 : w.cell? ⟨g, 0, none⟩ = some (.int .i64 s.cap)
  c1 : w.cell? ⟨g, 1, none⟩ = some (.slice A n c)
  c2 : w.cell? ⟨g, 2, none⟩ = some (.int .i64 s.sf)
  c3 : w.cell? ⟨g, 3, none⟩ = some (.bool fb)
  c4 : w.cell? ⟨g, 4, none⟩ = some (.int .i64 ah)
  c5 : w.cell? ⟨g, 5, none⟩ = some (.bool s.lo)
  free : ∀ j, w.frozen? ⟨g, j, none⟩ = false
  lo_ : lo ≤ g ∧ g < w.heap.size
  own : w.ownsRow lo 5 1 (.slice A n c) n (u8s s.bs)
  ne : (Value.slice A n c).ownBlock ≠ some g
  len : s.bs.length = n
  fuse : Fu s.fu fb ah
def Tp (w : World) (lo g : Nat) (ob : Option Nat) (s : S) : Prop := ∃ A n c fb ah, TpAt w lo g s A n c fb ah ∧ (Value.slice A n c).ownBlock = ob
/-- what befell the tape at g -/
def Did (w : World) (lo g : Nat) (ob : Option Nat) (s : S) (w' : World) : Prop := ∃ ob', Tp w' lo g ob' s ∧ Two g ob w w' ∧ Fresh ob ob' w
section
variable {w w' : World} {lo g n c : Nat} {ob : Option Nat} {s s' : S} {A : Option Addr} {fb : Bool} {ah : Int}
theorem TpAt.rd (h : TpAt w lo g s A n c fb ah) : Rd w w.heap.size 1 A n c (u8s s.bs) := (Own.mk h.own (u8s_one _)).rd
theorem TpAt.obl (h : TpAt w lo g s A n c fb ah) {b : Nat} (hb : (Value.slice A n c).ownBlock = some b) : lo ≤ b ∧ b < w.heap.size := ownBlock_lt h.own hb
theorem Tp.obl (h : Tp w lo g ob s) : ∀ b, ob = some b → lo ≤ b ∧ b < w.heap.size ∧ b ≠ g := by
  obtain ⟨A, n, c, fb, ah, h, rfl⟩ := h
  exact fun b hb => ⟨(h.obl hb).1, (h.obl hb).2, fun e => h.ne (by rw [hb, e])⟩
theorem Tp.lo_ (h : Tp w lo g ob s) : lo ≤ g ∧ g < w.heap.size := by
  obtain ⟨A, n, c, fb, ah, h, _⟩ := h
  exact h.lo_
/-- another thing was done: this tape is as it was -/
theorem TpAt.two {a : Nat} {q : Option Nat} (h : TpAt w lo g s A n c fb ah) (ht : Two a q w w') (h1 : g ≠ a) (h2 : some g ≠ q) (h3 : ∀ b, (Value.slice A n c).ownBlock = some b → b ≠ a ∧ some b ≠ q) : TpAt w' lo g s A n c fb ah :=
  have hc : ∀ j, w'.cell? ⟨g, j, none⟩ = w.cell? ⟨g, j, none⟩ := fun j => ht.cell (p := ⟨g, j, none⟩) h.lo_.2 h1 h2
  ⟨(hc 0).trans h.c0, (hc 1).trans h.c1, (hc 2).trans h.c2, (hc 3).trans h.c3, (hc 4).trans h.c4, (hc 5).trans h.c5, fun j => (ht.frozen (p := ⟨g, j, none⟩) h.lo_.2 h1 h2).trans (h.free j), ⟨h.lo_.1, Nat.lt_of_lt_of_le h.lo_.2 ht.size⟩, ownsRow_two h.own ht h3, h.ne, h.len, h.fuse⟩
theorem TpAt.later (h : TpAt w lo g s A n c fb ah) (hb : Below w.heap.size w w') : TpAt w' lo g s A n c fb ah :=
  have hc : ∀ j, w'.cell? ⟨g, j, none⟩ = w.cell? ⟨g, j, none⟩ := fun j => hb.cell (p := ⟨g, j, none⟩) h.lo_.2
  ⟨(hc 0).trans h.c0, (hc 1).trans h.c1, (hc 2).trans h.c2, (hc 3).trans h.c3, (hc 4).trans h.c4, (hc 5).trans h.c5, fun j => (hb.frozen (p := ⟨g, j, none⟩) h.lo_.2).trans (h.free j), ⟨h.lo_.1, Nat.lt_of_lt_of_le h.lo_.2 hb.size⟩, ownsRow_later h.own hb, h.ne, h.len, h.fuse⟩
theorem Tp.later (h : Tp w lo g ob s) (hb : Below w.heap.size w w') : Tp w' lo g ob s := by
  obtain ⟨A, n, c, fb, ah, h, e⟩ := h
  exact ⟨A, n, c, fb, ah, h.later hb, e⟩
theorem Tp.two {a : Nat} {q : Option Nat} (h : Tp w lo g ob s) (ht : Two a q w w') (h1 : g ≠ a) (h2 : some g ≠ q) (h3 : ∀ b, ob = some b → b ≠ a ∧ some b ≠ q) : Tp w' lo g ob s := by
  obtain ⟨A, n, c, fb, ah, h, e⟩ := h
  exact ⟨A, n, c, fb, ah, h.two ht h1 h2 (by rw [e]; exact h3), e⟩
/-- a cell of the tape's own box was written: its bytes lie as they lay -/
theorem TpAt.own2 (h : TpAt w lo g s A n c fb ah) (ht : Two g none w w') : w'.ownsRow lo 5 1 (.slice A n c) n (u8s s.bs) :=
  ownsRow_two h.own ht fun b hb => ⟨fun e => h.ne (by rw [hb, e]), by simp⟩
theorem _root_.Go.Proofs.Ytcffbgehopjgpaa.Two.none_ (h : Two g none w w') : Two g ob w w' := ⟨h.os, h.tape, h.output, h.size, fun k hk ha _ => h.block k hk ha (by simp)⟩
theorem TpAt.drewN (h : TpAt w lo g s A n c fb ah) (k : Nat) : TpAt (w.drewN k) lo g s A n c fb ah := h.later (bel_drewN (Below.refl _ _) k)
theorem two_drewN (w : World) (g : Nat) (ob : Option Nat) (k : Nat) : Two g ob w (w.drewN k) := Two.of_below (bel_drewN (Below.refl _ _) k)
/-- how much is safe is written anew -/
theorem TpAt.put2 (h : TpAt w lo g s A n c fb ah) (k : Nat) : TpAt (w.setCell ⟨g, 2, none⟩ (.int .i64 k)) lo g ⟨s.cap, s.bs, k, s.fu, s.lo⟩ A n c fb ah := by
  have c0 := h.c0
  have c1 := h.c1
  have c2 := h.c2
  have c3 := h.c3
  have c4 := h.c4
  have c5 := h.c5
  have hf := h.free
  have m2 := hf 2
  have ht : Two g none w (w.setCell ⟨g, 2, none⟩ (.int .i64 k)) := (Two.refl g none w).setCell 2 _
  exact ⟨by go_simp, by go_simp, by go_simp, by go_simp, by go_simp, by go_simp, fun j => by have := hf j; go_simp, ⟨h.lo_.1, Nat.lt_of_lt_of_le h.lo_.2 ht.size⟩, h.own2 ht, h.ne, h.len, h.fuse⟩
/-- the bytes are written anew -/
theorem TpAt.put1 {n' c' : Nat} {A' : Option Addr} {bs' : List UInt8} (h : TpAt w lo g s A n c fb ah) (hg : w.grownBy w' (Value.slice A n c).ownBlock) (ho : w'.ownsRow lo 5 1 (.slice A' n' c') n' (u8s bs')) (hne : (Value.slice A' n' c').ownBlock ≠ some g) :
    TpAt (w'.setCell ⟨g, 1, none⟩ (.slice A' n' c')) lo g ⟨s.cap, bs', s.sf, s.fu, s.lo⟩ A' n' c' fb ah := by
  have t0 : Two (g + 1 + w'.heap.size) (Value.slice A n c).ownBlock w w' := Two.of_grown hg
  have hs : g < w'.heap.size := Nat.lt_of_lt_of_le h.lo_.2 hg.size
  have hn0 : g ≠ g + 1 + w'.heap.size := by omega
  have hn1 : some g ≠ (Value.slice A n c).ownBlock := fun e => h.ne e.symm
  have hc : ∀ j, w'.cell? ⟨g, j, none⟩ = w.cell? ⟨g, j, none⟩ := fun j => t0.cell (p := ⟨g, j, none⟩) h.lo_.2 hn0 hn1
  have hf : ∀ j, w'.frozen? ⟨g, j, none⟩ = false := fun j => (t0.frozen (p := ⟨g, j, none⟩) h.lo_.2 hn0 hn1).trans (h.free j)
  have c0 := (hc 0).trans h.c0
  have c1 := (hc 1).trans h.c1
  have c2 := (hc 2).trans h.c2
  have c3 := (hc 3).trans h.c3
  have c4 := (hc 4).trans h.c4
  have c5 := (hc 5).trans h.c5
  have m1 := hf 1
  have ht : Two g none w' (w'.setCell ⟨g, 1, none⟩ (.slice A' n' c')) := (Two.refl g none w').setCell 1 _
  have hl : bs'.length = n' := by have := ho.1; rw [u8s_length] at this; omega
  have HF := Lib.hid hf
  clear hc hf
  refine ⟨by go_simp, by go_simp, by go_simp, by go_simp, by go_simp, by go_simp, fun j => by have := HF.out j; go_simp, ⟨h.lo_.1, Nat.lt_of_lt_of_le hs ht.size⟩, ownsRow_two ho ht fun b hb => ⟨fun e => hne (by rw [hb, e]), by simp⟩, hne, hl, h.fuse⟩
theorem two_put1 {n' c' : Nat} {A' : Option Addr} (hg : w.grownBy w' ob) : Two g ob w (w'.setCell ⟨g, 1, none⟩ (.slice A' n' c')) := (Two.of_grown hg).setCell 1 _
theorem grown_of {q : Option Nat} (h : Below w.heap.size w w') : w.grownBy w' q := ⟨h.os, h.tape, h.output, h.size, fun k hk _ => h.block k hk⟩
theorem Did.below (h : Did w lo g ob s w') (hg : lo ≤ g) (ho : ∀ b, ob = some b → lo ≤ b) (hw : lo ≤ w.heap.size) : Below lo w w' := by
  obtain ⟨_, _, ht, _⟩ := h
  exact ht.below hg ho hw
instance {v v' : World} : Las v v' (Tp v lo g ob s) (Tp v' lo g ob s) := ⟨fun h hb => h.later hb⟩
end
/-- bytes that read so, in a block of which 'ok' holds -/
structure Rk (w : World) (ok : Nat → Prop) (A : Option Addr) (n c : Nat) (bs : List UInt8) : Prop where
  rd : Rd w w.heap.size 1 A n c (u8s bs)
  at_ : 0 < n → ∃ b o, A = some ⟨b, o, none⟩ ∧ ok b
section
variable {w w' : World} {ok ok' : Nat → Prop} {A : Option Addr} {n c : Nat} {bs : List UInt8}
theorem Rk.nil : Rk w ok none 0 0 [] := ⟨Rd.nil _, fun h => absurd h (by omega)⟩
theorem Rk.later (h : Rk w ok A n c bs) (hb : Below w.heap.size w w') : Rk w' ok A n c bs := ⟨h.rd.later hb, h.at_⟩
theorem Rk.mono (h : Rk w ok A n c bs) (hk : ∀ b, ok b → b < w.heap.size → ok' b) : Rk w ok' A n c bs := ⟨h.rd, fun hn => by
  obtain ⟨b, o, e, hb⟩ := h.at_ hn
  obtain ⟨b2, o2, e2, hb2, _⟩ := h.rd.at_ hn
  rw [e] at e2
  injection e2 with e2
  injection e2 with e2
  exact ⟨b, o, e, hk b hb (by omega)⟩⟩
theorem Rk.two {a : Nat} {q : Option Nat} (h : Rk w ok A n c bs) (ht : Two a q w w') (hk : ∀ b, ok b → b < w.heap.size → b ≠ a ∧ some b ≠ q) : Rk w' ok A n c bs := by
  refine ⟨⟨h.rd.len, h.rd.cap, h.rd.one, fun hn => ?_⟩, h.at_⟩
  obtain ⟨b, o, e, hb⟩ := h.at_ hn
  obtain ⟨b2, o2, e2, hb2, hc⟩ := h.rd.at_ hn
  rw [e] at e2
  injection e2 with e2
  injection e2 with e2 e3
  subst e2; subst e3
  obtain ⟨h1, h2⟩ := hk b hb hb2
  exact ⟨b, o, e, Nat.lt_of_lt_of_le hb2 ht.size, fun j u hu => (ht.cell (p := ⟨b, o + j, none⟩) hb2 h1 h2).trans (hc j u hu)⟩
theorem Rk.of_own {base : Nat} (h : Own w base 5 1 A n c (u8s bs)) (hk : ∀ b, base ≤ b → ok b) : Rk w ok A n c bs := by
  refine ⟨h.rd, fun hn => ?_⟩
  obtain ⟨b, o, e, hb, _⟩ := h.rb.at_ hn
  exact ⟨b, o, e, hk b hb⟩
theorem Rk.take (h : Rk w ok A n c bs) {k : Nat} (hk : k ≤ n) : Rk w ok A k c (bs.take k) := ⟨take8 h.rd hk, fun hn => h.at_ (by omega)⟩
theorem _root_.Go.Proofs.Ytcffbgehopjgpaa.Rd.len8' {B : Nat} (h : Rd w B 1 A n c (u8s bs)) : bs.length = n := len8 h
theorem Rk.len (h : Rk w ok A n c bs) : bs.length = n := len8 h.rd
end
/-- a cell of a row of the call's own is written -/
theorem row_set {w : World} {base e sz n cap g : Nat} {xs : List Value} (h : w.ownsRow base e sz (.slice (some ⟨g, 0, none⟩) n cap) n xs) (i : Nat) (u : Value) : (w.setCell ⟨g, i, none⟩ u).ownsRow base e sz (.slice (some ⟨g, 0, none⟩) n cap) n (xs.set i u) := by
  obtain ⟨h1, h2⟩ := h
  refine ⟨by rw [List.length_set]; exact h1, ?_⟩
  rcases h2 with ⟨h2, _⟩ | ⟨g', cap', cur, hv, hg, hh, hn, hm, hs, hx⟩
  · cases h2
  · injection hv with e1 e2 e3
    injection e1 with e1
    injection e1 with e1
    subst e1; subst e3
    refine .inr ⟨g, cap, cur.setIfInBounds i u, rfl, hg, heap_setCell_same w g i cur e u hh, hn, hm, by simpa using hs, ?_⟩
    rw [← hx]
    simp [List.take_set]
/-- where a row of the call's own lies -/
theorem row_place {w : World} {base e sz n c : Nat} {A : Option Addr} {xs : List Value} (h : Own w base e sz A n c xs) (hn : 0 < n) : ∃ g, A = some ⟨g, 0, none⟩ ∧ base ≤ g ∧ g < w.heap.size ∧ (∀ j, w.frozen? ⟨g, j, none⟩ = false) ∧ ∀ j u, xs[j]? = some u → w.cell? ⟨g, j, none⟩ = some u := by
  rcases h.row.2 with ⟨_, h0⟩ | ⟨g, cap, cur, hv, hg, hh, _⟩
  · omega
  · injection hv with e1 e2 e3
    subst e1
    obtain ⟨b, o, e4, hb, hc⟩ := h.rd.at_ hn
    injection e4 with e4
    injection e4 with e4 e5
    subst e4; subst e5
    exact ⟨g, rfl, hg, hb, fun j => by simp [World.frozen?, hh], fun j u hu => by have := hc j u hu; rwa [Nat.zero_add] at this⟩
/-- an own row cut off -/
theorem own_take {w : World} {lo n c k : Nat} {A : Option Addr} {bs : List UInt8} (h : w.ownsRow lo 5 1 (.slice A n c) n (u8s bs)) (hk : k ≤ n) : w.ownsRow lo 5 1 (.slice A k c) k (u8s (bs.take k)) ∧ (Value.slice A k c).ownBlock = (Value.slice A n c).ownBlock := by
  have hl : bs.length = n := by have := h.1; rw [u8s_length] at this; omega
  refine ⟨⟨?_, ?_⟩, ?_⟩
  · rw [u8s_length, List.length_take]; omega
  · rcases h.2 with ⟨h1, h2⟩ | ⟨g, cap, cur, h1, h2, h3, h4, h5, h6, h7⟩
    · injection h1 with h1 h8 h9
      subst h1; subst h9
      left
      exact ⟨by rw [show k = 0 by omega], by omega⟩
    · injection h1 with h1 h8 h9
      subst h1; subst h9
      right
      refine ⟨g, c, cur, rfl, h2, h3, by omega, h5, h6, ?_⟩
      rw [u8s_take, ← h7, List.take_take]
      congr 1
      omega
  · cases A <;> rfl
end Tpe
end Go.Proofs.Ytcffbgehopjgpaa
