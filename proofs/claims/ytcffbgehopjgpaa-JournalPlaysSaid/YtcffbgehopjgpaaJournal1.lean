/- Layer 18: package journal: Len, Write, Renew. -/
import Derived.Test.YtcffbgehopjgpaaJournalBits
import Derived.Test.YtcffbgehopjgpaaTape2
import Derived.Test.YtcffbgehopjgpaaFrameAwake
namespace Go.Proofs.Ytcffbgehopjgpaa
open Go.ChangeShapes Go.WideShapes Go.ChangeAt Go.RowKit
namespace Jrn
open By Tpe Frm
set_option maxRecDepth 100000
set_option maxHeartbeats 2000000
/-- the journal at block p stands on the tape at block g, with N records -/
structure JnAt (w : World) (p g : Nat) (N : Int) : Prop where
  c0 : w.cell? ⟨p, 0, none⟩ = some (.pointer (some ⟨g, 0, none⟩))
  c1 : w.cell? ⟨p, 1, none⟩ = some (.int .i64 N)
  free : Free p w
/-- what befell the journal at p and its tape at g -/
def DidJ (w : World) (lo p g : Nat) (ob : Option Nat) (s : S) (N : Int) (w' : World) : Prop := ∃ ob' w1, Tp w' lo g ob' s ∧ JnAt w' p g N ∧ Two g ob w w1 ∧ Two p none w1 w' ∧ Fresh ob ob' w ∧ some p ≠ ob'
section
variable {w w' : World} {lo p g a : Nat} {ob q : Option Nat} {s s' : S} {N M : Int}
theorem JnAt.later (h : JnAt w p g N) (hb : Below w.heap.size w w') : JnAt w' p g N :=
  have hc : ∀ j, w'.cell? ⟨p, j, none⟩ = w.cell? ⟨p, j, none⟩ := fun j => hb.cell (p := ⟨p, j, none⟩) h.free.1
  ⟨(hc 0).trans h.c0, (hc 1).trans h.c1, h.free.later hb⟩
theorem JnAt.two (h : JnAt w p g N) (ht : Two a q w w') (h1 : p ≠ a) (h2 : some p ≠ q) : JnAt w' p g N :=
  have hc : ∀ j, w'.cell? ⟨p, j, none⟩ = w.cell? ⟨p, j, none⟩ := fun j => ht.cell (p := ⟨p, j, none⟩) h.free.1 h1 h2
  ⟨(hc 0).trans h.c0, (hc 1).trans h.c1, ⟨Nat.lt_of_lt_of_le h.free.1 ht.size, fun j => (ht.frozen (p := ⟨p, j, none⟩) h.free.1 h1 h2).trans (h.free.2 j)⟩⟩
/-- how many there are is written anew -/
theorem JnAt.put (h : JnAt w p g N) (M : Int) : JnAt (w.setCell ⟨p, 1, none⟩ (.int .i64 M)) p g M ∧ Two p none w (w.setCell ⟨p, 1, none⟩ (.int .i64 M)) := by
  have k0 := h.c0
  have k1 := h.c1
  have ht : Two p none w (w.setCell ⟨p, 1, none⟩ (.int .i64 M)) := (Two.refl p none w).setCell 1 _
  exact ⟨⟨by go_simp, by go_simp, Nat.lt_of_lt_of_le h.free.1 ht.size, fun j => by have := h.free.2 j; go_simp⟩, ht⟩
theorem JnAt.new (hw : w' = w.alloc (.cells #[.pointer (some ⟨g, 0, none⟩), .int .i64 N] 69)) : JnAt w' w.heap.size g N := by
  subst hw
  refine ⟨?_, ?_, by simp, fun j => ?_⟩ <;> go_simp
theorem DidJ.size (h : DidJ w lo p g ob s N w') : w.heap.size ≤ w'.heap.size := by
  obtain ⟨_, _, _, _, h1, h2, _⟩ := h
  exact Nat.le_trans h1.size h2.size
theorem DidJ.below (h : DidJ w lo p g ob s N w') (hg : lo ≤ g) (ho : ∀ b, ob = some b → lo ≤ b) (hp : lo ≤ p) (hw : lo ≤ w.heap.size) : Below lo w w' := by
  obtain ⟨_, _, _, _, h1, h2, _⟩ := h
  exact (h1.below hg ho hw).trans (h2.below hp (fun j hj => by cases hj) (Nat.le_trans hw h1.size))
/-- a tape's doings, when the journal was left alone -/
theorem DidJ.of_did (h : Did w lo g ob s w') (hj : JnAt w p g N) (hpg : p ≠ g) (hpo : some p ≠ ob) : DidJ w lo p g ob s N w' := by
  obtain ⟨ob', hT, ht, hf⟩ := h
  refine ⟨ob', w', hT, hj.two ht hpg hpo, ht, Two.refl _ _ _, hf, ?_⟩
  rcases hf with rfl | rfl | ⟨k, rfl, hk⟩
  · simp
  · exact hpo
  · intro e; injection e with e; have := hj.free.1; omega
/-- .. and behind that it was written how many there are -/
theorem DidJ.of_put {w1 : World} (h : Did w lo g ob s w1) (hj : JnAt w p g N) (hpg : p ≠ g) (hpo : some p ≠ ob) (M : Int) : DidJ w lo p g ob s M (w1.setCell ⟨p, 1, none⟩ (.int .i64 M)) := by
  obtain ⟨ob', hT, ht, hf⟩ := h
  have hpo' : some p ≠ ob' := by
    rcases hf with rfl | rfl | ⟨k, rfl, hk⟩
    · simp
    · exact hpo
    · intro e; injection e with e; have := hj.free.1; omega
  obtain ⟨hj2, ht2⟩ := (hj.two ht hpg hpo).put M
  exact ⟨ob', w1, hT.two ht2 hpg.symm (by simp) fun b hb => ⟨fun e => hpo' (by rw [hb, e]), by simp⟩, hj2, ht, ht2, hf, hpo'⟩
theorem DidJ.later {w1 : World} (hb : Below w.heap.size w w1) (h : DidJ w1 lo p g ob s N w') (hob : ∀ b, ob = some b → b < w.heap.size) : DidJ w lo p g ob s N w' := by
  obtain ⟨ob', w2, hT, hj, h1, h2, hf, hp⟩ := h
  refine ⟨ob', w2, hT, hj, (Two.of_below hb).trans (Fresh.refl _ _) h1, h2, ?_, hp⟩
  rcases hf with rfl | rfl | ⟨k, rfl, hk⟩
  · exact .inl rfl
  · exact .inr (.inl rfl)
  · exact .inr (.inr ⟨k, rfl, Nat.le_trans hb.size hk⟩)
theorem _root_.Go.Proofs.Ytcffbgehopjgpaa.Tpe.Did.later {w1 : World} (hb : Below w.heap.size w w1) (h : Did w1 lo g ob s w') : Did w lo g ob s w' := by
  obtain ⟨ob', hT, h1, hf⟩ := h
  refine ⟨ob', hT, (Two.of_below hb).trans (Fresh.refl _ _) h1, ?_⟩
  rcases hf with rfl | rfl | ⟨k, rfl, hk⟩
  · exact .inl rfl
  · exact .inr (.inl rfl)
  · exact .inr (.inr ⟨k, rfl, Nat.le_trans hb.size hk⟩)
/-- one thing done behind the other -/
theorem _root_.Go.Proofs.Ytcffbgehopjgpaa.Tpe.Did.more {w1 : World} {ob1 : Option Nat} {s1 : S} (h : Two g ob w w1) (hf : Fresh ob ob1 w) (h2 : Did w1 lo g ob1 s1 w') : Did w lo g ob s1 w' := by
  obtain ⟨ob', hT, h3, hf2⟩ := h2
  exact ⟨ob', hT, h.trans hf h3, hf.trans h.size hf2⟩
end
section
variable {w : World} {lo p g : Nat} {ob : Option Nat} {s : S} {N : Int} {Ab : Option Addr} {nb cb : Nat} {b : Rec}
theorem jlen_any (h : JnAt w p g N) :
    Calls Try.prog 14 #[.pointer (some ⟨p, 0, none⟩)] w fun e w' => e = .returned (.int .i64 N) ∧ w = w' := by
  have k1 := h.c1
  clear h
  go_enter Try.func14, Try.ntmps14
  go_wp2
  go_ret
  exact ⟨rfl, rfl⟩
theorem jlen_nil (w : World) :
    Calls Try.prog 14 #[.pointer none] w fun e w' => e = .returned (.int .i64 0) ∧ w = w' := by
  go_enter Try.func14, Try.ntmps14
  go_wp2
  go_ret
  exact ⟨rfl, rfl⟩
theorem write_nil (v : Value) (w : World) :
    Calls Try.prog 12 #[.pointer none, v] w fun e w' => e = .returned (.int .i64 1) ∧ w = w' := by
  go_enter Try.func12, Try.ntmps12
  go_wp2_with fail
  go_ret
  exact ⟨rfl, rfl⟩
theorem renew_nil (v : Value) (w : World) :
    Calls Try.prog 13 #[.pointer none, v] w fun e w' => e = .returned (.int .i64 1) ∧ w = w' := by
  go_enter Try.func13, Try.ntmps13
  go_wp2_with fail
  go_ret
  exact ⟨rfl, rfl⟩
theorem renew_any (h : Tp w lo g ob s) (hlo : lo ≤ w.heap.size) (hcap : 0 ≤ s.cap ∧ s.cap ≤ 1048576) (hr : s.fu ≤ 9223372036854775807) (hj : JnAt w p g N) (hpg : p ≠ g) (hpo : some p ≠ ob) (hb : Rd w w.heap.size 1 Ab nb cb (u8s b)) (hnb : nb ≤ 60000) :
    Calls Try.prog 13 #[.pointer (some ⟨p, 0, none⟩), .slice Ab nb cb] w fun e w' => e = .returned (.int .i64 (rnw s b).2) ∧ DidJ w lo p g ob (rnw s b).1 (if (rnw s b).2 = 0 then 0 else N) w' := by
  have hlb := len8 hb
  obtain ⟨m, hm⟩ : ∃ m, nb + 8 = m := ⟨_, rfl⟩
  obtain ⟨x, hx⟩ : ∃ x, frm b = x := ⟨_, rfl⟩
  have hlong : ¬ (60000 < b.length) := by omega
  have hw : rnw s b = rep s x := by unfold rnw; rw [if_neg hlong, hx]
  rw [hw]
  obtain ⟨s1, hs1⟩ : ∃ y, y = (rep s x).1 := ⟨_, rfl⟩
  obtain ⟨e1, he1⟩ : ∃ y, y = (rep s x).2 := ⟨_, rfl⟩
  rw [← hs1, ← he1]
  have HFR := Lib.hid (frame_to b nb Ab cb w.heap.size w hlb hnb hb (Nat.le_refl _) x hx m hm)
  have HT0 := Lib.hid h
  have HJ0 := Lib.hid hj
  have HOB : Hid (∀ b, ob = some b → b < w.heap.size) := fun b hb => (h.obl b hb).2.1
  have k0 := hj.c0
  clear h hb hx hw hj
  go_enter Try.func13, Try.ntmps13
  go_wp2_with fail
  refine HFR.out.mono ?_
  rintro e v1 ⟨A5, c5, rfl, ho5, hb5⟩
  clear k0
  have HT1 := Lib.hid (HT0.out.later hb5)
  have HJ1 := Lib.hid (HJ0.out.later hb5)
  have HB1 := Lib.hid hb5
  obtain ⟨A1, n1, c1, fb1, ah1, hta1, hob1⟩ := HT1.out
  have HRP := Lib.hid (replace_any (b := x) hta1 (Nat.le_trans hlo hb5.size) hcap hr (Rk.of_own ho5 fun b hb => by have := HT0.out.lo_.2; omega) (show m ≤ 70000 by omega))
  rw [hob1, ← hs1, ← he1] at HRP
  have k0 := HJ1.out.c0
  clear ho5 hb5 hta1 hob1 hs1 he1 HFR
  go_wp2_with fail
  refine HRP.out.mono ?_
  rintro e v2 ⟨rfl, hd2⟩
  have HD2 := Lib.hid hd2
  have HJ2 : Hid (JnAt v2 p g N) := by obtain ⟨_, _, ht, _⟩ := hd2; exact HJ1.out.two ht hpg hpo
  clear hd2 HRP k0
  by_cases h0 : e1 = 0
  · subst h0
    have k0 := HJ2.out.c0
    have k1 := HJ2.out.c1
    have m1 := HJ2.out.free.2 1
    go_wp2_with fail
    go_ret
    exact ⟨rfl, DidJ.later HB1.out (DidJ.of_put HD2.out HJ1.out hpg hpo 0) HOB.out⟩
  · have f0 : (e1 != 0) = true := by simp; exact h0
    have HF0 := Lib.hid h0
    clear h0
    go_wp2_with fail
    go_ret
    exact ⟨rfl, DidJ.later HB1.out (DidJ.of_did HD2.out HJ1.out hpg hpo) HOB.out⟩
theorem write_any (h : Tp w lo g ob s) (hlo : lo ≤ w.heap.size) (hcap : 0 ≤ s.cap ∧ s.cap ≤ 1048576) (hr : -1 ≤ s.fu ∧ s.fu ≤ 9223372036854775807) (hn : s.bs.length ≤ 70000) (hj : JnAt w p g N) (hpg : p ≠ g) (hpo : some p ≠ ob) (hb : Rd w w.heap.size 1 Ab nb cb (u8s b)) (hnb : nb ≤ 60000) (hN : 0 ≤ N ∧ N ≤ 1000000) :
    Calls Try.prog 12 #[.pointer (some ⟨p, 0, none⟩), .slice Ab nb cb] w fun e w' => e = .returned (.int .i64 (wrt s b).2) ∧ DidJ w lo p g ob (wrt s b).1 (if (wrt s b).2 = 0 then N + 1 else N) w' := by
  have hlb := len8 hb
  obtain ⟨m, hm⟩ : ∃ m, nb + 8 = m := ⟨_, rfl⟩
  obtain ⟨x, hx⟩ : ∃ x, frm b = x := ⟨_, rfl⟩
  have hxl : x.length = m := by rw [← hx, frm_len, hlb]; exact hm
  have hlong : ¬ (60000 < b.length) := by omega
  obtain ⟨s1, hs1⟩ : ∃ y, y = (app s x).1 := ⟨_, rfl⟩
  obtain ⟨e1, he1⟩ : ∃ y, y = (app s x).2 := ⟨_, rfl⟩
  have hw : wrt s b = if e1 ≠ 0 then (s1, e1) else syn s1 := by unfold wrt; rw [if_neg hlong, hx, he1, hs1]
  have hfu : s1.fu ≤ 9223372036854775807 := by
    have h1 := less_ok hr
    rw [hs1]
    unfold app
    (repeat' split) <;> (dsimp only; omega)
  rw [hw]
  obtain ⟨s9, hs9⟩ : ∃ y, y = (if e1 ≠ 0 then (s1, e1) else syn s1).1 := ⟨_, rfl⟩
  obtain ⟨e9, he9⟩ : ∃ y, y = (if e1 ≠ 0 then (s1, e1) else syn s1).2 := ⟨_, rfl⟩
  rw [← hs9, ← he9]
  have hcase : (e1 ≠ 0 ∧ s9 = s1 ∧ e9 = e1) ∨ (e1 = 0 ∧ s9 = (syn s1).1 ∧ e9 = (syn s1).2) := by
    by_cases h0 : e1 = 0
    · have h1 : ¬ (e1 ≠ 0) := fun h => h h0
      rw [if_neg h1] at hs9 he9
      exact .inr ⟨h0, hs9, he9⟩
    · rw [if_pos h0] at hs9 he9
      exact .inl ⟨h0, hs9, he9⟩
  obtain ⟨N9, hN9⟩ : ∃ y, y = if e9 = 0 then N + 1 else N := ⟨_, rfl⟩
  rw [← hN9]
  have HN9 := Lib.hid hN9
  clear hs9 he9 hN9
  have HFR := Lib.hid (frame_to b nb Ab cb w.heap.size w hlb hnb hb (Nat.le_refl _) x hx m hm)
  have HT0 := Lib.hid h
  have HJ0 := Lib.hid hj
  have HOB : Hid (∀ b, ob = some b → b < w.heap.size) := fun b hb => (h.obl b hb).2.1
  have k0 := hj.c0
  clear h hb hx hw hj
  go_enter Try.func12, Try.ntmps12
  go_wp2_with fail
  refine HFR.out.mono ?_
  rintro e v1 ⟨A5, c5, rfl, ho5, hb5⟩
  clear k0
  have HT1 := Lib.hid (HT0.out.later hb5)
  have HJ1 := Lib.hid (HJ0.out.later hb5)
  have HB1 := Lib.hid hb5
  obtain ⟨A1, n1, c1, fb1, ah1, hta1, hob1⟩ := HT1.out
  have HAP := Lib.hid (append_any hta1 (Nat.le_trans hlo hb5.size) hcap hr.2 (by have := hta1.len; omega) ho5.rd (by omega))
  rw [hob1, ← hs1, ← he1] at HAP
  have k0 := HJ1.out.c0
  clear ho5 hb5 hta1 hob1 hs1 he1 HFR hxl
  go_wp2_with fail
  refine HAP.out.mono ?_
  rintro e v2 ⟨rfl, hd2⟩
  have HD2 := Lib.hid hd2
  have HJ2 : Hid (JnAt v2 p g N) := by obtain ⟨_, _, ht, _⟩ := hd2; exact HJ1.out.two ht hpg hpo
  clear hd2 HAP k0
  rcases hcase with ⟨h0, rfl, rfl⟩ | ⟨h0, hs9, he9⟩
  case inr =>
    subst h0
    obtain ⟨ob2, hT2, ht2, hf2⟩ := HD2.out
    obtain ⟨A2, n2, c2, fb2, ah2, hta2, hob2⟩ := hT2
    have HSY := Lib.hid (sync_any hta2 hfu)
    rw [hob2] at HSY
    rw [← hs9, ← he9] at HSY
    have hpo2 : some p ≠ ob2 := by
      rcases hf2 with rfl | rfl | ⟨k, rfl, hk⟩
      · simp
      · exact hpo
      · intro e; injection e with e; have := HJ1.out.free.1; omega
    have HT2 := Lib.hid ht2
    have HF2 := Lib.hid hf2
    have k0 := HJ2.out.c0
    clear ht2 hf2 hta2 hob2 hs9 he9
    go_wp2_with fail
    refine HSY.out.mono ?_
    rintro e v3 ⟨rfl, hd3⟩
    have HD3 := Lib.hid (Did.more HT2.out HF2.out hd3)
    have HJ3 : Hid (JnAt v3 p g N) := by obtain ⟨_, _, ht, _⟩ := hd3; exact HJ2.out.two ht hpg hpo2
    clear hd3 HSY k0
    by_cases h0 : e9 = 0
    · subst h0
      obtain rfl : N9 = N + 1 := by rw [HN9.out, if_pos rfl]
      have k0 := HJ3.out.c0
      have k1 := HJ3.out.c1
      have m1 := HJ3.out.free.2 1
      go_wp2_with fail
      go_ret
      exact ⟨rfl, DidJ.later HB1.out (DidJ.of_put HD3.out HJ1.out hpg hpo (N + 1)) HOB.out⟩
    · have f0 : (e9 != 0) = true := by simp; exact h0
      obtain rfl : N9 = N := by rw [HN9.out, if_neg h0]
      clear h0
      go_wp2_with fail
      go_ret
      exact ⟨rfl, DidJ.later HB1.out (DidJ.of_did HD3.out HJ1.out hpg hpo) HOB.out⟩
  case inl =>
    have f0 : (e9 != 0) = true := by simp; exact h0
    obtain rfl : N9 = N := by rw [HN9.out, if_neg h0]
    clear h0
    go_wp2_with fail
    go_ret
    exact ⟨rfl, DidJ.later HB1.out (DidJ.of_did HD2.out HJ1.out hpg hpo) HOB.out⟩
end
end Jrn
end Go.Proofs.Ytcffbgehopjgpaa
