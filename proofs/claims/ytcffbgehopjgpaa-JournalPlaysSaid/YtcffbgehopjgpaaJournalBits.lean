/- Layer 18 in plain mathematics: what a tape's bytes tell as frames, wherever the power went. Nothing here speaks of a program. -/
import Derived.Test.YtcffbgehopjgpaaTapeBits
import Derived.Test.YtcffbgehopjgpaaFrameBits
namespace Go.Proofs.Ytcffbgehopjgpaa
open Go.RowKit
namespace Jrn
open Tpe Frm
abbrev Rec := List UInt8
/-- the frames that are told, or the base's alone -/
def kept (l : List Rec) (base : Rec) : List Rec := if l = [] then [base] else l
/-- Open: l, n: what the tape's bytes tell -/
def opn (t : S) (base : Rec) (l : List Rec) (n : Nat) : S × Int :=
  if 60000 < base.length then (t, 3) else if t.lo = true then (t, 9) else if n = 0 ∨ n < t.bs.length then rep t (frms (kept l base)) else (t, 0)
def wrt (t : S) (b : Rec) : S × Int :=
  if 60000 < b.length then (t, 3) else if (app t (frm b)).2 ≠ 0 then app t (frm b) else syn (app t (frm b)).1
def rnw (t : S) (base : Rec) : S × Int := if 60000 < base.length then (t, 3) else rep t (frm base)
theorem scans_frms {l : List Rec} (hl : ∀ a ∈ l, a.length ≤ 60000) : Scans (frms l) l (frms l).length := scans_end ⟨Nat.le_refl _, by rw [List.take_length], hl⟩ (Nat.le_refl _)
theorem frms_pos {l : List Rec} (h : l ≠ []) : 8 ≤ (frms l).length := by
  cases l with
  | nil => exact absurd rfl h
  | cons a l => rw [frms_cons, List.length_append, frm_len]; omega
/-- the last byte of a frame turned -/
theorem frm_turn {b : Rec} (hb : b.length ≤ 60000) {y : UInt8} (hy : y ≠ 0) : ¬ Beg (turn (frm b) y) := by
  have hl := frm_len b
  have hk : b.length + 7 < (frm b).length := by omega
  have e : turn (frm b) y = (frm b).set (b.length + 7) ((frm b)[b.length + 7] ^^^ y) := by
    unfold turn
    rw [show (frm b).length - 1 = b.length + 7 by omega, List.getElem?_eq_getElem hk, Option.getD_some]
  have ht := turned hb hk hy
  rw [← e] at ht
  intro h
  have hv : val4 (turn (frm b) y) = b.length := by
    have h4 : (turn (frm b) y).take 4 = (frm b).take 4 := turn_take (by omega)
    have := val4_take (x := turn (frm b) y) (n := 4) (Nat.le_refl _)
    rw [← this, h4, val4_take (Nat.le_refl _), val4_frm hb]
  have hc : cutf (turn (frm b) y) = turn (frm b) y := by
    unfold cutf
    rw [hv, List.take_of_length_le (by rw [turn_len]; omega)]
  have h1 := (beg_one h.1).1 h
  rw [hc] at h1
  exact ht h1
/-- a part of a frame, its last byte turned -/
theorem part_turn {b : Rec} (hb : b.length ≤ 60000) {k : Nat} (hk : k < b.length + 8) (y : UInt8) : ¬ Beg (turn ((frm b).take k) y) := by
  intro h
  have h1 := h.1.1
  rw [turn_len, List.length_take, frm_len] at h1
  have h2 := h.1.2.2
  have hv : val4 (turn ((frm b).take k) y) = b.length := by
    have h4 : (turn ((frm b).take k) y).take 4 = ((frm b).take k).take 4 := turn_take (by rw [List.length_take, frm_len]; omega)
    have := val4_take (x := turn ((frm b).take k) y) (n := 4) (Nat.le_refl _)
    rw [← this, h4, val4_take (Nat.le_refl _), val4_take (by omega), val4_frm hb]
  rw [hv, turn_len, List.length_take, frm_len] at h2
  omega
theorem turn_zero (l : List UInt8) : turn l 0 = l := by
  unfold turn
  rcases Nat.eq_zero_or_pos l.length with h | h
  · have : l = [] := List.eq_nil_of_length_eq_zero h
    subst this
    rfl
  · have hk : l.length - 1 < l.length := by omega
    rw [List.getElem?_eq_getElem hk, Option.getD_some, UInt8.xor_zero, List.set_getElem_self]
theorem turn_append {a b : List UInt8} (h : 0 < b.length) (y : UInt8) : turn (a ++ b) y = a ++ turn b y := by
  unfold turn
  have e : (a ++ b).length - 1 = a.length + (b.length - 1) := by rw [List.length_append]; omega
  rw [e, List.getElem?_append_right (by omega), Nat.add_sub_cancel_left, List.set_append_right _ _ (by omega), Nat.add_sub_cancel_left]
/-- what is told when the power went while b was written behind the records l: these, or these and b -/
theorem scans_crash {l : List Rec} {b : Rec} (hl : ∀ a ∈ l, a.length ≤ 60000) (hb : b.length ≤ 60000) {s : S} (hbs : s.bs = frms l ++ frm b) (hsf : s.sf = (frms l).length) (k : Int) (y : UInt8) :
    ∃ l' n, Scans (left s k y) l' n ∧ (l' = l ∨ l' = l ++ [b]) := by
  have hst := stay_le s k
  have hlen : s.bs.length = (frms l).length + (b.length + 8) := by rw [hbs, List.length_append, frm_len]
  unfold left
  by_cases h0 : stay s k = 0
  · rw [if_pos h0, hbs, hsf, List.take_left]
    exact ⟨l, _, scans_frms hl, .inl rfl⟩
  · rw [if_neg h0, hbs, hsf, List.take_append, List.take_of_length_le (show (frms l).length ≤ (frms l).length + stay s k by omega), Nat.add_sub_cancel_left, turn_append (by rw [List.length_take, frm_len]; omega)]
    by_cases hw : stay s k < b.length + 8
    · exact ⟨l, (frms l).length, ⟨⟨by simp, by simp, hl⟩, by rw [List.drop_left]; exact part_turn hb hw y⟩, .inl rfl⟩
    · rw [List.take_of_length_le (show (frm b).length ≤ stay s k by rw [frm_len]; omega)]
      by_cases hy : y = 0
      · rw [hy, turn_zero, ← frms_snoc]
        refine ⟨l ++ [b], _, scans_frms fun a ha => ?_, .inr rfl⟩
        rcases List.mem_append.1 ha with ha | ha
        · exact hl a ha
        · simp only [List.mem_cons, List.not_mem_nil, or_false] at ha
          rw [ha]; exact hb
      · exact ⟨l, (frms l).length, ⟨⟨by simp, by simp, hl⟩, by rw [List.drop_left]; exact frm_turn hb hy⟩, .inl rfl⟩
theorem frms_le {l : List Rec} {m : Nat} (hl : ∀ a ∈ l, a.length ≤ m) : (frms l).length ≤ (m + 8) * l.length := by
  induction l with
  | nil => simp [frms]
  | cons a l ih =>
    have h1 := hl a (List.mem_cons_self)
    have h2 := ih fun b hb => hl b (List.mem_cons_of_mem _ hb)
    rw [frms_cons, List.length_append, frm_len, List.length_cons, Nat.mul_add]
    omega
/-- a tape that has the frames of r, all safe, and a fuse of v -/
def fit (cap : Int) (r : List Rec) (v : Int) : S := ⟨cap, frms r, (frms r).length, v, false⟩
/-- a tape whose power went while b was written behind r -/
def gone (cap : Int) (r : List Rec) (b : Rec) : S := ⟨cap, frms r ++ frm b, (frms r).length, 0, true⟩
section
variable {cap : Int} {r : List Rec} {b : Rec}
theorem wrt_ok {v : Int} (hc : ((frms r).length : Int) + b.length + 8 ≤ cap) (hb : b.length ≤ 60000) (hv : 2 ≤ v ∨ v = -1) : wrt (fit cap r v) b = (fit cap (r ++ [b]) (less (less v)), 0) := by
  have hl : ¬ (60000 < b.length) := by omega
  have h0 : v ≠ 0 := by omega
  have h1 : less v ≠ 0 := by unfold less; split <;> omega
  have h2 : ¬ (cap - ((frms r).length : Int) < (frm b).length) := by rw [frm_len]; omega
  have ha : app (fit cap r v) (frm b) = (⟨cap, frms r ++ frm b, (frms r).length, less v, false⟩, 0) := by unfold app fit; simp [h0, h2]
  unfold wrt
  rw [if_neg hl, ha]
  unfold syn fit
  simp [h1, frms_snoc]
theorem wrt_gone {v : Int} (hc : ((frms r).length : Int) + b.length + 8 ≤ cap) (hb : b.length ≤ 60000) (hv : v = 0 ∨ v = 1) : wrt (fit cap r v) b = (gone cap r b, 9) := by
  have hl : ¬ (60000 < b.length) := by omega
  have h2 : ¬ (cap - ((frms r).length : Int) < (frm b).length) := by rw [frm_len]; omega
  unfold wrt
  rw [if_neg hl]
  rcases hv with rfl | rfl
  · have ha : app (fit cap r 0) (frm b) = (gone cap r b, 9) := by unfold app fit gone; simp [h2]
    rw [ha]
    simp
  · have ha : app (fit cap r 1) (frm b) = (⟨cap, frms r ++ frm b, (frms r).length, 0, false⟩, 0) := by unfold app fit less; simp [h2]
    rw [ha]
    unfold syn gone
    simp
/-- opened again: nothing stands in the way -/
theorem opn_ok {s : S} {base : Rec} {l : List Rec} {n : Nat} (hl : s.lo = false) (hf : s.fu = -1) (hb : base.length ≤ 60000) (hc : ((frms (kept l base)).length : Int) ≤ s.cap) : (opn s base l n).2 = 0 := by
  have h1 : ¬ (60000 < base.length) := by omega
  have h2 : ¬ (s.cap < ((frms (kept l base)).length : Int)) := by omega
  unfold opn
  rw [if_neg h1, hl]
  simp only [Bool.false_eq_true, if_false]
  split
  · unfold rep
    rw [hl, hf]
    simp [h2]
  · rfl
/-- nothing waits: all of it stays -/
theorem left_fit {v : Int} (k : Int) (y : UInt8) : left (fit cap r v) k y = frms r := by
  have h := stay_le (fit cap r v) k
  have h0 : stay (fit cap r v) k = 0 := by unfold fit at h ⊢; dsimp only at h; omega
  unfold left
  rw [if_pos h0]
  unfold fit
  simp
end
end Jrn
end Go.Proofs.Ytcffbgehopjgpaa
