/- Layer 18: what the laws have in common: lists cut off, arguments by fives and sixes, a journal that is written to and opened again. -/
import Derived.Test.YtcffbgehopjgpaaJournalAwake
import Derived.Test.YtcffbgehopjgpaaTape3
import Derived.Test.YtcffbgehopjgpaaLaw
namespace Go.Proofs.Ytcffbgehopjgpaa
open Go.ChangeShapes Go.WideShapes Go.ChangeAt Go.RowKit
namespace Jrn
open By Tpe Frm
set_option maxRecDepth 100000
set_option maxHeartbeats 1000000
section
variable {H : Type} {enc : TypeId × Value → H} {P : Program} {w : World} {base : Nat} {spare : Nat → Bool} {held : Bool}
theorem trodAll_five {t0 t1 t2 t3 t4 : TypeId} {args : Array Value} {ds : List (DataW H)} {ps : List MemPlace} (h : DataW.TrodAll enc P w base spare held [t0, t1, t2, t3, t4] args.toList ds ps) :
    ∃ v0 v1 v2 v3 v4 d0 d1 d2 d3 d4 p0 p1 p2 p3 p4, args = #[v0, v1, v2, v3, v4] ∧ ds = [d0, d1, d2, d3, d4] ∧ ps = p0 ++ p1 ++ p2 ++ p3 ++ p4 ∧ DataW.Trod enc P w base spare held t0 v0 d0 p0 ∧ DataW.Trod enc P w base spare held t1 v1 d1 p1 ∧ DataW.Trod enc P w base spare held t2 v2 d2 p2 ∧ DataW.Trod enc P w base spare held t3 v3 d3 p3 ∧ DataW.Trod enc P w base spare held t4 v4 d4 p4 := by
  obtain ⟨v0, r0, d0, e0, p0, q0, hargs, rfl, rfl, h0, g0⟩ := trodAll_cons h
  obtain ⟨v1, r1, d1, e1, p1, q1, rfl, rfl, rfl, h1, g1⟩ := trodAll_cons g0
  obtain ⟨v2, r2, d2, e2, p2, q2, rfl, rfl, rfl, h2, g2⟩ := trodAll_cons g1
  obtain ⟨v3, r3, d3, e3, p3, q3, rfl, rfl, rfl, h3, g3⟩ := trodAll_cons g2
  obtain ⟨v4, r4, d4, e4, p4, q4, rfl, rfl, rfl, h4, g4⟩ := trodAll_cons g3
  obtain ⟨rfl, rfl, rfl⟩ := trodAll_nil g4
  exact ⟨v0, v1, v2, v3, v4, d0, d1, d2, d3, d4, p0, p1, p2, p3, p4, by cases args; simp_all, rfl, by simp, h0, h1, h2, h3, h4⟩
theorem trodAll_six {t0 t1 t2 t3 t4 t5 : TypeId} {args : Array Value} {ds : List (DataW H)} {ps : List MemPlace} (h : DataW.TrodAll enc P w base spare held [t0, t1, t2, t3, t4, t5] args.toList ds ps) :
    ∃ v0 v1 v2 v3 v4 v5 d0 d1 d2 d3 d4 d5 p0 p1 p2 p3 p4 p5, args = #[v0, v1, v2, v3, v4, v5] ∧ ds = [d0, d1, d2, d3, d4, d5] ∧ ps = p0 ++ p1 ++ p2 ++ p3 ++ p4 ++ p5 ∧ DataW.Trod enc P w base spare held t0 v0 d0 p0 ∧ DataW.Trod enc P w base spare held t1 v1 d1 p1 ∧ DataW.Trod enc P w base spare held t2 v2 d2 p2 ∧ DataW.Trod enc P w base spare held t3 v3 d3 p3 ∧ DataW.Trod enc P w base spare held t4 v4 d4 p4 ∧ DataW.Trod enc P w base spare held t5 v5 d5 p5 := by
  obtain ⟨v0, r0, d0, e0, p0, q0, hargs, rfl, rfl, h0, g0⟩ := trodAll_cons h
  obtain ⟨v1, r1, d1, e1, p1, q1, rfl, rfl, rfl, h1, g1⟩ := trodAll_cons g0
  obtain ⟨v2, r2, d2, e2, p2, q2, rfl, rfl, rfl, h2, g2⟩ := trodAll_cons g1
  obtain ⟨v3, r3, d3, e3, p3, q3, rfl, rfl, rfl, h3, g3⟩ := trodAll_cons g2
  obtain ⟨v4, r4, d4, e4, p4, q4, rfl, rfl, rfl, h4, g4⟩ := trodAll_cons g3
  obtain ⟨v5, r5, d5, e5, p5, q5, rfl, rfl, rfl, h5, g5⟩ := trodAll_cons g4
  obtain ⟨rfl, rfl, rfl⟩ := trodAll_nil g5
  exact ⟨v0, v1, v2, v3, v4, v5, d0, d1, d2, d3, d4, d5, p0, p1, p2, p3, p4, p5, by cases args; simp_all, rfl, by simp, h0, h1, h2, h3, h4, h5⟩
end
theorem _root_.Go.Proofs.Ytcffbgehopjgpaa.By.RdL.take {w : World} {B n c : Nat} {A : Option Addr} {l : List Rec} (h : RdL w B A n c l) {k : Nat} (hk : k ≤ n) : RdL w B A k c (l.take k) := by
  have hl := h.len
  have hc := h.cap
  refine ⟨by rw [List.length_take]; omega, by omega, fun hn => ?_⟩
  obtain ⟨b, o, e, hb, hkk⟩ := h.at_ (by omega)
  refine ⟨b, o, e, hb, fun j hj => ?_⟩
  rw [List.length_take] at hj
  obtain ⟨A', c', h1, h2⟩ := hkk j (by omega)
  rw [List.getElem_take]
  exact ⟨A', c', h1, h2⟩
theorem cut_toL (A : Option Addr) (n c k : Nat) (hk : k ≤ c) (W : World) : (Instr.slice 54 (.slice A n c) none (some (.int .i64 (k : Nat))) none).run Try.prog W = .ok (.slice A k c) W := by
  obtain ⟨i0, hi0, _, hz1, _⟩ := info_partsL
  exact run_cut_to (P := Try.prog) 54 23 1 Try.underlying54 hi0 hz1 A n c k hk W
theorem take_more {l : List Rec} {b : Rec} {k : Nat} (h : k < l.length) : b :: l.take (k + 1) = (b :: l.take k) ++ [l[k]] := by
  rw [List.take_succ_eq_append_getElem h, List.cons_append]
theorem arm_fit {cap : Int} {r : List Rec} {v f : Int} (hf : 0 ≤ f) : arm (fit cap r v) f = (fit cap r f, 0) := by
  have h : ¬ (f < 0) := by omega
  unfold arm fit
  simp [h]
theorem less_two {v : Int} (h : 2 ≤ v) : less (less v) = v - 2 := by
  have h1 : less v = v - 1 := by unfold less; rw [if_pos (by omega)]
  rw [h1]
  unfold less
  rw [if_pos (by omega)]
  omega
theorem less_none : less (less (-1)) = -1 := by decide
/-- how long the bytes are -/
theorem fit_len {l : List Rec} {b : Rec} {k : Nat} (hb : b.length ≤ 300) (hl : ∀ a ∈ l.take k, a.length ≤ 300) (hk : k ≤ 30) : (frms (b :: l.take k)).length ≤ 9548 := by
  have h : ∀ a ∈ b :: l.take k, a.length ≤ 300 := fun a ha => by
    rcases List.mem_cons.1 ha with rfl | ha
    · exact hb
    · exact hl a ha
  have h2 := frms_le h
  have h3 : (b :: l.take k).length ≤ 31 := by rw [List.length_cons, List.length_take]; omega
  have h4 : (300 + 8) * (b :: l.take k).length ≤ (300 + 8) * 31 := Nat.mul_le_mul_left _ h3
  omega
/-- a tape that was restarted is opened: nothing stands in the way -/
theorem opn_rst {s : S} {base : Rec} {l : List Rec} {n : Nat} {k : Int} {y : UInt8} (hb : base.length ≤ 60000) (hl : l ≠ []) (hc : ((frms l).length : Int) ≤ s.cap) : ∃ s2, opn (rst s k y) base l n = (s2, 0) := by
  have hk : kept l base = l := by unfold kept; rw [if_neg hl]
  have h := opn_ok (s := rst s k y) (base := base) (l := l) (n := n) rfl rfl hb (by rw [hk]; exact hc)
  exact ⟨_, Prod.ext rfl h⟩
theorem rnw_ok {cap : Int} {r : List Rec} {b : Rec} (hb : b.length ≤ 60000) (hc : (b.length : Int) + 8 ≤ cap) : rnw (fit cap r 1) b = (fit cap [b] 0, 0) := by
  have h1 : ¬ (60000 < b.length) := by omega
  have h2 : ¬ (cap < ((frm b).length : Int)) := by rw [frm_len]; omega
  have h3 : frms [b] = frm b := by rw [frms_cons, frms_nil, List.append_nil]
  unfold rnw
  rw [if_neg h1]
  unfold rep fit less
  simp [h2, h3]
theorem rnw_gone {cap : Int} {r : List Rec} {b : Rec} (hb : b.length ≤ 60000) (hc : (b.length : Int) + 8 ≤ cap) : rnw (fit cap r 0) b = (⟨cap, frms r, (frms r).length, 0, true⟩, 9) := by
  have h1 : ¬ (60000 < b.length) := by omega
  have h2 : ¬ (cap < ((frm b).length : Int)) := by rw [frm_len]; omega
  unfold rnw
  rw [if_neg h1]
  unfold rep fit
  simp [h2]
theorem left_lost {cap : Int} {r : List Rec} (k : Int) (y : UInt8) : left ⟨cap, frms r, (frms r).length, 0, true⟩ k y = frms r := left_fit (cap := cap) (r := r) (v := 0) k y
end Jrn
end Go.Proofs.Ytcffbgehopjgpaa
