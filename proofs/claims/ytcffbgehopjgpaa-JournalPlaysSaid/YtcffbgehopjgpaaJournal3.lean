/- Layer 18: package journal: Open. -/
import Derived.Test.YtcffbgehopjgpaaJournal2
namespace Go.Proofs.Ytcffbgehopjgpaa
open Go.ChangeShapes Go.WideShapes Go.ChangeAt Go.RowKit
namespace Jrn
open By Tpe Frm
set_option maxRecDepth 100000
set_option maxHeartbeats 2000000
/-- what Open answers where it fails -/
def OpnNot (lo g : Nat) (ob : Option Nat) (s : S) (code : Int) (w : World) (e : Ending) (w' : World) : Prop := e = .returned (.tuple #[.pointer none, .slice none 0 0, .slice none 0 0, .int .i64 code]) ∧ Did w lo g ob s w'
/-- what Open answers where it doesn't -/
structure OpnAt (lo g : Nat) (ob : Option Nat) (s : S) (x : Rec) (r : List Rec) (w w' : World) (p : Nat) (A1 A2 : Option Addr) (n1 n2 c1 c2 : Nat) (ob' : Option Nat) : Prop where
  rk : Rk w' (fun y => w.heap.size ≤ y) A1 n1 c1 x
  rkL : RkL w' w.heap.size A2 n2 c2 r
  jn : JnAt w' p g r.length
  low : w.heap.size ≤ p
  tp : Tp w' lo g ob' s
  two : Two g ob w w'
  fresh : Fresh ob ob' w
  ne : p ≠ g
  neo : some p ≠ ob'
section
variable {lo g : Nat} {ob ob' : Option Nat} {s : S} {x : Rec} {r : List Rec} {w w' : World} {p n1 n2 c1 c2 : Nat} {A1 A2 : Option Addr}
theorem OpnAt.len (h : OpnAt lo g ob s x r w w' p A1 A2 n1 n2 c1 c2 ob') : x.length = n1 := h.rk.len
theorem OpnAt.rd (h : OpnAt lo g ob s x r w w' p A1 A2 n1 n2 c1 c2 ob') : Rd w' w'.heap.size 1 A1 n1 c1 (u8s x) := h.rk.rd
theorem OpnAt.rdL (h : OpnAt lo g ob s x r w w' p A1 A2 n1 n2 c1 c2 ob') : RdL w' w'.heap.size A2 n2 c2 r := h.rkL.rdL
theorem _root_.Go.Proofs.Ytcffbgehopjgpaa.Jrn.RkL.mono {base base' c n : Nat} {A : Option Addr} {l : List Rec} (h : RkL w base A n c l) (hb : base' ≤ base) : RkL w base' A n c l :=
  ⟨h.len, h.cap, fun hn => by
    obtain ⟨b, o, e, hl, hbb, hc⟩ := h.at_ hn
    refine ⟨b, o, e, by omega, hbb, fun k hk => ?_⟩
    obtain ⟨A', c', h1, h2⟩ := hc k hk
    exact ⟨A', c', h1, h2.mono fun b hb _ => by omega⟩⟩
end
def OpnHas (lo g : Nat) (ob : Option Nat) (s : S) (l : List Rec) (w : World) (e : Ending) (w' : World) : Prop := ∃ (p : Nat) (x : Rec) (r : List Rec) (A1 A2 : Option Addr) (n1 n2 c1 c2 : Nat) (ob' : Option Nat), l = x :: r ∧ e = .returned (.tuple #[.pointer (some ⟨p, 0, none⟩), .slice A1 n1 c1, .slice A2 n2 c2, .int .i64 0]) ∧ OpnAt lo g ob s x r w w' p A1 A2 n1 n2 c1 c2 ob'
def Opn (lo g : Nat) (ob : Option Nat) (s : S) (code : Int) (l : List Rec) (w : World) (e : Ending) (w' : World) : Prop := (code ≠ 0 → OpnNot lo g ob s code w e w') ∧ (code = 0 → OpnHas lo g ob s l w e w')
section
variable {w : World} {lo g : Nat} {ob : Option Nat} {s : S} {Ab : Option Addr} {nb cb : Nat} {b : Rec}
theorem popen_core (h : Tp w lo g ob s) (hb : Rd w w.heap.size 1 Ab nb cb (u8s b)) (hnb : nb ≤ 60000) (l : List Rec) (hl0 : l ≠ []) (hl9 : l.length ≤ 100000) (s1 : S) (e1 : Int)
    (HM : ∀ (v1 : World) (Af : Option Addr) (cf : Nat), Below w.heap.size w v1 → Rk v1 (fun x => x ≠ g) Af (nb + 8) cf (frm b) → Calls Try.prog 43 #[.pointer (some ⟨g, 0, none⟩), .slice Af (nb + 8) cf] v1 (Mends lo g ob s1 e1 l v1)) :
    Calls Try.prog 26 #[.pointer (some ⟨g, 0, none⟩), .slice Ab nb cb] w (Opn lo g ob s1 e1 l w) := by
  have hlb := len8 hb
  obtain ⟨m, hm⟩ : ∃ m, nb + 8 = m := ⟨_, rfl⟩
  obtain ⟨x, hx⟩ : ∃ x, frm b = x := ⟨_, rfl⟩
  rw [hm, hx] at HM
  have HFR := Lib.hid (frame_to b nb Ab cb w.heap.size w hlb hnb hb (Nat.le_refl _) x hx m hm)
  have HT0 := Lib.hid h
  have HMM := Lib.hid HM
  have hgw := h.lo_.2
  have hpos : 0 < l.length := List.length_pos_iff.2 hl0
  clear h hb hx HM
  unfold Opn
  go_enter Try.func26, Try.ntmps26
  go_wp2_with fail
  refine HFR.out.mono ?_
  rintro e v1 ⟨A5, c5, rfl, ho5, hb5⟩
  have HB1 := Lib.hid hb5
  have HM1 := Lib.hid (HMM.out v1 A5 c5 hb5 (Rk.of_own ho5 fun b hb => by omega))
  clear ho5 hb5 HFR HMM
  go_wp2_with fail
  refine HM1.out.mono ?_
  rintro e v2 ⟨v, B, rfl, hB, hlog, hd⟩
  have HD := Lib.hid (Did.later HB1.out hd)
  have hgB : g < B := by have := HB1.out.size; omega
  have hwB : w.heap.size ≤ B := Nat.le_trans HB1.out.size hB
  obtain ⟨A8, c8, rfl, hrl⟩ := RkL.of_log hlog
  clear hlog hd hB HM1
  by_cases h0 : e1 = 0
  · subst h0
    obtain ⟨x, r, rfl⟩ : ∃ x r, l = x :: r := by cases l with | nil => exact absurd rfl hl0 | cons x r => exact ⟨x, r, rfl⟩
    obtain ⟨b8, o8, A1, c1, rfl, hb8, q9, hrd1⟩ := hrl.head
    have htl := hrl.tail
    obtain ⟨m9, hm9⟩ : ∃ y, y = (x :: r).length := ⟨_, rfl⟩
    rw [← hm9] at htl hpos hl9 ⊢
    have hct := cut_tail (some ⟨b8, o8, none⟩) m9 c8 (by omega)
    obtain ⟨A9, hA9⟩ : ∃ y, y = (if c8 = 1 then (some ⟨b8, o8, none⟩ : Option Addr) else (some ⟨b8, o8, none⟩ : Option Addr).map (·.add (1 * 1))) := ⟨_, rfl⟩
    rw [← hA9] at hct htl
    have hmr : (m9 : Int) - 1 = (r.length : Int) := by rw [List.length_cons] at hm9; omega
    obtain ⟨j, hj⟩ : ∃ j, j = r.length := ⟨_, rfl⟩
    rw [← hj] at hmr
    obtain ⟨n1, hn1⟩ : ∃ y, y = x.length := ⟨_, rfl⟩
    rw [← hn1] at q9 hrd1
    have HTL := Lib.hid htl
    have HRD := Lib.hid hrd1
    have HJ := Lib.hid hj
    have HN1 := Lib.hid hn1
    have HM9 := Lib.hid hm9
    clear hrl hA9 hj hn1 hm9 htl hrd1
    go_wp2_with fail
    go_region
    all_goals (
      go_wp2_with fail
      obtain ⟨w9, hw9⟩ : ∃ W, W = v2.alloc (.cells #[.pointer (some ⟨g, 0, none⟩), .int .i64 j] 69) := ⟨_, rfl⟩
      have hj9 : JnAt w9 v2.heap.size g j := JnAt.new hw9
      have hb9 : Below v2.heap.size v2 w9 := by rw [hw9]; exact (Below.refl _ _).alloc (Nat.le_refl _) _
      rw [← hw9]
      have hbd : Below w9.heap.size w9 w9.drew := bel_drewN (Below.refl _ _) 1
      have hb10 : Below v2.heap.size v2 w9.drew := hb9.trans (hbd.mono hb9.size)
      obtain ⟨ob', hT, ht, hf⟩ := HD.out
      have hfr := hT.free (Nat.le_refl v2.heap.size)
      refine bodyPost_ret (v := .tuple #[.pointer (some ⟨v2.heap.size, 0, none⟩), .slice A1 n1 c1, .slice A9 (m9 - 1) (c8 - 1), .int .i64 0]) (by simp [results, Try.results26, go_sem]) rfl ⟨v2.heap.size, x, r, A1, A9, n1, m9 - 1, c1, c8 - 1, ob', rfl, rfl, (HRD.out.mono fun b hb _ => by omega).later hb10, (HTL.out.mono hwB).later hb10, by rw [← HJ.out]; exact hj9.later hbd, ht.size, hT.later hb10, ht.trans hf (Two.of_below hb10), hf, hfr.1, hfr.2⟩)
  · have f0 : (e1 != 0) = true := by simp; exact h0
    have HZ := Lib.hid h0
    clear h0 hrl
    go_wp2_with fail
    exact bodyPost_ret (v := .tuple #[.pointer none, .slice none 0 0, .slice none 0 0, .int .i64 e1]) (by simp [results, Try.results26, go_sem]) rfl ⟨fun _ => ⟨rfl, HD.out⟩, fun h => absurd h HZ.out⟩
/-- which l there are, and what the document's Open makes of the tape -/
theorem popen_any (h : Tp w lo g ob s) (hw : lo ≤ w.heap.size) (hcap : 0 ≤ s.cap ∧ s.cap ≤ 1048576) (hr : s.fu ≤ 9223372036854775807) (hlo : s.lo = false) (hn : s.bs.length ≤ 70000) (hb : Rd w w.heap.size 1 Ab nb cb (u8s b)) (hnb : nb ≤ 60000) {l : List Rec} {k : Nat} (hsc : Scans s.bs l k) (s1 : S) (e1 : Int) (ho : opn s b l k = (s1, e1)) :
    Calls Try.prog 26 #[.pointer (some ⟨g, 0, none⟩), .slice Ab nb cb] w (Opn lo g ob s1 e1 (kept l b) w) := by
  have hlb := len8 hb
  have hl60 : ¬ (60000 < b.length) := by omega
  have hlow : ¬ (s.lo = true) := by rw [hlo]; simp
  have hcnt := hsc.count
  have hle := hsc.le
  unfold opn at ho
  rw [if_neg hl60, if_neg hlow] at ho
  by_cases hl : l = []
  · subst hl
    have hk : k = 0 := by have h1 := hsc.eq; have h3 := congrArg List.length h1; rw [frms_nil, List.length_take] at h3; simp at h3; omega
    have hkp : kept [] b = [b] := by unfold kept; rw [if_pos rfl]
    rw [if_pos (.inl hk), hkp] at ho
    rw [hkp]
    exact popen_core h hb hnb [b] (by simp) (by simp) s1 e1 fun v1 Af cf hb1 hf => mend_new (h.later hb1) (Nat.le_trans hw hb1.size) hcap hr hlo hn hsc hf (by omega) s1 e1 ho
  · have hkp : kept l b = l := by unfold kept; rw [if_neg hl]
    rw [hkp] at ho ⊢
    have hpos : 0 < l.length := List.length_pos_iff.2 hl
    by_cases hk : k < s.bs.length
    · rw [if_pos (.inr hk)] at ho
      exact popen_core h hb hnb l hl (by omega) s1 e1 fun v1 Af cf hb1 _ => mend_cut (h.later hb1) (Nat.le_trans hw hb1.size) hcap hr hlo hn hsc hk hl s1 e1 ho _
    · have hk0 : ¬ (k = 0 ∨ k < s.bs.length) := by omega
      rw [if_neg hk0] at ho
      obtain rfl : k = s.bs.length := by omega
      injection ho with h1 h2
      subst h1; subst h2
      exact popen_core h hb hnb l hl (by omega) s 0 fun v1 Af cf hb1 _ => mend_kept (h.later hb1) hlo hn hsc hl _
theorem popen_lost (h : Tp w lo g ob s) (hlo : s.lo = true) (hb : Rd w w.heap.size 1 Ab nb cb (u8s b)) (hnb : nb ≤ 60000) :
    Calls Try.prog 26 #[.pointer (some ⟨g, 0, none⟩), .slice Ab nb cb] w (OpnNot lo g ob s 9 w) := by
  have hlb := len8 hb
  obtain ⟨m, hm⟩ : ∃ m, nb + 8 = m := ⟨_, rfl⟩
  obtain ⟨x, hx⟩ : ∃ x, frm b = x := ⟨_, rfl⟩
  have HFR := Lib.hid (frame_to b nb Ab cb w.heap.size w hlb hnb hb (Nat.le_refl _) x hx m hm)
  have HT0 := Lib.hid h
  clear h hb hx
  go_enter Try.func26, Try.ntmps26
  go_wp2_with fail
  refine HFR.out.mono ?_
  rintro e v1 ⟨A5, c5, rfl, ho5, hb5⟩
  have HB1 := Lib.hid hb5
  have HM := Lib.hid (mend_lost (HT0.out.later hb5) hlo (.slice A5 m c5))
  clear ho5 hb5 HFR
  go_wp2_with fail
  refine HM.out.mono ?_
  rintro e v2 ⟨rfl, rfl⟩
  go_wp2_with fail
  exact bodyPost_ret (v := .tuple #[.pointer none, .slice none 0 0, .slice none 0 0, .int .i64 9]) (by simp [results, Try.results26, go_sem]) rfl ⟨rfl, ob, HT0.out.later HB1.out, Two.of_below HB1.out, Fresh.refl _ _⟩
end
end Jrn
end Go.Proofs.Ytcffbgehopjgpaa
