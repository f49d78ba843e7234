/- Layer 18: the document's Open. -/
import Derived.Test.YtcffbgehopjgpaaJournalRef
import Derived.Test.YtcffbgehopjgpaaJournalList
import Derived.Test.YtcffbgehopjgpaaTapeStep
import Derived.Test.YtcffbgehopjgpaaFrameScan
import Derived.Deep.DeepCutAuto
import Derived.RegionTactic
namespace Go.Proofs.Ytcffbgehopjgpaa
open Go.ChangeShapes Go.WideShapes Go.ChangeAt Go.RowKit
namespace Jrn
open By Tpe Frm
set_option maxRecDepth 100000
set_option maxHeartbeats 2000000
/-- the two boxes that Open lays -/
theorem boxes_open (s : S) (A : Option Addr) (n c : Nat) (w : World) : ∃ (p r : Nat) (W : World), Hid (p = w.heap.size) ∧ Hid (r = p + 1) ∧ Hid (W = (w.alloc (.cells #[.int .i64 s.cap, .slice A n c, .int .i64 s.sf, .int .i64 s.fu, .bool s.lo] 33)).alloc (.cells #[.int .i64 0, .slice none 0 0, .int .i64 0, .int .i64 0, .bool false, .int .i64 0] 35)) ∧
    Hid (BoxD W p s A n c) ∧ Hid (BoxJ W r zS none 0 0 0) ∧ Hid (Below w.heap.size w W) := by
  refine ⟨_, _, _, rfl, rfl, rfl, ?_, ?_, ((Below.refl _ _).alloc (Nat.le_refl _) _).alloc (by simp) _⟩
  · exact (BoxD.new rfl).later ((Below.refl _ _).alloc (Nat.le_refl _) _)
  · refine ⟨?_, ?_, ?_, ?_, ?_, ?_, by simp, fun j => ?_⟩ <;> (try unfold zS) <;> go_simp
/-- a list lasts when a box ahead of it is written -/
theorem LogL_two {w w' : World} {base r : Nat} {v : Value} {l : List Rec} (h : LogL base w v l) (ht : Two r none w w') (hr : r < base) : LogL base w' v l := by
  obtain ⟨vs, h1, h2, h3⟩ := h
  refine ⟨vs, ownsRow_two h1 ht fun b hb => ⟨by have := (ownBlock_lt h1 hb).1; omega, by simp⟩, h2, fun k hk => ?_⟩
  obtain ⟨A, c, h4, h5⟩ := h3 k hk
  refine ⟨A, c, h4, ⟨h5.len, h5.cap, h5.one, fun hn => ?_⟩⟩
  obtain ⟨b, o, e, hlo, hb, hne, hc⟩ := h5.at_ hn
  exact ⟨b, o, e, hlo, Nat.lt_of_lt_of_le hb ht.size, hne, fun j u hu => (ht.cell (p := ⟨b, o + j, none⟩) hb (by dsimp only; omega) (by simp)).trans (hc j u hu)⟩
theorem LogL_low {w : World} {base b o n c : Nat} {l : List Rec} (h : LogL base w (.slice (some ⟨b, o, none⟩) n c) l) : base ≤ b := by
  obtain ⟨vs, h1, _, _⟩ := h
  exact (ownBlock_lt h1 rfl).1
/-- the list without its first record -/
theorem RdL_tail {w : World} {B n c : Nat} {A : Option Addr} {x : Rec} {r : List Rec} (h : RdL w B A n c (x :: r)) : RdL w B (if c = 1 then A else A.map (·.add (1 * 1))) (n - 1) (c - 1) r := by
  have hl := h.len
  have hc := h.cap
  rw [List.length_cons] at hl
  refine ⟨by omega, by omega, fun hn => ?_⟩
  obtain ⟨b, o, rfl, hb, hk⟩ := h.at_ (by omega)
  rw [if_neg (by omega)]
  refine ⟨b, o + 1, rfl, hb, fun k hkl => ?_⟩
  obtain ⟨A', c', h1, h2⟩ := hk (k + 1) (by rw [List.length_cons]; omega)
  rw [show o + (k + 1) = o + 1 + k by omega] at h1
  exact ⟨A', c', h1, h2⟩
theorem cut_tail (A : Option Addr) (n c : Nat) (hn : 1 ≤ n) (W : World) : (Instr.slice 54 (.slice A n c) (some (.int .i64 1)) none none).run Try.prog W = .ok (.slice (if c = 1 then A else A.map (·.add (1 * 1))) (n - 1) (c - 1)) W := by
  obtain ⟨i0, hi0, _, hz1, _⟩ := info_partsL
  exact run_cut_from (P := Try.prog) 54 23 1 Try.underlying54 hi0 hz1 A n c 1 hn W
/-- a list lasts when blocks ahead of it are written -/
theorem LogL_any {w w' : World} {base a : Nat} {q : Option Nat} {v : Value} {l : List Rec} (h : LogL base w v l) (ht : Two a q w w') (ha : a < base) (hq : ∀ b, q = some b → b < base) : LogL base w' v l := by
  obtain ⟨vs, h1, h2, h3⟩ := h
  refine ⟨vs, ownsRow_two h1 ht fun b hb => ⟨by have := (ownBlock_lt h1 hb).1; omega, fun e => by have h8 := (ownBlock_lt h1 hb).1; have h9 := hq b e.symm; omega⟩, h2, fun k hk => ?_⟩
  obtain ⟨A, c, h4, h5⟩ := h3 k hk
  refine ⟨A, c, h4, ⟨h5.len, h5.cap, h5.one, fun hn => ?_⟩⟩
  obtain ⟨b, o, e, hlo, hb, hne, hc⟩ := h5.at_ hn
  exact ⟨b, o, e, hlo, Nat.lt_of_lt_of_le hb ht.size, hne, fun j u hu => (ht.cell (p := ⟨b, o + j, none⟩) hb (by dsimp only; omega) (by intro e; have := hq b e.symm; omega)).trans (hc j u hu)⟩
/-- a list of records, all of it in blocks from base on -/
structure RkL (w : World) (base : Nat) (A : Option Addr) (n c : Nat) (l : List Rec) : Prop where
  len : l.length = n
  cap : n ≤ c
  at_ : 0 < n → ∃ b o, A = some ⟨b, o, none⟩ ∧ base ≤ b ∧ b < w.heap.size ∧ ∀ k (h : k < l.length), ∃ A' c', w.cell? ⟨b, o + k, none⟩ = some (.slice A' l[k].length c') ∧ Rk w (fun x => base ≤ x) A' l[k].length c' l[k]
section
variable {w w' : World} {base a n c : Nat} {q : Option Nat} {A : Option Addr} {x : Rec} {l : List Rec}
theorem RkL.rdL (h : RkL w base A n c l) : RdL w w.heap.size A n c l :=
  ⟨h.len, h.cap, fun hn => by
    obtain ⟨b, o, e, _, hb, hc⟩ := h.at_ hn
    exact ⟨b, o, e, hb, fun k hk => by obtain ⟨A', c', h1, h2⟩ := hc k hk; exact ⟨A', c', h1, h2.rd⟩⟩⟩
theorem RkL.two (h : RkL w base A n c l) (ht : Two a q w w') (ha : a < base) (hq : ∀ b, q = some b → b < base) : RkL w' base A n c l :=
  have hne : ∀ b, base ≤ b → b ≠ a ∧ some b ≠ q := fun b hb => ⟨by omega, fun e => by have := hq b e.symm; omega⟩
  ⟨h.len, h.cap, fun hn => by
    obtain ⟨b, o, e, hl, hb, hc⟩ := h.at_ hn
    refine ⟨b, o, e, hl, Nat.lt_of_lt_of_le hb ht.size, fun k hk => ?_⟩
    obtain ⟨A', c', h1, h2⟩ := hc k hk
    exact ⟨A', c', (ht.cell (p := ⟨b, o + k, none⟩) hb (hne b hl).1 (hne b hl).2).trans h1, h2.two ht fun b hb _ => hne b hb⟩⟩
theorem RkL.later (h : RkL w base A n c l) (hb : Below w.heap.size w w') : RkL w' base A n c l :=
  ⟨h.len, h.cap, fun hn => by
    obtain ⟨b, o, e, hl, hbb, hc⟩ := h.at_ hn
    refine ⟨b, o, e, hl, Nat.lt_of_lt_of_le hbb hb.size, fun k hk => ?_⟩
    obtain ⟨A', c', h1, h2⟩ := hc k hk
    exact ⟨A', c', (hb.cell (p := ⟨b, o + k, none⟩) hbb).trans h1, h2.later hb⟩⟩
theorem RkL.of_log {v : Value} (h : LogL base w v l) : ∃ A c, v = .slice A l.length c ∧ RkL w base A l.length c l := by
  obtain ⟨vs, h1, h2, h3⟩ := h
  have hone : ∀ u ∈ vs, u.oneCell' = true := by
    intro u hu
    obtain ⟨k, hk, rfl⟩ := List.getElem_of_mem hu
    obtain ⟨A, c, h4, _⟩ := h3 k (by omega)
    rw [List.getElem?_eq_getElem hk] at h4
    injection h4 with h4
    rw [h4]; rfl
  obtain ⟨A, c, rfl, hr⟩ := Rd.of_own h1 hone
  refine ⟨A, c, rfl, rfl, hr.cap, fun hn => ?_⟩
  obtain ⟨b, o, rfl, hb, hc⟩ := hr.at_ hn
  have hlo := (ownBlock_lt h1 rfl).1
  refine ⟨b, o, rfl, hlo, hb, fun k hk => ?_⟩
  obtain ⟨A2, c2, h5, h6⟩ := h3 k hk
  exact ⟨A2, c2, hc k _ h5, ⟨h6.rd, fun hp => by obtain ⟨b, o, e, hl, _⟩ := h6.at_ hp; exact ⟨b, o, e, hl⟩⟩⟩
theorem RkL.head (h : RkL w base A n c (x :: l)) : ∃ b o A1 c1, A = some ⟨b, o, none⟩ ∧ b < w.heap.size ∧ w.cell? ⟨b, o, none⟩ = some (.slice A1 x.length c1) ∧ Rk w (fun y => base ≤ y) A1 x.length c1 x := by
  have hl := h.len
  rw [List.length_cons] at hl
  obtain ⟨b, o, e, _, hb, hc⟩ := h.at_ (by omega)
  obtain ⟨A1, c1, h1, h2⟩ := hc 0 (by simp)
  exact ⟨b, o, A1, c1, e, hb, h1, h2⟩
theorem RkL.tail (h : RkL w base A n c (x :: l)) : RkL w base (if c = 1 then A else A.map (·.add (1 * 1))) (n - 1) (c - 1) l := by
  have hl := h.len
  have hc := h.cap
  rw [List.length_cons] at hl
  refine ⟨by omega, by omega, fun hn => ?_⟩
  obtain ⟨b, o, rfl, hlo, hb, hk⟩ := h.at_ (by omega)
  rw [if_neg (by omega)]
  refine ⟨b, o + 1, rfl, hlo, hb, fun k hkl => ?_⟩
  obtain ⟨A', c', h1, h2⟩ := hk (k + 1) (by rw [List.length_cons]; omega)
  rw [show o + (k + 1) = o + 1 + k by omega] at h1
  exact ⟨A', c', h1, h2⟩
end
/-- the first one, and the others -/
theorem parts_of {w : World} {base b8 o8 m c8 n1 c1 : Nat} {A1 A9 : Option Addr} {x : Rec} {r : List Rec} (h : LogL base w (.slice (some ⟨b8, o8, none⟩) m c8) (x :: r)) (hq : w.cell? ⟨b8, o8, none⟩ = some (.slice A1 n1 c1)) (hA : A9 = (if c8 = 1 then (some ⟨b8, o8, none⟩ : Option Addr) else (some ⟨b8, o8, none⟩ : Option Addr).map (·.add (1 * 1)))) : Rk w (fun y => base ≤ y) A1 n1 c1 x ∧ RkL w base A9 (m - 1) (c8 - 1) r := by
  obtain ⟨A8, c9, hv, hrl⟩ := RkL.of_log h
  injection hv with e1 e2 e3
  subst e1; subst e2; subst e3; subst hA
  obtain ⟨b9, o9, A1', c1', e4, _, h3, h4⟩ := hrl.head
  injection e4 with e4
  injection e4 with e4 e5
  subst e4; subst e5
  rw [hq] at h3
  injection h3 with h3
  injection h3 with e6 e7 e8
  subst e6; subst e7; subst e8
  exact ⟨h4, hrl.tail⟩
/-- what Open answers where it fails -/
def Fails (ok : Nat → Prop) (s' : S) (code : Int) (w : World) (e : Ending) (w' : World) : Prop := ∃ v, e = .returned (.tuple #[v, .slice none 0 0, .slice none 0 0, .int .i64 code]) ∧ JouIs ok s' 0 w w' v
/-- what Open answers where it doesn't -/
def Opens (ok : Nat → Prop) (s' : S) (l : List Rec) (w : World) (e : Ending) (w' : World) : Prop := ∃ (v : Value) (x : Rec) (r : List Rec) (A1 A2 : Option Addr) (n1 n2 c1 c2 : Nat), l = x :: r ∧ e = .returned (.tuple #[v, .slice A1 n1 c1, .slice A2 n2 c2, .int .i64 0]) ∧ JouIs ok s' r.length w w' v ∧ ∃ base, w.heap.size ≤ base ∧ Rk w' (fun y => base ≤ y) A1 n1 c1 x ∧ RkL w' base A2 n2 c2 r
section
variable {w : World} {ok : Nat → Prop} {A Ab : Option Addr} {n c nb cb : Nat} {b : List UInt8} {s : S}
theorem refopen_long (h : Rk w ok A n c s.bs) (hb : 60000 < nb) :
    Calls Try.prog 29 #[docV s A n c, .slice Ab nb cb] w (Fails ok s 3 w) := by
  have HR := Lib.hid h
  have HLE := Lib.hid h.len
  unfold docV
  have f0 : decide ((60000 : Int) < (nb : Int)) = true := decide_eq_true (by omega)
  have f1 : decide (60000 < nb) = true := decide_eq_true hb
  clear h
  go_enter Try.func29, Try.ntmps29
  go_wp2
  exact bodyPost_ret (v := .tuple #[.agg #[.int .i64 s.cap, .slice A n c, .int .i64 s.sf, .int .i64 s.fu, .bool s.lo, .int .i64 0], .slice none 0 0, .slice none 0 0, .int .i64 3]) (by simp [results, Try.results29, go_sem]) rfl ⟨_, rfl, A, n, c, rfl, HLE.out, HR.out.later (((Below.refl _ _).alloc (Nat.le_refl _) _).alloc (by simp) _), ((Below.refl _ _).alloc (Nat.le_refl _) _).alloc (by simp) _⟩
theorem refopen_lost (h : Rk w ok A n c s.bs) (hb : ¬ 60000 < nb) (hlo : s.lo = true) :
    Calls Try.prog 29 #[docV s A n c, .slice Ab nb cb] w (Fails ok s 9 w) := by
  have HR := Lib.hid h
  have HLE := Lib.hid h.len
  unfold docV
  obtain ⟨cap, bs, sf, fu, lz⟩ := s
  dsimp only at hlo HR HLE ⊢
  subst hlo
  have f0 : decide ((60000 : Int) < (nb : Int)) = false := decide_eq_false (by omega)
  have f1 : decide (60000 < nb) = false := decide_eq_false hb
  clear h
  go_enter Try.func29, Try.ntmps29
  go_wp2
  exact bodyPost_ret (v := .tuple #[.agg #[.int .i64 cap, .slice A n c, .int .i64 sf, .int .i64 fu, .bool true, .int .i64 0], .slice none 0 0, .slice none 0 0, .int .i64 9]) (by simp [results, Try.results29, go_sem]) rfl ⟨_, rfl, A, n, c, rfl, HLE.out, HR.out.later (((Below.refl _ _).alloc (Nat.le_refl _) _).alloc (by simp) _), ((Below.refl _ _).alloc (Nat.le_refl _) _).alloc (by simp) _⟩
theorem refopen_kept {l : List Rec} (h : Rk w ok A n c s.bs) (hb : ¬ 60000 < nb) (hlo : s.lo = false) (hn : n ≤ 70000) (hsc : Scans s.bs l n) (hl0 : l ≠ []) :
    Calls Try.prog 29 #[docV s A n c, .slice Ab nb cb] w (Opens ok s l w) := by
  have hl := h.len
  have f0 : decide ((60000 : Int) < (nb : Int)) = false := decide_eq_false (by omega)
  have f1 : decide (60000 < nb) = false := decide_eq_false hb
  have HR := Lib.hid h
  have HLE := Lib.hid hl
  unfold docV
  obtain ⟨p, r, W, HP, HRR, HW, HPX, HRX, HBX⟩ := boxes_open s A n c w
  have hpr : p ≠ r := by have := HRR.out; omega
  have hwp : w.heap.size ≤ p := by rw [HP.out]; exact Nat.le_refl _
  have hwr : w.heap.size ≤ r := by have h1 := HRR.out; have h2 := HP.out; omega
  have HK0 : Hid (Rk W (fun b => ok b ∧ b ≠ p ∧ b ≠ r) A n c s.bs) := (HR.out.mono fun b hb hl9 => ⟨hb, by have h2 := HP.out; omega, by have h1 := HRR.out; have h2 := HP.out; omega⟩).later HBX.out
  have hpe := HP.out
  subst hpe
  have hre := HRR.out
  subst hre
  clear h
  have hpos : 0 < l.length := List.length_pos_iff.2 hl0
  have hcnt := hsc.count
  have HSC := Lib.hid hsc
  have HF := Lib.hid (refscan_any s.bs n A c W hl (by omega) (HR.out.rd.later HBX.out))
  clear hsc hl hb
  have k0 := HPX.out.c0
  have k1 := HPX.out.c1
  have k2 := HPX.out.c2
  have k3 := HPX.out.c3
  have k4 := HPX.out.c4
  rw [hlo] at k4
  have HLO := Lib.hid hlo
  have HW2 : Hid (W = (w.alloc (.cells #[.int .i64 s.cap, .slice A n c, .int .i64 s.sf, .int .i64 s.fu, .bool false] 33)).alloc (.cells #[.int .i64 0, .slice none 0 0, .int .i64 0, .int .i64 0, .bool false, .int .i64 0] 35)) := by have h := HW.out; rw [hlo] at h; exact h
  rw [hlo]
  clear hlo
  go_enter Try.func29, Try.ntmps29
  go_wp2_with fail
  rw [← HW2.out]
  refine HF.out.mono ?_
  rintro e v1 ⟨l9, k9, v, hs9, rfl, hlog, hb1⟩
  obtain ⟨rfl, rfl⟩ := HSC.out.uniq hs9
  obtain ⟨A8, c8, rfl, hrl⟩ := hlog.rdL
  obtain ⟨m, hm⟩ : ∃ m, l.length = m := ⟨_, rfl⟩
  rw [hm] at hrl hpos hcnt ⊢
  obtain ⟨x, r, rfl⟩ : ∃ x r, l = x :: r := by cases l with | nil => exact absurd rfl hl0 | cons x r => exact ⟨x, r, rfl⟩
  have HPX1 := Lib.hid (HPX.out.later hb1)
  have HRX1 := Lib.hid (HRX.out.later hb1)
  have HB1 : Hid (Below w.heap.size w v1) := HBX.out.trans (hb1.mono HBX.out.size)
  have HK1 := Lib.hid (HK0.out.later hb1)
  have HRL := Lib.hid hrl
  obtain ⟨b8, o8, rfl, hb8, hc8⟩ := hrl.at_ hpos
  obtain ⟨A1, c1, q9, hrd1⟩ := hc8 0 (by simp)
  rw [hm] at hlog
  have HLG := Lib.hid hlog
  have hb8w : w.heap.size + 1 + 1 ≤ b8 := by have h1 := LogL_low hlog; have h2 : W.heap.size = w.heap.size + 1 + 1 := (by rw [HW.out]; simp); omega
  have q9 : v1.cell? ⟨b8, o8, none⟩ = some (.slice A1 x.length c1) := q9
  have HRD1 : Hid (Rd v1 v1.heap.size 1 A1 x.length c1 (u8s x)) := hrd1
  obtain ⟨n1, hn1⟩ : ∃ y, y = x.length := ⟨_, rfl⟩
  rw [← hn1] at q9 HRD1
  have hct := cut_tail (some ⟨b8, o8, none⟩) m c8 (by omega)
  obtain ⟨A9, hA9⟩ : ∃ y, y = (if c8 = 1 then (some ⟨b8, o8, none⟩ : Option Addr) else (some ⟨b8, o8, none⟩ : Option Addr).map (·.add (1 * 1))) := ⟨_, rfl⟩
  rw [← hA9] at hct
  have HTL := Lib.hid (RdL_tail hrl)
  rw [← hA9] at HTL
  have hmr : (m : Int) - 1 = (r.length : Int) := by rw [List.length_cons] at hm; omega
  obtain ⟨j, hj⟩ : ∃ j, j = r.length := ⟨_, rfl⟩
  rw [← hj] at hmr
  have hz : ((m : Int) == 0) = false := by simp; omega
  have hz2 : (m == 0) = false := by simp; omega
  have hz3 : ((n : Int) == 0) = false := by simp; omega
  have HJ := Lib.hid hj
  have HN1 := Lib.hid hn1
  have HA9 := Lib.hid hA9
  clear hs9 hlog hb1 hrl hc8 hrd1 hA9 hm k0 k1 k2 k3 k4 hj hn1
  have k0 := HPX1.out.c0
  have k1 := HPX1.out.c1
  have k2 := HPX1.out.c2
  have k3 := HPX1.out.c3
  have k4 := HPX1.out.c4
  have z0 := HRX1.out.c0
  have g0 := HRX1.out.free.2 0
  have z1 := HRX1.out.c1
  have g1 := HRX1.out.free.2 1
  have z2 := HRX1.out.c2
  have g2 := HRX1.out.free.2 2
  have z3 := HRX1.out.c3
  have g3 := HRX1.out.free.2 3
  have z4 := HRX1.out.c4
  have g4 := HRX1.out.free.2 4
  have z5 := HRX1.out.c5
  have g5 := HRX1.out.free.2 5
  rw [HLO.out] at k4
  go_wp2_with fail
  go_region
  all_goals (
    go_wp2_with fail
    obtain ⟨u9, hu9⟩ : ∃ W9, W9 = ((((((v1.setCell ⟨w.heap.size + 1, 0, none⟩ (.int .i64 s.cap)).setCell ⟨w.heap.size + 1, 1, none⟩ (.slice A n c)).setCell ⟨w.heap.size + 1, 2, none⟩ (.int .i64 s.sf)).setCell ⟨w.heap.size + 1, 3, none⟩ (.int .i64 s.fu)).setCell ⟨w.heap.size + 1, 4, none⟩ (.bool false)).setCell ⟨w.heap.size + 1, 5, none⟩ (.int .i64 j)) := ⟨_, rfl⟩
    obtain ⟨⟨l0, l1, l2, l3, l4, l5⟩, htu⟩ := st6 hu9 HRX1.out
    rw [← hu9]
    clear hu9
    obtain ⟨w9, hw9⟩ : ∃ W, W = u9.drew := ⟨_, rfl⟩
    rw [← hw9]
    have hbd : Below u9.heap.size u9 w9 := by rw [hw9]; exact bel_drewN (Below.refl _ _) 1
    have l0 : w9.cell? ⟨w.heap.size + 1, 0, none⟩ = some (.int .i64 s.cap) := by rw [hw9]; exact l0
    have l1 : w9.cell? ⟨w.heap.size + 1, 1, none⟩ = some (.slice A n c) := by rw [hw9]; exact l1
    have l2 : w9.cell? ⟨w.heap.size + 1, 2, none⟩ = some (.int .i64 s.sf) := by rw [hw9]; exact l2
    have l3 : w9.cell? ⟨w.heap.size + 1, 3, none⟩ = some (.int .i64 s.fu) := by rw [hw9]; exact l3
    have l4 : w9.cell? ⟨w.heap.size + 1, 4, none⟩ = some (.bool false) := by rw [hw9]; exact l4
    have l5 : w9.cell? ⟨w.heap.size + 1, 5, none⟩ = some (.int .i64 j) := by rw [hw9]; exact l5
    clear hw9
    have ht9 : Two (w.heap.size + 1) none v1 w9 := htu.trans (Fresh.refl _ _) (Two.of_below hbd)
    have hk9 := (HK1.out.two ht9 fun b hb _ => ⟨hb.2.2, by simp⟩).mono (ok' := ok) fun b hb _ => hb.1
    have hb9 : Below w.heap.size w w9 := HB1.out.trans (ht9.below hwr (fun j hj => by cases hj) HB1.out.size)
    have hsW : W.heap.size = w.heap.size + 1 + 1 := by rw [HW.out]; simp
    have hlg9 := LogL_two HLG.out ht9 (by omega)
    have q10 := (ht9.cell (p := ⟨b8, o8, none⟩) hb8 (by dsimp only; omega) (by simp)).trans q9
    obtain ⟨hr9, hl9⟩ := parts_of hlg9 q10 HA9.out
    refine bodyPost_ret (v := .tuple #[.agg #[.int .i64 s.cap, .slice A n c, .int .i64 s.sf, .int .i64 s.fu, .bool false, .int .i64 j], .slice A1 n1 c1, .slice A9 (m - 1) (c8 - 1), .int .i64 0]) (by simp [results, Try.results29, go_sem, l0, l1, l2, l3, l4, l5]) rfl ⟨_, x, r, A1, A9, n1, m - 1, c1, c8 - 1, rfl, rfl, ⟨A, n, c, ?_, HLE.out, hk9, hb9⟩, W.heap.size, by omega, hr9, hl9⟩
    unfold docJ
    rw [HLO.out, ← HJ.out])
theorem refopen_cut {l : List Rec} (hok : ∀ x, w.heap.size ≤ x → ok x) (h : Rk w ok A n c s.bs) (hcap : 0 ≤ s.cap ∧ s.cap ≤ 1048576) (hr : -1 ≤ s.fu ∧ s.fu ≤ 9223372036854775807) (hb : ¬ 60000 < nb) (hlo : s.lo = false) (hn : n ≤ 70000) {k9 : Nat} (hsc : Scans s.bs l k9) (hkn : k9 < n) (hl0 : l ≠ []) (s1 : S) (e1 : Int) (hs1 : rep s (frms l) = (s1, e1)) :
    Calls Try.prog 29 #[docV s A n c, .slice Ab nb cb] w fun e w' => (e1 ≠ 0 → Fails ok s1 e1 w e w') ∧ (e1 = 0 → Opens ok s1 l w e w') := by
  have hl := h.len
  have f0 : decide ((60000 : Int) < (nb : Int)) = false := decide_eq_false (by omega)
  have f1 : decide (60000 < nb) = false := decide_eq_false hb
  have HR := Lib.hid h
  have HLE := Lib.hid hl
  unfold docV
  obtain ⟨p, r, W, HP, HRR, HW, HPX, HRX, HBX⟩ := boxes_open s A n c w
  have hpr : p ≠ r := by have := HRR.out; omega
  have hwp : w.heap.size ≤ p := by rw [HP.out]; exact Nat.le_refl _
  have hwr : w.heap.size ≤ r := by have h1 := HRR.out; have h2 := HP.out; omega
  have HK0 : Hid (Rk W (fun b => ok b ∧ b ≠ p ∧ b ≠ r) A n c s.bs) := (HR.out.mono fun b hb hl9 => ⟨hb, by have h2 := HP.out; omega, by have h1 := HRR.out; have h2 := HP.out; omega⟩).later HBX.out
  have hpe := HP.out
  subst hpe
  have hre := HRR.out
  subst hre
  clear h
  have hpos : 0 < l.length := List.length_pos_iff.2 hl0
  have hcnt := hsc.count
  have hfl : (frms l).length = k9 := by rw [hsc.eq, List.length_take]; omega
  have hfew := hsc.few
  have HSC := Lib.hid hsc
  have HF := Lib.hid (refscan_any s.bs n A c W hl (by omega) (HR.out.rd.later HBX.out))
  clear hsc hl hb
  have k0 := HPX.out.c0
  have k1 := HPX.out.c1
  have k2 := HPX.out.c2
  have k3 := HPX.out.c3
  have k4 := HPX.out.c4
  rw [hlo] at k4
  have HLO := Lib.hid hlo
  have HW2 : Hid (W = (w.alloc (.cells #[.int .i64 s.cap, .slice A n c, .int .i64 s.sf, .int .i64 s.fu, .bool false] 33)).alloc (.cells #[.int .i64 0, .slice none 0 0, .int .i64 0, .int .i64 0, .bool false, .int .i64 0] 35)) := by have h := HW.out; rw [hlo] at h; exact h
  rw [hlo]
  clear hlo
  go_enter Try.func29, Try.ntmps29
  go_wp2_with fail
  rw [← HW2.out]
  refine HF.out.mono ?_
  rintro e v1 ⟨l9, k8, v, hs9, rfl, hlog, hb1⟩
  obtain ⟨rfl, rfl⟩ := HSC.out.uniq hs9
  obtain ⟨A8, c8, rfl, hrl⟩ := hlog.rdL
  obtain ⟨m, hm⟩ : ∃ m, l.length = m := ⟨_, rfl⟩
  rw [hm] at hrl hpos hcnt hlog
  have HPX1 := Lib.hid (HPX.out.later hb1)
  have HRX1 := Lib.hid (HRX.out.later hb1)
  have HB1 : Hid (Below w.heap.size w v1) := HBX.out.trans (hb1.mono HBX.out.size)
  have HK1 := Lib.hid (HK0.out.later hb1)
  have HLG := Lib.hid hlog
  have HRL := Lib.hid hrl
  have hz : ((m : Int) == 0) = false := by simp; omega
  have hz2 : (m == 0) = false := by simp; omega
  have d1 : ((k9 : Int) == 0) = false := by simp; omega
  have d2 : decide ((k9 : Int) < (n : Int)) = true := decide_eq_true (by omega)
  have d3 : decide (k9 < n) = true := decide_eq_true hkn
  have HFRM : Hid (∀ V, Below v1.heap.size v1 V → Calls Try.prog 45 #[.slice A8 m c8] V fun e w' => ∃ A' c', e = .returned (.slice A' k9 c') ∧ Own w' V.heap.size 5 1 A' k9 c' (u8s (frms l)) ∧ Below V.heap.size V w') := fun V hV => by
    have h := framed_any l m A8 c8 V (HRL.out.later hV) hfew (by omega) (by omega)
    rw [hfl] at h
    exact h
  have HREP : Hid (∀ V (A5 : Option Addr) (c5 : Nat), Below v1.heap.size v1 V → Rd V V.heap.size 1 A5 k9 c5 (u8s (frms l)) → Calls Try.prog 23 #[.agg #[.int .i64 s.cap, .slice A n c, .int .i64 s.sf, .int .i64 s.fu, .bool false], .slice A5 k9 c5] V fun e w' => ∃ v, e = .returned (.tuple #[v, .int .i64 e1]) ∧ DocIs (fun b => ok b ∧ b ≠ w.heap.size ∧ b ≠ w.heap.size + 1) s1 V w' v) := fun V A5 c5 hV hrd => by
    have hsz := hV.size
    have hs2 : W.heap.size = w.heap.size + 1 + 1 := by rw [HW.out]; simp
    have hs3 := HRX1.out.free.1
    have h := refreplace_any (ok := fun b => ok b ∧ b ≠ w.heap.size ∧ b ≠ w.heap.size + 1) (fun x hx => ⟨hok x (by omega), by omega, by omega⟩) (HK1.out.later hV) hr hcap hrd (by omega)
    rw [hs1] at h
    unfold docV at h
    rw [HLO.out] at h
    exact h
  clear hs9 hlog hb1 hrl k0 k1 k2 k3 k4 hs1
  have k0 := HPX1.out.c0
  have k1 := HPX1.out.c1
  have k2 := HPX1.out.c2
  have k3 := HPX1.out.c3
  have k4 := HPX1.out.c4
  rw [HLO.out] at k4
  go_wp2_with fail
  go_cut [10] (fun s10 wx => ∃ (A6 : Option Addr) (n6 c6 : Nat), s10 = .int .i64 e1 ∧ Hid (CutM v1 wx w.heap.size s1 A6 n6 c6 (fun b => ok b ∧ b ≠ w.heap.size ∧ b ≠ w.heap.size + 1)))
  case first =>
    go_region_with (first
      | (refine (HFRM.out v1.drew (bel_drewN (Below.refl _ _) 1)).mono ?_
         rintro e w5 ⟨A5, c5, rfl, ho5, hb5⟩
         have HPX5 := Lib.hid (HPX1.out.later ((bel_drewN (Below.refl _ _) 1).trans hb5))
         have k0 := HPX5.out.c0
         have k1 := HPX5.out.c1
         have k2 := HPX5.out.c2
         have k3 := HPX5.out.c3
         have k4 := HPX5.out.c4
         rw [HLO.out] at k4)
      | (refine (HREP.out w5 A5 c5 ((bel_drewN (Below.refl _ _) 1).trans hb5) ho5.rd).mono ?_
         rintro e w6 ⟨v, rfl, A6, n6, c6, rfl, hl6, hr6, hb6⟩
         unfold docV
         have HPX6 := Lib.hid (HPX5.out.later hb6)
         have x0 := HPX6.out.c0
         have x1 := HPX6.out.c1
         have x2 := HPX6.out.c2
         have x3 := HPX6.out.c3
         have x4 := HPX6.out.c4
         have m0 := HPX6.out.free.2 0
         have m1 := HPX6.out.free.2 1
         have m2 := HPX6.out.free.2 2
         have m3 := HPX6.out.free.2 3
         have m4 := HPX6.out.free.2 4))
    all_goals (
      go_wp2_with fail
      go_meet
      obtain ⟨w7, hw7⟩ : ∃ W9, W9 = ((((w6.setCell ⟨w.heap.size, 0, none⟩ (.int .i64 s1.cap)).setCell ⟨w.heap.size, 1, none⟩ (.slice A6 n6 c6)).setCell ⟨w.heap.size, 2, none⟩ (.int .i64 s1.sf)).setCell ⟨w.heap.size, 3, none⟩ (.int .i64 s1.fu)).setCell ⟨w.heap.size, 4, none⟩ (.bool s1.lo) := ⟨_, rfl⟩
      rw [← hw7]
      obtain ⟨hbd, ht7⟩ := HPX6.out.set hw7
      exact ⟨A6, n6, c6, rfl, (Two.of_below (((bel_drewN (Below.refl _ _) 1).trans hb5).trans (hb6.mono ((bel_drewN (Below.refl _ _) 1).trans hb5).size))).trans (Fresh.refl _ _) ht7, hbd, hl6, hr6.two ht7 fun b hb _ => ⟨hb.2.1, by simp⟩⟩)
  case rest =>
    obtain ⟨u, hu⟩ : ∃ W, W = wc := ⟨_, rfl⟩
    subst hu
    obtain ⟨A6, n6, c6, rfl, hcm⟩ := hcut
    have htu := hcm.out.two
    have HPXu := Lib.hid hcm.out.box
    have HLE := Lib.hid hcm.out.len
    have HKu := Lib.hid hcm.out.rk
    have HRXu := Lib.hid (HRX1.out.two htu (by omega) (by simp))
    have HBu : Hid (Below w.heap.size w u) := HB1.out.trans (htu.below (Nat.le_refl _) (fun j hj => by cases hj) HB1.out.size)
    have HLGu : Hid (LogL W.heap.size u (.slice A8 m c8) l) := LogL_two HLG.out htu (by have h2 : W.heap.size = w.heap.size + 1 + 1 := (by rw [HW.out]; simp); omega)
    clear htu hcm HFRM HREP k0 k1 k2 k3 k4
    by_cases h0 : e1 = 0
    · subst h0
      obtain ⟨x, r, rfl⟩ : ∃ x r, l = x :: r := by cases l with | nil => exact absurd rfl hl0 | cons x r => exact ⟨x, r, rfl⟩
      obtain ⟨A8q, c8q, hv8q, hrl⟩ := HLGu.out.rdL
      injection hv8q with e1q e2q e3q
      subst e1q; subst e3q
      clear e2q
      rw [hm] at hrl
      obtain ⟨b8, o8, rfl, hb8, hc8⟩ := hrl.at_ hpos
      obtain ⟨A1, c1, q9, hrd1⟩ := hc8 0 (by simp)
      have hb8w : w.heap.size + 1 + 1 ≤ b8 := by have h1 := LogL_low HLGu.out; have h2 : W.heap.size = w.heap.size + 1 + 1 := (by rw [HW.out]; simp); omega
      have q9 : u.cell? ⟨b8, o8, none⟩ = some (.slice A1 x.length c1) := q9
      obtain ⟨n1, hn1⟩ : ∃ y, y = x.length := ⟨_, rfl⟩
      rw [← hn1] at q9
      have hct := cut_tail (some ⟨b8, o8, none⟩) m c8 (by omega)
      obtain ⟨A9, hA9⟩ : ∃ y, y = (if c8 = 1 then (some ⟨b8, o8, none⟩ : Option Addr) else (some ⟨b8, o8, none⟩ : Option Addr).map (·.add (1 * 1))) := ⟨_, rfl⟩
      rw [← hA9] at hct
      have hmr : (m : Int) - 1 = (r.length : Int) := by rw [List.length_cons] at hm; omega
      obtain ⟨j, hj⟩ : ∃ j, j = r.length := ⟨_, rfl⟩
      rw [← hj] at hmr
      have HJ := Lib.hid hj
      have HN1 := Lib.hid hn1
      have HA9 := Lib.hid hA9
      have HM := Lib.hid hm
      clear hrl hc8 hrd1 hA9 hm hj hn1
      have k0 := HPXu.out.c0
      have k1 := HPXu.out.c1
      have k2 := HPXu.out.c2
      have k3 := HPXu.out.c3
      have k4 := HPXu.out.c4
      have z0 := HRXu.out.c0
      have g0 := HRXu.out.free.2 0
      have z1 := HRXu.out.c1
      have g1 := HRXu.out.free.2 1
      have z2 := HRXu.out.c2
      have g2 := HRXu.out.free.2 2
      have z3 := HRXu.out.c3
      have g3 := HRXu.out.free.2 3
      have z4 := HRXu.out.c4
      have g4 := HRXu.out.free.2 4
      have z5 := HRXu.out.c5
      have g5 := HRXu.out.free.2 5
      go_wp2_with fail
      go_region
      all_goals (
        go_wp2_with fail
        obtain ⟨u9, hu9⟩ : ∃ W9, W9 = ((((((u.setCell ⟨w.heap.size + 1, 0, none⟩ (.int .i64 s1.cap)).setCell ⟨w.heap.size + 1, 1, none⟩ (.slice A6 n6 c6)).setCell ⟨w.heap.size + 1, 2, none⟩ (.int .i64 s1.sf)).setCell ⟨w.heap.size + 1, 3, none⟩ (.int .i64 s1.fu)).setCell ⟨w.heap.size + 1, 4, none⟩ (.bool s1.lo)).setCell ⟨w.heap.size + 1, 5, none⟩ (.int .i64 j)) := ⟨_, rfl⟩
        obtain ⟨⟨l0, l1, l2, l3, l4, l5⟩, htu⟩ := st6 hu9 HRXu.out
        rw [← hu9]
        clear hu9
        obtain ⟨w9, hw9⟩ : ∃ W, W = u9.drew := ⟨_, rfl⟩
        rw [← hw9]
        have hbd : Below u9.heap.size u9 w9 := by rw [hw9]; exact bel_drewN (Below.refl _ _) 1
        have l0 : w9.cell? ⟨w.heap.size + 1, 0, none⟩ = some (.int .i64 s1.cap) := by rw [hw9]; exact l0
        have l1 : w9.cell? ⟨w.heap.size + 1, 1, none⟩ = some (.slice A6 n6 c6) := by rw [hw9]; exact l1
        have l2 : w9.cell? ⟨w.heap.size + 1, 2, none⟩ = some (.int .i64 s1.sf) := by rw [hw9]; exact l2
        have l3 : w9.cell? ⟨w.heap.size + 1, 3, none⟩ = some (.int .i64 s1.fu) := by rw [hw9]; exact l3
        have l4 : w9.cell? ⟨w.heap.size + 1, 4, none⟩ = some (.bool s1.lo) := by rw [hw9]; exact l4
        have l5 : w9.cell? ⟨w.heap.size + 1, 5, none⟩ = some (.int .i64 j) := by rw [hw9]; exact l5
        clear hw9
        have ht9 : Two (w.heap.size + 1) none u w9 := htu.trans (Fresh.refl _ _) (Two.of_below hbd)
        have hk9 := (HKu.out.two ht9 fun b hb _ => ⟨hb.2.2, by simp⟩).mono (ok' := ok) fun b hb _ => hb.1
        have hb9 : Below w.heap.size w w9 := HBu.out.trans (ht9.below hwr (fun j hj => by cases hj) HBu.out.size)
        have hsW : W.heap.size = w.heap.size + 1 + 1 := by rw [HW.out]; simp
        have hlg9 := LogL_two HLGu.out ht9 (by omega)
        have q10 := (ht9.cell (p := ⟨b8, o8, none⟩) hb8 (by dsimp only; omega) (by simp)).trans q9
        obtain ⟨hr9, hl9⟩ := parts_of hlg9 q10 HA9.out
        refine bodyPost_ret (v := .tuple #[.agg #[.int .i64 s1.cap, .slice A6 n6 c6, .int .i64 s1.sf, .int .i64 s1.fu, .bool s1.lo, .int .i64 j], .slice A1 n1 c1, .slice A9 (m - 1) (c8 - 1), .int .i64 0]) (by simp [results, Try.results29, go_sem, l0, l1, l2, l3, l4, l5]) rfl ⟨_, x, r, A1, A9, n1, m - 1, c1, c8 - 1, rfl, rfl, ⟨A6, n6, c6, ?_, HLE.out, hk9, hb9⟩, W.heap.size, by omega, hr9, hl9⟩
        unfold docJ
        rw [← HJ.out])
    · have f9 : (e1 != 0) = true := by simp; exact h0
      have HZ := Lib.hid h0
      clear h0
      have k0 := HPXu.out.c0
      have k1 := HPXu.out.c1
      have k2 := HPXu.out.c2
      have k3 := HPXu.out.c3
      have k4 := HPXu.out.c4
      have z0 := HRXu.out.c0
      have g0 := HRXu.out.free.2 0
      have z1 := HRXu.out.c1
      have g1 := HRXu.out.free.2 1
      have z2 := HRXu.out.c2
      have g2 := HRXu.out.free.2 2
      have z3 := HRXu.out.c3
      have g3 := HRXu.out.free.2 3
      have z4 := HRXu.out.c4
      have g4 := HRXu.out.free.2 4
      have z5 := HRXu.out.c5
      have g5 := HRXu.out.free.2 5
      go_wp2_with fail
      obtain ⟨w9, hw9⟩ : ∃ W9, W9 = ((((((u.setCell ⟨w.heap.size + 1, 0, none⟩ (.int .i64 s1.cap)).setCell ⟨w.heap.size + 1, 1, none⟩ (.slice A6 n6 c6)).setCell ⟨w.heap.size + 1, 2, none⟩ (.int .i64 s1.sf)).setCell ⟨w.heap.size + 1, 3, none⟩ (.int .i64 s1.fu)).setCell ⟨w.heap.size + 1, 4, none⟩ (.bool s1.lo)).setCell ⟨w.heap.size + 1, 5, none⟩ (.int .i64 0)) := ⟨_, rfl⟩
      obtain ⟨⟨l0, l1, l2, l3, l4, l5⟩, ht9⟩ := st6 hw9 HRXu.out
      rw [← hw9]
      clear hw9
      have hk9 := (HKu.out.two ht9 fun b hb _ => ⟨hb.2.2, by simp⟩).mono (ok' := ok) fun b hb _ => hb.1
      have hb9 : Below w.heap.size w w9 := HBu.out.trans (ht9.below hwr (fun j hj => by cases hj) HBu.out.size)
      exact bodyPost_ret (v := .tuple #[.agg #[.int .i64 s1.cap, .slice A6 n6 c6, .int .i64 s1.sf, .int .i64 s1.fu, .bool s1.lo, .int .i64 0], .slice none 0 0, .slice none 0 0, .int .i64 (e1)]) (by simp [results, Try.results29, go_sem, l0, l1, l2, l3, l4, l5]) rfl ⟨fun _ => ⟨_, rfl, _, _, _, rfl, HLE.out, hk9, hb9⟩, fun h => absurd h HZ.out⟩
theorem refopen_new (hok : ∀ x, w.heap.size ≤ x → ok x) (h : Rk w ok A n c s.bs) (hcap : 0 ≤ s.cap ∧ s.cap ≤ 1048576) (hr : -1 ≤ s.fu ∧ s.fu ≤ 9223372036854775807) (hrb : Rd w w.heap.size 1 Ab nb cb (u8s b)) (hb : ¬ 60000 < nb) (hlo : s.lo = false) (hn : n ≤ 70000) {k9 : Nat} (hsc : Scans s.bs [] k9) (s1 : S) (e1 : Int) (hs1 : rep s (frms [b]) = (s1, e1)) :
    Calls Try.prog 29 #[docV s A n c, .slice Ab nb cb] w fun e w' => (e1 ≠ 0 → Fails ok s1 e1 w e w') ∧ (e1 = 0 → Opens ok s1 [b] w e w') := by
  have hl := h.len
  have hlb := len8 hrb
  have f0 : decide ((60000 : Int) < (nb : Int)) = false := decide_eq_false (by omega)
  have f1 : decide (60000 < nb) = false := decide_eq_false hb
  have HR := Lib.hid h
  have HLE := Lib.hid hl
  unfold docV
  obtain ⟨p, r, W, HP, HRR, HW, HPX, HRX, HBX⟩ := boxes_open s A n c w
  have hpr : p ≠ r := by have := HRR.out; omega
  have hwp : w.heap.size ≤ p := by rw [HP.out]; exact Nat.le_refl _
  have hwr : w.heap.size ≤ r := by have h1 := HRR.out; have h2 := HP.out; omega
  have HK0 : Hid (Rk W (fun b => ok b ∧ b ≠ p ∧ b ≠ r) A n c s.bs) := (HR.out.mono fun b hb hl9 => ⟨hb, by have h2 := HP.out; omega, by have h1 := HRR.out; have h2 := HP.out; omega⟩).later HBX.out
  have hpe := HP.out
  subst hpe
  have hre := HRR.out
  subst hre
  clear h
  obtain ⟨m, hm⟩ : ∃ m, (frms [b]).length = m := ⟨_, rfl⟩
  have hmb : m = nb + 8 := by rw [← hm, frms_cons, frms_nil, List.append_nil, frm_len, hlb]
  have hk90 : k9 = 0 := by have h1 := hsc.eq; have h2 := hsc.le; have h3 := congrArg List.length h1; rw [frms_nil, List.length_take] at h3; simp at h3; omega
  subst hk90
  have HSC := Lib.hid hsc
  have HF := Lib.hid (refscan_any s.bs n A c W hl (by omega) (HR.out.rd.later HBX.out))
  have HRB := Lib.hid hrb
  clear hsc hl hrb
  have k0 := HPX.out.c0
  have k1 := HPX.out.c1
  have k2 := HPX.out.c2
  have k3 := HPX.out.c3
  have k4 := HPX.out.c4
  rw [hlo] at k4
  have HLO := Lib.hid hlo
  have HW2 : Hid (W = (w.alloc (.cells #[.int .i64 s.cap, .slice A n c, .int .i64 s.sf, .int .i64 s.fu, .bool false] 33)).alloc (.cells #[.int .i64 0, .slice none 0 0, .int .i64 0, .int .i64 0, .bool false, .int .i64 0] 35)) := by have h := HW.out; rw [hlo] at h; exact h
  rw [hlo]
  clear hlo
  go_enter Try.func29, Try.ntmps29
  go_wp2_with fail
  rw [← HW2.out]
  refine HF.out.mono ?_
  rintro e v1 ⟨l9, k8, v, hs9, rfl, hlog, hb1⟩
  obtain ⟨rfl, rfl⟩ := HSC.out.uniq hs9
  obtain ⟨A8, c8, rfl, hrl⟩ := hlog.rdL
  have hB1 : Below w.heap.size w v1 := HBX.out.trans (hb1.mono HBX.out.size)
  obtain ⟨A2, c2, v2, hrun1, ho2, hb2⟩ := run_new8 v1 (HRB.out.later hB1) (Nat.le_refl _) (by omega)
  obtain ⟨V1, hV1⟩ : ∃ V, V = v2.alloc (.cells #[.slice A2 nb c2] 23) := ⟨_, rfl⟩
  obtain ⟨q8, hq8⟩ : ∃ q, q = v2.heap.size := ⟨_, rfl⟩
  have hbV : Below v2.heap.size v2 V1 := by rw [hV1]; exact (Below.refl _ _).alloc (Nat.le_refl _) _
  have hb12 : Below v1.heap.size v1 V1 := hb2.trans (hbV.mono hb2.size)
  have q9 : V1.cell? ⟨q8, 0, none⟩ = some (.slice A2 nb c2) := by rw [hV1, hq8]; go_simp
  have hqs : q8 < V1.heap.size := World.block_lt_of_cell? V1 _ q9
  have hs2 : W.heap.size = w.heap.size + 1 + 1 := by rw [HW.out]; simp
  have hq2 : w.heap.size + 1 + 1 ≤ q8 := by rw [hq8, ← hs2]; exact Nat.le_trans hb1.size hb2.size
  have HOB : Hid (V1.ownsRow v1.heap.size 5 1 (.slice A2 nb c2) nb (u8s b)) := ownsRow_later ho2.row hbV
  have hv1s : w.heap.size + 1 + 1 ≤ v1.heap.size := by rw [← hs2]; exact hb1.size
  have HRDB : Hid (RdL V1 V1.heap.size (some ⟨q8, 0, none⟩) 1 1 [b]) := ⟨rfl, Nat.le_refl _, fun _ => ⟨q8, 0, rfl, hqs, fun k hk => by
    have hk0 : k = 0 := by simp at hk; omega
    subst hk0
    refine ⟨A2, c2, ?_, ?_⟩
    · show V1.cell? ⟨q8, 0, none⟩ = some (.slice A2 b.length c2)
      rw [hlb]
      exact q9
    · show Rd V1 V1.heap.size 1 A2 b.length c2 (u8s b)
      rw [hlb]
      exact ho2.rd.later hbV⟩⟩
  have HPXV := Lib.hid (HPX.out.later (hb1.trans (hb12.mono hb1.size)))
  have HRXV := Lib.hid (HRX.out.later (hb1.trans (hb12.mono hb1.size)))
  have HBVV : Hid (Below w.heap.size w V1) := hB1.trans (hb12.mono hB1.size)
  have HKV := Lib.hid (HK0.out.later (hb1.trans (hb12.mono hb1.size)))
  have HFRM : Hid (∀ V, Below V1.heap.size V1 V → Calls Try.prog 45 #[.slice (some ⟨q8, 0, none⟩) 1 1] V fun e w' => ∃ A' c', e = .returned (.slice A' m c') ∧ Own w' V.heap.size 5 1 A' m c' (u8s (frms [b])) ∧ Below V.heap.size V w') := fun V hV => by
    have h := framed_any [b] 1 (some ⟨q8, 0, none⟩) 1 V (HRDB.out.later hV) (fun a ha => by simp at ha; rw [ha, hlb]; omega) (by omega) (by omega)
    rw [hm] at h
    exact h
  have HREP : Hid (∀ V (A5 : Option Addr) (c5 : Nat), Below V1.heap.size V1 V → Rd V V.heap.size 1 A5 m c5 (u8s (frms [b])) → Calls Try.prog 23 #[.agg #[.int .i64 s.cap, .slice A n c, .int .i64 s.sf, .int .i64 s.fu, .bool false], .slice A5 m c5] V fun e w' => ∃ v, e = .returned (.tuple #[v, .int .i64 e1]) ∧ DocIs (fun b => ok b ∧ b ≠ w.heap.size ∧ b ≠ w.heap.size + 1) s1 V w' v) := fun V A5 c5 hV hrd => by
    have hsz := hV.size
    have h := refreplace_any (ok := fun b => ok b ∧ b ≠ w.heap.size ∧ b ≠ w.heap.size + 1) (fun x hx => ⟨hok x (by omega), by omega, by omega⟩) (HKV.out.later hV) hr hcap hrd (by omega)
    rw [hs1] at h
    unfold docV at h
    rw [HLO.out] at h
    exact h
  have Hrun1 := Lib.hid hrun1
  have HV1 := Lib.hid hV1
  have HQ8 := Lib.hid hq8
  have hct : ∀ V : World, (Instr.slice 54 (.slice (some ⟨q8, 0, none⟩) 1 1) (some (.int .i64 1)) none none).run Try.prog V = .ok (.slice (some ⟨q8, 0, none⟩) 0 0) V := fun V => by
    have h := cut_tail (some ⟨q8, 0, none⟩) 1 1 (Nat.le_refl _) V
    simpa using h
  clear hs9 hlog hrl hrun1 ho2 hb2 hV1 hq8 hbV hb12 hs1 k0 k1 k2 k3 k4 hm hmb hs2
  have HPX1 := Lib.hid (HPX.out.later hb1)
  have k0 := HPX1.out.c0
  have k1 := HPX1.out.c1
  have k2 := HPX1.out.c2
  have k3 := HPX1.out.c3
  have k4 := HPX1.out.c4
  rw [HLO.out] at k4
  have hv1w : w.heap.size ≤ v1.heap.size := Nat.le_trans HBX.out.size hb1.size
  clear hb1 hB1
  go_wp2_with (at_builtin; refine Lib.wpList_append_run _ rfl _ _ _ _ rfl _ _ rfl rfl _ _ Hrun1.out ?_)
  rw [← HV1.out]
  try rw [← HQ8.out]
  clear k0 k1 k2 k3 k4
  have k0 := HPXV.out.c0
  have k1 := HPXV.out.c1
  have k2 := HPXV.out.c2
  have k3 := HPXV.out.c3
  have k4 := HPXV.out.c4
  rw [HLO.out] at k4
  go_cut [10] (fun s10 wx => ∃ (A6 : Option Addr) (n6 c6 : Nat), s10 = .int .i64 e1 ∧ Hid (CutM V1 wx w.heap.size s1 A6 n6 c6 (fun b => ok b ∧ b ≠ w.heap.size ∧ b ≠ w.heap.size + 1)))
  case first =>
    go_region_with (first
      | (refine (HFRM.out V1.drew (bel_drewN (Below.refl _ _) 1)).mono ?_
         rintro e w5 ⟨A5, c5, rfl, ho5, hb5⟩
         have HPX5 := Lib.hid (HPXV.out.later ((bel_drewN (Below.refl _ _) 1).trans hb5))
         have k0 := HPX5.out.c0
         have k1 := HPX5.out.c1
         have k2 := HPX5.out.c2
         have k3 := HPX5.out.c3
         have k4 := HPX5.out.c4
         rw [HLO.out] at k4)
      | (refine (HREP.out w5 A5 c5 ((bel_drewN (Below.refl _ _) 1).trans hb5) ho5.rd).mono ?_
         rintro e w6 ⟨v, rfl, A6, n6, c6, rfl, hl6, hr6, hb6⟩
         unfold docV
         have HPX6 := Lib.hid (HPX5.out.later hb6)
         have x0 := HPX6.out.c0
         have x1 := HPX6.out.c1
         have x2 := HPX6.out.c2
         have x3 := HPX6.out.c3
         have x4 := HPX6.out.c4
         have m0 := HPX6.out.free.2 0
         have m1 := HPX6.out.free.2 1
         have m2 := HPX6.out.free.2 2
         have m3 := HPX6.out.free.2 3
         have m4 := HPX6.out.free.2 4))
    all_goals (
      go_wp2_with fail
      go_meet
      obtain ⟨w7, hw7⟩ : ∃ W9, W9 = ((((w6.setCell ⟨w.heap.size, 0, none⟩ (.int .i64 s1.cap)).setCell ⟨w.heap.size, 1, none⟩ (.slice A6 n6 c6)).setCell ⟨w.heap.size, 2, none⟩ (.int .i64 s1.sf)).setCell ⟨w.heap.size, 3, none⟩ (.int .i64 s1.fu)).setCell ⟨w.heap.size, 4, none⟩ (.bool s1.lo) := ⟨_, rfl⟩
      rw [← hw7]
      obtain ⟨hbd, ht7⟩ := HPX6.out.set hw7
      exact ⟨A6, n6, c6, rfl, (Two.of_below (((bel_drewN (Below.refl _ _) 1).trans hb5).trans (hb6.mono ((bel_drewN (Below.refl _ _) 1).trans hb5).size))).trans (Fresh.refl _ _) ht7, hbd, hl6, hr6.two ht7 fun b hb _ => ⟨hb.2.1, by simp⟩⟩)
  case rest =>
    obtain ⟨u, hu⟩ : ∃ W, W = wc := ⟨_, rfl⟩
    subst hu
    obtain ⟨A6, n6, c6, rfl, hcm⟩ := hcut
    have htu := hcm.out.two
    have HPXu := Lib.hid hcm.out.box
    have HLE := Lib.hid hcm.out.len
    have HKu := Lib.hid hcm.out.rk
    have HRXu := Lib.hid (HRXV.out.two htu (by omega) (by simp))
    have HBu : Hid (Below w.heap.size w u) := HBVV.out.trans (htu.below (Nat.le_refl _) (fun j hj => by cases hj) HBVV.out.size)
    have HOu : Hid (u.ownsRow v1.heap.size 5 1 (.slice A2 nb c2) nb (u8s b)) := ownsRow_two HOB.out htu fun j hj => ⟨by have := (ownBlock_lt HOB.out hj).1; omega, by simp⟩
    have q9 := (htu.cell (p := ⟨q8, 0, none⟩) hqs (by dsimp only; omega) (by simp)).trans q9
    clear htu hcm HFRM HREP k0 k1 k2 k3 k4
    by_cases h0 : e1 = 0
    · subst h0
      have k0 := HPXu.out.c0
      have k1 := HPXu.out.c1
      have k2 := HPXu.out.c2
      have k3 := HPXu.out.c3
      have k4 := HPXu.out.c4
      have z0 := HRXu.out.c0
      have g0 := HRXu.out.free.2 0
      have z1 := HRXu.out.c1
      have g1 := HRXu.out.free.2 1
      have z2 := HRXu.out.c2
      have g2 := HRXu.out.free.2 2
      have z3 := HRXu.out.c3
      have g3 := HRXu.out.free.2 3
      have z4 := HRXu.out.c4
      have g4 := HRXu.out.free.2 4
      have z5 := HRXu.out.c5
      have g5 := HRXu.out.free.2 5
      go_wp2_with fail
      go_region
      all_goals (
        go_wp2_with fail
        obtain ⟨u9, hu9⟩ : ∃ W9, W9 = ((((((u.setCell ⟨w.heap.size + 1, 0, none⟩ (.int .i64 s1.cap)).setCell ⟨w.heap.size + 1, 1, none⟩ (.slice A6 n6 c6)).setCell ⟨w.heap.size + 1, 2, none⟩ (.int .i64 s1.sf)).setCell ⟨w.heap.size + 1, 3, none⟩ (.int .i64 s1.fu)).setCell ⟨w.heap.size + 1, 4, none⟩ (.bool s1.lo)).setCell ⟨w.heap.size + 1, 5, none⟩ (.int .i64 0)) := ⟨_, rfl⟩
        obtain ⟨⟨l0, l1, l2, l3, l4, l5⟩, htu⟩ := st6 hu9 HRXu.out
        rw [← hu9]
        clear hu9
        obtain ⟨w9, hw9⟩ : ∃ W, W = u9.drew := ⟨_, rfl⟩
        rw [← hw9]
        have hbd : Below u9.heap.size u9 w9 := by rw [hw9]; exact bel_drewN (Below.refl _ _) 1
        have l0 : w9.cell? ⟨w.heap.size + 1, 0, none⟩ = some (.int .i64 s1.cap) := by rw [hw9]; exact l0
        have l1 : w9.cell? ⟨w.heap.size + 1, 1, none⟩ = some (.slice A6 n6 c6) := by rw [hw9]; exact l1
        have l2 : w9.cell? ⟨w.heap.size + 1, 2, none⟩ = some (.int .i64 s1.sf) := by rw [hw9]; exact l2
        have l3 : w9.cell? ⟨w.heap.size + 1, 3, none⟩ = some (.int .i64 s1.fu) := by rw [hw9]; exact l3
        have l4 : w9.cell? ⟨w.heap.size + 1, 4, none⟩ = some (.bool s1.lo) := by rw [hw9]; exact l4
        have l5 : w9.cell? ⟨w.heap.size + 1, 5, none⟩ = some (.int .i64 0) := by rw [hw9]; exact l5
        clear hw9
        have ht9 : Two (w.heap.size + 1) none u w9 := htu.trans (Fresh.refl _ _) (Two.of_below hbd)
        have hk9 := (HKu.out.two ht9 fun b hb _ => ⟨hb.2.2, by simp⟩).mono (ok' := ok) fun b hb _ => hb.1
        have hb9 : Below w.heap.size w w9 := HBu.out.trans (ht9.below hwr (fun j hj => by cases hj) HBu.out.size)
        have ho9 : w9.ownsRow v1.heap.size 5 1 (.slice A2 nb c2) nb (u8s b) := ownsRow_two HOu.out ht9 fun j hj => ⟨by have := (ownBlock_lt HOu.out hj).1; omega, by simp⟩
        exact bodyPost_ret (v := .tuple #[.agg #[.int .i64 s1.cap, .slice A6 n6 c6, .int .i64 s1.sf, .int .i64 s1.fu, .bool s1.lo, .int .i64 0], .slice A2 nb c2, .slice (some ⟨q8, 0, none⟩) 0 0, .int .i64 0]) (by simp [results, Try.results29, go_sem, l0, l1, l2, l3, l4, l5]) rfl ⟨_, b, [], A2, some ⟨q8, 0, none⟩, nb, 0, c2, 0, rfl, rfl, ⟨A6, n6, c6, rfl, HLE.out, hk9, hb9⟩, v1.heap.size, hv1w, Rk.of_own (Own.mk ho9 (u8s_one _)) fun b hb => hb, ⟨rfl, Nat.le_refl _, fun h => absurd h (by omega)⟩⟩)
    · have f9 : (e1 != 0) = true := by simp; exact h0
      have HZ := Lib.hid h0
      clear h0
      have k0 := HPXu.out.c0
      have k1 := HPXu.out.c1
      have k2 := HPXu.out.c2
      have k3 := HPXu.out.c3
      have k4 := HPXu.out.c4
      have z0 := HRXu.out.c0
      have g0 := HRXu.out.free.2 0
      have z1 := HRXu.out.c1
      have g1 := HRXu.out.free.2 1
      have z2 := HRXu.out.c2
      have g2 := HRXu.out.free.2 2
      have z3 := HRXu.out.c3
      have g3 := HRXu.out.free.2 3
      have z4 := HRXu.out.c4
      have g4 := HRXu.out.free.2 4
      have z5 := HRXu.out.c5
      have g5 := HRXu.out.free.2 5
      go_wp2_with fail
      obtain ⟨w9, hw9⟩ : ∃ W9, W9 = ((((((u.setCell ⟨w.heap.size + 1, 0, none⟩ (.int .i64 s1.cap)).setCell ⟨w.heap.size + 1, 1, none⟩ (.slice A6 n6 c6)).setCell ⟨w.heap.size + 1, 2, none⟩ (.int .i64 s1.sf)).setCell ⟨w.heap.size + 1, 3, none⟩ (.int .i64 s1.fu)).setCell ⟨w.heap.size + 1, 4, none⟩ (.bool s1.lo)).setCell ⟨w.heap.size + 1, 5, none⟩ (.int .i64 0)) := ⟨_, rfl⟩
      obtain ⟨⟨l0, l1, l2, l3, l4, l5⟩, ht9⟩ := st6 hw9 HRXu.out
      rw [← hw9]
      clear hw9
      have hk9 := (HKu.out.two ht9 fun b hb _ => ⟨hb.2.2, by simp⟩).mono (ok' := ok) fun b hb _ => hb.1
      have hb9 : Below w.heap.size w w9 := HBu.out.trans (ht9.below hwr (fun j hj => by cases hj) HBu.out.size)
      exact bodyPost_ret (v := .tuple #[.agg #[.int .i64 s1.cap, .slice A6 n6 c6, .int .i64 s1.sf, .int .i64 s1.fu, .bool s1.lo, .int .i64 0], .slice none 0 0, .slice none 0 0, .int .i64 (e1)]) (by simp [results, Try.results29, go_sem, l0, l1, l2, l3, l4, l5]) rfl ⟨fun _ => ⟨_, rfl, _, _, _, rfl, HLE.out, hk9, hb9⟩, fun h => absurd h HZ.out⟩
end
end Jrn
end Go.Proofs.Ytcffbgehopjgpaa
