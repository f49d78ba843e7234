/- Layer 18: the document's journal, by value: Write, Renew. -/
import Derived.Test.YtcffbgehopjgpaaJournalBits
import Derived.Test.YtcffbgehopjgpaaTapeRef
import Derived.Test.YtcffbgehopjgpaaFrameRef
namespace Go.Proofs.Ytcffbgehopjgpaa
open Go.ChangeShapes Go.WideShapes Go.ChangeAt Go.RowKit
namespace Jrn
open By Tpe Frm
set_option maxRecDepth 100000
set_option maxHeartbeats 2000000
def docJ (s : S) (A : Option Addr) (n c : Nat) (N : Int) : Value := .agg #[.int .i64 s.cap, .slice A n c, .int .i64 s.sf, .int .i64 s.fu, .bool s.lo, .int .i64 N]
/-- what the document's call answers: the journal's tape s', with N' records -/
def JouIs (ok : Nat → Prop) (s' : S) (N' : Int) (w w' : World) (v : Value) : Prop := ∃ A n c, v = docJ s' A n c N' ∧ s'.bs.length = n ∧ Rk w' ok A n c s'.bs ∧ Below w.heap.size w w'
/-- box p holds the document's journal -/
structure BoxJ (w : World) (p : Nat) (s : S) (A : Option Addr) (n c : Nat) (N : Int) : Prop where
  c0 : w.cell? ⟨p, 0, none⟩ = some (.int .i64 s.cap)
  c1 : w.cell? ⟨p, 1, none⟩ = some (.slice A n c)
  c2 : w.cell? ⟨p, 2, none⟩ = some (.int .i64 s.sf)
  c3 : w.cell? ⟨p, 3, none⟩ = some (.int .i64 s.fu)
  c4 : w.cell? ⟨p, 4, none⟩ = some (.bool s.lo)
  c5 : w.cell? ⟨p, 5, none⟩ = some (.int .i64 N)
  free : Free p w
section
variable {w w' : World} {p n c a : Nat} {qb : Option Nat} {s s' : S} {A A' : Option Addr} {N : Int} {n' c' : Nat}
theorem BoxJ.later (h : BoxJ w p s A n c N) (hb : Below w.heap.size w w') : BoxJ w' p s A n c N :=
  have hc : ∀ j, w'.cell? ⟨p, j, none⟩ = w.cell? ⟨p, j, none⟩ := fun j => hb.cell (p := ⟨p, j, none⟩) h.free.1
  ⟨(hc 0).trans h.c0, (hc 1).trans h.c1, (hc 2).trans h.c2, (hc 3).trans h.c3, (hc 4).trans h.c4, (hc 5).trans h.c5, h.free.later hb⟩
theorem BoxJ.two (h : BoxJ w p s A n c N) (ht : Two a qb w w') (h1 : p ≠ a) (h2 : some p ≠ qb) : BoxJ w' p s A n c N :=
  have hc : ∀ j, w'.cell? ⟨p, j, none⟩ = w.cell? ⟨p, j, none⟩ := fun j => ht.cell (p := ⟨p, j, none⟩) h.free.1 h1 h2
  ⟨(hc 0).trans h.c0, (hc 1).trans h.c1, (hc 2).trans h.c2, (hc 3).trans h.c3, (hc 4).trans h.c4, (hc 5).trans h.c5, ⟨Nat.lt_of_lt_of_le h.free.1 ht.size, fun j => (ht.frozen (p := ⟨p, j, none⟩) h.free.1 h1 h2).trans (h.free.2 j)⟩⟩
theorem BoxJ.new (hw : w' = w.alloc (.cells #[.int .i64 s.cap, .slice A n c, .int .i64 s.sf, .int .i64 s.fu, .bool s.lo, .int .i64 N] 35)) : BoxJ w' w.heap.size s A n c N := by
  subst hw
  refine ⟨?_, ?_, ?_, ?_, ?_, ?_, by simp, fun j => ?_⟩ <;> go_simp
/-- the tape in the box is written anew -/
theorem BoxJ.set (h : BoxJ w p s A n c N) (hw : w' = ((((w.setCell ⟨p, 0, none⟩ (.int .i64 s'.cap)).setCell ⟨p, 1, none⟩ (.slice A' n' c')).setCell ⟨p, 2, none⟩ (.int .i64 s'.sf)).setCell ⟨p, 3, none⟩ (.int .i64 s'.fu)).setCell ⟨p, 4, none⟩ (.bool s'.lo)) : BoxJ w' p s' A' n' c' N ∧ Two p none w w' := by
  have k0 := h.c0
  have k1 := h.c1
  have k2 := h.c2
  have k3 := h.c3
  have k4 := h.c4
  have k5 := h.c5
  have ht : Two p none w w' := by rw [hw]; exact (((((Two.refl p none w).setCell 0 _).setCell 1 _).setCell 2 _).setCell 3 _).setCell 4 _
  refine ⟨⟨?_, ?_, ?_, ?_, ?_, ?_, Nat.lt_of_lt_of_le h.free.1 ht.size, fun j => ?_⟩, ht⟩
  all_goals first | (have := h.free.2 j; rw [hw]; go_simp; done) | (rw [hw]; go_simp; done)
/-- how many there are is written anew -/
theorem BoxJ.setN (h : BoxJ w p s A n c N) (M : Int) : BoxJ (w.setCell ⟨p, 5, none⟩ (.int .i64 M)) p s A n c M ∧ Two p none w (w.setCell ⟨p, 5, none⟩ (.int .i64 M)) := by
  have k0 := h.c0
  have k1 := h.c1
  have k2 := h.c2
  have k3 := h.c3
  have k4 := h.c4
  have k5 := h.c5
  have ht : Two p none w (w.setCell ⟨p, 5, none⟩ (.int .i64 M)) := (Two.refl p none w).setCell 5 _
  refine ⟨⟨?_, ?_, ?_, ?_, ?_, ?_, Nat.lt_of_lt_of_le h.free.1 ht.size, fun j => ?_⟩, ht⟩
  all_goals first | (have := h.free.2 j; go_simp; done) | (go_simp; done)
end
/-- the six stores into the box of what is answered -/
theorem st6 {w W : World} {r : Nat} {a0 a1 a2 a3 a4 a5 : Value} {s : S} {A : Option Addr} {n c : Nat} {N : Int} (h : W = ((((((w.setCell ⟨r, 0, none⟩ a0).setCell ⟨r, 1, none⟩ a1).setCell ⟨r, 2, none⟩ a2).setCell ⟨r, 3, none⟩ a3).setCell ⟨r, 4, none⟩ a4).setCell ⟨r, 5, none⟩ a5)) (hz : BoxJ w r s A n c N) :
    (W.cell? ⟨r, 0, none⟩ = some a0 ∧ W.cell? ⟨r, 1, none⟩ = some a1 ∧ W.cell? ⟨r, 2, none⟩ = some a2 ∧ W.cell? ⟨r, 3, none⟩ = some a3 ∧ W.cell? ⟨r, 4, none⟩ = some a4 ∧ W.cell? ⟨r, 5, none⟩ = some a5) ∧ Two r none w W := by
  have k0 := hz.c0
  have k1 := hz.c1
  have k2 := hz.c2
  have k3 := hz.c3
  have k4 := hz.c4
  have k5 := hz.c5
  subst h
  refine ⟨⟨?_, ?_, ?_, ?_, ?_, ?_⟩, ((((((Two.refl r none w).setCell 0 _).setCell 1 _).setCell 2 _).setCell 3 _).setCell 4 _).setCell 5 _⟩ <;> go_simp
theorem app_mid {s : S} {x : Rec} (hr : -1 ≤ s.fu ∧ s.fu ≤ 9223372036854775807) : (app s x).1.bs.length ≤ s.bs.length + x.length ∧ -1 ≤ (app s x).1.fu ∧ (app s x).1.fu ≤ 9223372036854775807 := by
  have h1 := less_ok hr
  unfold app
  (repeat' split) <;> (dsimp only; (try rw [List.length_append]); omega)
def zS : S := ⟨0, [], 0, 0, false⟩
/-- the two boxes that a call lays -/
theorem boxes_any (s : S) (A : Option Addr) (n c : Nat) (N : Int) (w : World) : ∃ (p r : Nat) (W : World), Hid (p = w.heap.size) ∧ Hid (r = p + 1) ∧ Hid (W = (w.alloc (.cells #[.int .i64 s.cap, .slice A n c, .int .i64 s.sf, .int .i64 s.fu, .bool s.lo, .int .i64 N] 35)).alloc (.cells #[.int .i64 0, .slice none 0 0, .int .i64 0, .int .i64 0, .bool false, .int .i64 0] 35)) ∧
    Hid (BoxJ W p s A n c N) ∧ Hid (BoxJ W r zS none 0 0 0) ∧ Hid (Below w.heap.size w W) := by
  refine ⟨_, _, _, rfl, rfl, rfl, ?_, ?_, ((Below.refl _ _).alloc (Nat.le_refl _) _).alloc (by simp) _⟩
  · exact (BoxJ.new rfl).later ((Below.refl _ _).alloc (Nat.le_refl _) _)
  · refine ⟨?_, ?_, ?_, ?_, ?_, ?_, by simp, fun j => ?_⟩ <;> (try unfold zS) <;> go_simp
section
variable {w : World} {ok : Nat → Prop} {A Ab : Option Addr} {n c nb cb : Nat} {b : List UInt8} {s : S} {N : Int}
theorem refwrite_long (h : Rk w ok A n c s.bs) (hb : 60000 < nb) :
    Calls Try.prog 15 #[docJ s A n c N, .slice Ab nb cb] w fun e w' => ∃ v, e = .returned (.tuple #[v, .int .i64 3]) ∧ JouIs ok s N w w' v := by
  have hl := h.len
  have HR := Lib.hid h
  unfold docJ
  obtain ⟨p, r, W, HP, HRR, HW, HPX, HRX, HBX⟩ := boxes_any s A n c N w
  have k0 := HPX.out.c0
  have k1 := HPX.out.c1
  have k2 := HPX.out.c2
  have k3 := HPX.out.c3
  have k4 := HPX.out.c4
  have k5 := HPX.out.c5
  clear h
  go_enter Try.func15, Try.ntmps15
  go_wp2_with fail
  rw [← HW.out]
  try rw [← HP.out]
  try rw [← HRR.out]
  refine (refframe_long nb Ab cb W hb).mono ?_
  rintro e v1 ⟨rfl, rfl⟩
  have z0 := HRX.out.c0
  have z1 := HRX.out.c1
  have z2 := HRX.out.c2
  have z3 := HRX.out.c3
  have z4 := HRX.out.c4
  have z5 := HRX.out.c5
  have m0 := HRX.out.free.2 0
  have m1 := HRX.out.free.2 1
  have m2 := HRX.out.free.2 2
  have m3 := HRX.out.free.2 3
  have m4 := HRX.out.free.2 4
  have m5 := HRX.out.free.2 5
  have hwr : w.heap.size ≤ r := by have h1 := HRR.out; have h2 := HP.out; omega
  have HLE := Lib.hid hl
  have HK9 : Hid (Rk W (fun b => ok b ∧ True ∧ b ≠ r) A n c s.bs) := (HR.out.mono fun b hb hl9 => ⟨hb, trivial, by have h1 := HRR.out; have h2 := HP.out; omega⟩).later HBX.out
  go_wp2_with fail
  obtain ⟨w9, hw9⟩ : ∃ W9, W9 = ((((((W.setCell ⟨r, 0, none⟩ (.int .i64 s.cap)).setCell ⟨r, 1, none⟩ (.slice A n c)).setCell ⟨r, 2, none⟩ (.int .i64 s.sf)).setCell ⟨r, 3, none⟩ (.int .i64 s.fu)).setCell ⟨r, 4, none⟩ (.bool s.lo)).setCell ⟨r, 5, none⟩ (.int .i64 N)) := ⟨_, rfl⟩
  obtain ⟨⟨l0, l1, l2, l3, l4, l5⟩, ht9⟩ := st6 hw9 HRX.out
  rw [← hw9]
  clear hw9
  have hk9 := (HK9.out.two ht9 fun b hb _ => ⟨hb.2.2, by simp⟩).mono (ok' := ok) fun b hb _ => hb.1
  have hb9 : Below w.heap.size w w9 := HBX.out.trans (ht9.below hwr (fun j hj => by cases hj) HBX.out.size)
  exact bodyPost_ret (v := .tuple #[.agg #[.int .i64 s.cap, .slice A n c, .int .i64 s.sf, .int .i64 s.fu, .bool s.lo, .int .i64 N], .int .i64 (3)]) (by simp [results, Try.results15, go_sem, l0, l1, l2, l3, l4, l5]) rfl ⟨_, rfl, _, _, _, rfl, HLE.out, hk9, hb9⟩
theorem refwrite_any (hok : ∀ x, w.heap.size ≤ x → ok x) (h : Rk w ok A n c s.bs) (hcap : 0 ≤ s.cap ∧ s.cap ≤ 1048576) (hr : -1 ≤ s.fu ∧ s.fu ≤ 9223372036854775807) (hn : n ≤ 70000) (hb : Rd w w.heap.size 1 Ab nb cb (u8s b)) (hnb : nb ≤ 60000) (hmax : n + nb + 8 ≤ 70000) (hN : 0 ≤ N ∧ N ≤ 1000000) :
    Calls Try.prog 15 #[docJ s A n c N, .slice Ab nb cb] w fun e w' => ∃ v, e = .returned (.tuple #[v, .int .i64 (wrt s b).2]) ∧ JouIs ok (wrt s b).1 (if (wrt s b).2 = 0 then N + 1 else N) w w' v := by
  have hl := h.len
  have hlb := len8 hb
  have HR := Lib.hid h
  have HB := Lib.hid hb
  have HLE0 := Lib.hid hl
  obtain ⟨m, hm⟩ : ∃ m, nb + 8 = m := ⟨_, rfl⟩
  obtain ⟨x, hx⟩ : ∃ x, frm b = x := ⟨_, rfl⟩
  have hxl : x.length = m := by rw [← hx, frm_len, hlb]; exact hm
  have hlong : ¬ (60000 < b.length) := by omega
  obtain ⟨s1, hs1⟩ : ∃ y, y = (app s x).1 := ⟨_, rfl⟩
  obtain ⟨e1, he1⟩ : ∃ y, y = (app s x).2 := ⟨_, rfl⟩
  have hw : wrt s b = if e1 ≠ 0 then (s1, e1) else syn s1 := by unfold wrt; rw [if_neg hlong, hx, he1, hs1]
  have hmid := app_mid (x := x) hr
  rw [← hs1, hl, hxl] at hmid
  rw [hw]
  obtain ⟨s9, hs9⟩ : ∃ y, y = (if e1 ≠ 0 then (s1, e1) else syn s1).1 := ⟨_, rfl⟩
  obtain ⟨e9, he9⟩ : ∃ y, y = (if e1 ≠ 0 then (s1, e1) else syn s1).2 := ⟨_, rfl⟩
  rw [← hs9, ← he9]
  obtain ⟨N9, hN9⟩ : ∃ y, y = if e9 = 0 then N + 1 else N := ⟨_, rfl⟩
  rw [← hN9]
  have hcase : (e1 ≠ 0 ∧ s9 = s1 ∧ e9 = e1) ∨ (e1 = 0 ∧ s9 = (syn s1).1 ∧ e9 = (syn s1).2) := by
    by_cases h0 : e1 = 0
    · have h1 : ¬ (e1 ≠ 0) := fun h => h h0
      rw [if_neg h1] at hs9 he9
      exact .inr ⟨h0, hs9, he9⟩
    · rw [if_pos h0] at hs9 he9
      exact .inl ⟨h0, hs9, he9⟩
  have HN9 := Lib.hid hN9
  clear hs9 he9 hN9
  unfold docJ
  obtain ⟨p, r, W, HP, HRR, HW, HPX, HRX, HBX⟩ := boxes_any s A n c N w
  have hpr : p ≠ r := by have := HRR.out; omega
  have hwp : w.heap.size ≤ p := by rw [HP.out]; exact Nat.le_refl _
  have hwr : w.heap.size ≤ r := by have h1 := HRR.out; have h2 := HP.out; omega
  have HFR := Lib.hid (refframe_any b nb Ab cb W.heap.size W hlb hnb (HB.out.later HBX.out) (Nat.le_refl _))
  unfold RefTup at HFR
  rw [hx, hxl] at HFR
  have k0 := HPX.out.c0
  have k1 := HPX.out.c1
  have k2 := HPX.out.c2
  have k3 := HPX.out.c3
  have k4 := HPX.out.c4
  have k5 := HPX.out.c5
  have HXL := Lib.hid hxl
  clear h hb hl hw hx hxl
  go_enter Try.func15, Try.ntmps15
  go_wp2_with fail
  rw [← HW.out]
  try rw [← HP.out]
  try rw [← HRR.out]
  refine HFR.out.mono ?_
  rintro e v1 ⟨A5, c5, rfl, ho5, hb5⟩
  clear k0 k1 k2 k3 k4 k5
  have HPX1 := Lib.hid (HPX.out.later hb5)
  have HRX1 := Lib.hid (HRX.out.later hb5)
  have HB1 : Hid (Below w.heap.size w v1) := HBX.out.trans (hb5.mono HBX.out.size)
  have HO5 := Lib.hid ho5.rd
  have HK1 : Hid (Rk v1 (fun b => ok b ∧ b ≠ p ∧ b ≠ r) A n c s.bs) := (HR.out.mono fun b hb hl9 => ⟨hb, by have h2 := HP.out; omega, by have h1 := HRR.out; have h2 := HP.out; omega⟩).later HB1.out
  have hok1 : ∀ x, v1.heap.size ≤ x → ok x ∧ x ≠ p ∧ x ≠ r := fun x hx => ⟨hok x (by have := HB1.out.size; omega), by have := HPX1.out.free.1; omega, by have := HRX1.out.free.1; omega⟩
  have HAP := Lib.hid (refapp_any (ok := fun b => ok b ∧ b ≠ p ∧ b ≠ r) hok1 HK1.out hcap hr hn HO5.out (by omega))
  rw [← hs1, ← he1] at HAP
  unfold docV at HAP
  have k0 := HPX1.out.c0
  have k1 := HPX1.out.c1
  have k2 := HPX1.out.c2
  have k3 := HPX1.out.c3
  have k4 := HPX1.out.c4
  have k5 := HPX1.out.c5
  have m0 := HPX1.out.free.2 0
  have m1 := HPX1.out.free.2 1
  have m2 := HPX1.out.free.2 2
  have m3 := HPX1.out.free.2 3
  have m4 := HPX1.out.free.2 4
  have m5 := HPX1.out.free.2 5
  clear ho5 hb5 hok1 hs1 he1
  go_wp2_with fail
  refine HAP.out.mono ?_
  rintro e v2 ⟨v, rfl, A6, n6, c6, rfl, hl6, hr6, hb6⟩
  have HPX2 := Lib.hid (HPX1.out.later hb6)
  have HRX2 := Lib.hid (HRX1.out.later hb6)
  have HB2 : Hid (Below w.heap.size w v2) := HB1.out.trans (hb6.mono HB1.out.size)
  have HK2 := Lib.hid hr6
  have HLE := Lib.hid hl6
  have hn6 : n6 ≤ 70000 := by omega
  clear hl6 hr6 hb6 HAP k0 k1 k2 k3 k4 k5 m0 m1 m2 m3 m4 m5
  unfold docV
  obtain ⟨v3, hv3⟩ : ∃ W9, W9 = ((((v2.setCell ⟨p, 0, none⟩ (.int .i64 s1.cap)).setCell ⟨p, 1, none⟩ (.slice A6 n6 c6)).setCell ⟨p, 2, none⟩ (.int .i64 s1.sf)).setCell ⟨p, 3, none⟩ (.int .i64 s1.fu)).setCell ⟨p, 4, none⟩ (.bool s1.lo) := ⟨_, rfl⟩
  obtain ⟨hpx3, ht3⟩ := HPX2.out.set hv3
  have HPX3 := Lib.hid hpx3
  have HRX3 := Lib.hid (HRX2.out.two ht3 hpr.symm (by simp))
  have HB3 : Hid (Below w.heap.size w v3) := HB2.out.trans (ht3.below hwp (fun j hj => by cases hj) HB2.out.size)
  have HK3 : Hid (Rk v3 (fun b => ok b ∧ b ≠ p ∧ b ≠ r) A6 n6 c6 s1.bs) := HK2.out.two ht3 fun b hb _ => ⟨hb.2.1, by simp⟩
  have HV3 := Lib.hid hv3
  have k0 := HPX2.out.c0
  have k1 := HPX2.out.c1
  have k2 := HPX2.out.c2
  have k3 := HPX2.out.c3
  have k4 := HPX2.out.c4
  have k5 := HPX2.out.c5
  have m0 := HPX2.out.free.2 0
  have m1 := HPX2.out.free.2 1
  have m2 := HPX2.out.free.2 2
  have m3 := HPX2.out.free.2 3
  have m4 := HPX2.out.free.2 4
  have m5 := HPX2.out.free.2 5
  clear hpx3 ht3 hv3
  rcases hcase with ⟨h0, rfl, rfl⟩ | ⟨h0, hs9, he9⟩
  · obtain rfl : N9 = N := by rw [HN9.out, if_neg h0]
    have f0 : (e9 != 0) = true := by simp; exact h0
    have HF0 := Lib.hid h0
    clear h0
    have z0 := HRX2.out.c0
    have q0 := HRX2.out.free.2 0
    have z1 := HRX2.out.c1
    have q1 := HRX2.out.free.2 1
    have z2 := HRX2.out.c2
    have q2 := HRX2.out.free.2 2
    have z3 := HRX2.out.c3
    have q3 := HRX2.out.free.2 3
    have z4 := HRX2.out.c4
    have q4 := HRX2.out.free.2 4
    have z5 := HRX2.out.c5
    have q5 := HRX2.out.free.2 5
    go_wp2_with fail
    obtain ⟨w9, hw9⟩ : ∃ W9, W9 = ((((((v3.setCell ⟨r, 0, none⟩ (.int .i64 s9.cap)).setCell ⟨r, 1, none⟩ (.slice A6 n6 c6)).setCell ⟨r, 2, none⟩ (.int .i64 s9.sf)).setCell ⟨r, 3, none⟩ (.int .i64 s9.fu)).setCell ⟨r, 4, none⟩ (.bool s9.lo)).setCell ⟨r, 5, none⟩ (.int .i64 N9)) := ⟨_, rfl⟩
    obtain ⟨⟨l0, l1, l2, l3, l4, l5⟩, ht9⟩ := st6 hw9 HRX3.out
    rw [HV3.out] at hw9
    rw [← hw9]
    clear hw9
    have hk9 := (HK3.out.two ht9 fun b hb _ => ⟨hb.2.2, by simp⟩).mono (ok' := ok) fun b hb _ => hb.1
    have hb9 : Below w.heap.size w w9 := HB3.out.trans (ht9.below hwr (fun j hj => by cases hj) HB3.out.size)
    exact bodyPost_ret (v := .tuple #[.agg #[.int .i64 s9.cap, .slice A6 n6 c6, .int .i64 s9.sf, .int .i64 s9.fu, .bool s9.lo, .int .i64 N9], .int .i64 (e9)]) (by simp [results, Try.results15, go_sem, l0, l1, l2, l3, l4, l5]) rfl ⟨_, rfl, _, _, _, rfl, HLE.out, hk9, hb9⟩
  · subst h0
    have HSY := Lib.hid (refsync_any HK3.out hmid.2 hn6)
    rw [← hs9, ← he9] at HSY
    unfold docV at HSY
    have HN9b := HN9
    clear hs9 he9 HN9
    go_wp2_with fail
    rw [← HV3.out]
    refine HSY.out.mono ?_
    rintro e v4 ⟨v, rfl, A7, n7, c7, rfl, hl7, hr7, hb7⟩
    have HPX4 := Lib.hid (HPX3.out.later hb7)
    have HRX4 := Lib.hid (HRX3.out.later hb7)
    have HB4 : Hid (Below w.heap.size w v4) := HB3.out.trans (hb7.mono HB3.out.size)
    have HLE1 := HLE
    have HLE := Lib.hid hl7
    have HK4 := Lib.hid hr7
    unfold docV
    obtain ⟨v5, hv5⟩ : ∃ W9, W9 = ((((v4.setCell ⟨p, 0, none⟩ (.int .i64 s9.cap)).setCell ⟨p, 1, none⟩ (.slice A7 n7 c7)).setCell ⟨p, 2, none⟩ (.int .i64 s9.sf)).setCell ⟨p, 3, none⟩ (.int .i64 s9.fu)).setCell ⟨p, 4, none⟩ (.bool s9.lo) := ⟨_, rfl⟩
    obtain ⟨hpx5, ht5⟩ := HPX4.out.set hv5
    have HPX5 := Lib.hid hpx5
    have HRX5 := Lib.hid (HRX4.out.two ht5 hpr.symm (by simp))
    have HB5 : Hid (Below w.heap.size w v5) := HB4.out.trans (ht5.below hwp (fun j hj => by cases hj) HB4.out.size)
    have HK5 : Hid (Rk v5 (fun b => ok b ∧ b ≠ p ∧ b ≠ r) A7 n7 c7 s9.bs) := HK4.out.two ht5 fun b hb _ => ⟨hb.2.1, by simp⟩
    have HV5 := Lib.hid hv5
    clear hl7 hr7 hb7 hpx5 ht5 hv5 k0 k1 k2 k3 k4 k5 m0 m1 m2 m3 m4 m5 HSY
    have k0 := HPX4.out.c0
    have k1 := HPX4.out.c1
    have k2 := HPX4.out.c2
    have k3 := HPX4.out.c3
    have k4 := HPX4.out.c4
    have k5 := HPX4.out.c5
    have m0 := HPX4.out.free.2 0
    have m1 := HPX4.out.free.2 1
    have m2 := HPX4.out.free.2 2
    have m3 := HPX4.out.free.2 3
    have m4 := HPX4.out.free.2 4
    have m5 := HPX4.out.free.2 5
    have z0 := HRX4.out.c0
    have q0 := HRX4.out.free.2 0
    have z1 := HRX4.out.c1
    have q1 := HRX4.out.free.2 1
    have z2 := HRX4.out.c2
    have q2 := HRX4.out.free.2 2
    have z3 := HRX4.out.c3
    have q3 := HRX4.out.free.2 3
    have z4 := HRX4.out.c4
    have q4 := HRX4.out.free.2 4
    have z5 := HRX4.out.c5
    have q5 := HRX4.out.free.2 5
    by_cases h0 : e9 = 0
    · subst h0
      obtain rfl : N9 = N + 1 := by rw [HN9b.out]; simp
      obtain ⟨hpx6, ht6⟩ := HPX5.out.setN (N + 1)
      obtain ⟨v6, hv6⟩ : ∃ W, W = v5.setCell ⟨p, 5, none⟩ (.int .i64 (N + 1)) := ⟨_, rfl⟩
      rw [← hv6] at hpx6 ht6
      have HPX6 := Lib.hid hpx6
      have HRX6 := Lib.hid (HRX5.out.two ht6 hpr.symm (by simp))
      have HB6 : Hid (Below w.heap.size w v6) := HB5.out.trans (ht6.below hwp (fun j hj => by cases hj) HB5.out.size)
      have HK6 : Hid (Rk v6 (fun b => ok b ∧ b ≠ p ∧ b ≠ r) A7 n7 c7 s9.bs) := HK5.out.two ht6 fun b hb _ => ⟨hb.2.1, by simp⟩
      have HV6 := Lib.hid hv6
      clear hpx6 ht6 hv6
      go_wp2_with fail
      obtain ⟨w9, hw9⟩ : ∃ W9, W9 = ((((((v6.setCell ⟨r, 0, none⟩ (.int .i64 s9.cap)).setCell ⟨r, 1, none⟩ (.slice A7 n7 c7)).setCell ⟨r, 2, none⟩ (.int .i64 s9.sf)).setCell ⟨r, 3, none⟩ (.int .i64 s9.fu)).setCell ⟨r, 4, none⟩ (.bool s9.lo)).setCell ⟨r, 5, none⟩ (.int .i64 (N + 1))) := ⟨_, rfl⟩
      obtain ⟨⟨l0, l1, l2, l3, l4, l5⟩, ht9⟩ := st6 hw9 HRX6.out
      rw [HV6.out, HV5.out] at hw9
      rw [← hw9]
      clear hw9
      have hk9 := (HK6.out.two ht9 fun b hb _ => ⟨hb.2.2, by simp⟩).mono (ok' := ok) fun b hb _ => hb.1
      have hb9 : Below w.heap.size w w9 := HB6.out.trans (ht9.below hwr (fun j hj => by cases hj) HB6.out.size)
      exact bodyPost_ret (v := .tuple #[.agg #[.int .i64 s9.cap, .slice A7 n7 c7, .int .i64 s9.sf, .int .i64 s9.fu, .bool s9.lo, .int .i64 (N + 1)], .int .i64 (0)]) (by simp [results, Try.results15, go_sem, l0, l1, l2, l3, l4, l5]) rfl ⟨_, rfl, _, _, _, rfl, HLE.out, hk9, hb9⟩
    · obtain rfl : N9 = N := by rw [HN9b.out, if_neg h0]
      have f0 : (e9 != 0) = true := by simp; exact h0
      clear h0
      go_wp2_with fail
      obtain ⟨w9, hw9⟩ : ∃ W9, W9 = ((((((v5.setCell ⟨r, 0, none⟩ (.int .i64 s9.cap)).setCell ⟨r, 1, none⟩ (.slice A7 n7 c7)).setCell ⟨r, 2, none⟩ (.int .i64 s9.sf)).setCell ⟨r, 3, none⟩ (.int .i64 s9.fu)).setCell ⟨r, 4, none⟩ (.bool s9.lo)).setCell ⟨r, 5, none⟩ (.int .i64 N9)) := ⟨_, rfl⟩
      obtain ⟨⟨l0, l1, l2, l3, l4, l5⟩, ht9⟩ := st6 hw9 HRX5.out
      rw [HV5.out] at hw9
      rw [← hw9]
      clear hw9
      have hk9 := (HK5.out.two ht9 fun b hb _ => ⟨hb.2.2, by simp⟩).mono (ok' := ok) fun b hb _ => hb.1
      have hb9 : Below w.heap.size w w9 := HB5.out.trans (ht9.below hwr (fun j hj => by cases hj) HB5.out.size)
      exact bodyPost_ret (v := .tuple #[.agg #[.int .i64 s9.cap, .slice A7 n7 c7, .int .i64 s9.sf, .int .i64 s9.fu, .bool s9.lo, .int .i64 N9], .int .i64 (e9)]) (by simp [results, Try.results15, go_sem, l0, l1, l2, l3, l4, l5]) rfl ⟨_, rfl, _, _, _, rfl, HLE.out, hk9, hb9⟩
theorem refrenew_long (h : Rk w ok A n c s.bs) (hb : 60000 < nb) :
    Calls Try.prog 16 #[docJ s A n c N, .slice Ab nb cb] w fun e w' => ∃ v, e = .returned (.tuple #[v, .int .i64 3]) ∧ JouIs ok s N w w' v := by
  have hl := h.len
  have HR := Lib.hid h
  unfold docJ
  obtain ⟨p, r, W, HP, HRR, HW, HPX, HRX, HBX⟩ := boxes_any s A n c N w
  have k0 := HPX.out.c0
  have k1 := HPX.out.c1
  have k2 := HPX.out.c2
  have k3 := HPX.out.c3
  have k4 := HPX.out.c4
  have k5 := HPX.out.c5
  clear h
  go_enter Try.func16, Try.ntmps16
  go_wp2_with fail
  rw [← HW.out]
  try rw [← HP.out]
  try rw [← HRR.out]
  refine (refframe_long nb Ab cb W hb).mono ?_
  rintro e v1 ⟨rfl, rfl⟩
  have z0 := HRX.out.c0
  have z1 := HRX.out.c1
  have z2 := HRX.out.c2
  have z3 := HRX.out.c3
  have z4 := HRX.out.c4
  have z5 := HRX.out.c5
  have m0 := HRX.out.free.2 0
  have m1 := HRX.out.free.2 1
  have m2 := HRX.out.free.2 2
  have m3 := HRX.out.free.2 3
  have m4 := HRX.out.free.2 4
  have m5 := HRX.out.free.2 5
  have hwr : w.heap.size ≤ r := by have h1 := HRR.out; have h2 := HP.out; omega
  have HLE := Lib.hid hl
  have HK9 : Hid (Rk W (fun b => ok b ∧ True ∧ b ≠ r) A n c s.bs) := (HR.out.mono fun b hb hl9 => ⟨hb, trivial, by have h1 := HRR.out; have h2 := HP.out; omega⟩).later HBX.out
  go_wp2_with fail
  obtain ⟨w9, hw9⟩ : ∃ W9, W9 = ((((((W.setCell ⟨r, 0, none⟩ (.int .i64 s.cap)).setCell ⟨r, 1, none⟩ (.slice A n c)).setCell ⟨r, 2, none⟩ (.int .i64 s.sf)).setCell ⟨r, 3, none⟩ (.int .i64 s.fu)).setCell ⟨r, 4, none⟩ (.bool s.lo)).setCell ⟨r, 5, none⟩ (.int .i64 N)) := ⟨_, rfl⟩
  obtain ⟨⟨l0, l1, l2, l3, l4, l5⟩, ht9⟩ := st6 hw9 HRX.out
  rw [← hw9]
  clear hw9
  have hk9 := (HK9.out.two ht9 fun b hb _ => ⟨hb.2.2, by simp⟩).mono (ok' := ok) fun b hb _ => hb.1
  have hb9 : Below w.heap.size w w9 := HBX.out.trans (ht9.below hwr (fun j hj => by cases hj) HBX.out.size)
  exact bodyPost_ret (v := .tuple #[.agg #[.int .i64 s.cap, .slice A n c, .int .i64 s.sf, .int .i64 s.fu, .bool s.lo, .int .i64 N], .int .i64 (3)]) (by simp [results, Try.results16, go_sem, l0, l1, l2, l3, l4, l5]) rfl ⟨_, rfl, _, _, _, rfl, HLE.out, hk9, hb9⟩
theorem refrenew_any (hok : ∀ x, w.heap.size ≤ x → ok x) (h : Rk w ok A n c s.bs) (hcap : 0 ≤ s.cap ∧ s.cap ≤ 1048576) (hr : -1 ≤ s.fu ∧ s.fu ≤ 9223372036854775807) (hb : Rd w w.heap.size 1 Ab nb cb (u8s b)) (hnb : nb ≤ 60000) :
    Calls Try.prog 16 #[docJ s A n c N, .slice Ab nb cb] w fun e w' => ∃ v, e = .returned (.tuple #[v, .int .i64 (rnw s b).2]) ∧ JouIs ok (rnw s b).1 (if (rnw s b).2 = 0 then 0 else N) w w' v := by
  have hl := h.len
  have hlb := len8 hb
  have HR := Lib.hid h
  have HB := Lib.hid hb
  have HLE0 := Lib.hid hl
  obtain ⟨m, hm⟩ : ∃ m, nb + 8 = m := ⟨_, rfl⟩
  obtain ⟨x, hx⟩ : ∃ x, frm b = x := ⟨_, rfl⟩
  have hxl : x.length = m := by rw [← hx, frm_len, hlb]; exact hm
  have hlong : ¬ (60000 < b.length) := by omega
  obtain ⟨s1, hs1⟩ : ∃ y, y = (rep s x).1 := ⟨_, rfl⟩
  obtain ⟨e1, he1⟩ : ∃ y, y = (rep s x).2 := ⟨_, rfl⟩
  have hw : rnw s b = (s1, e1) := by unfold rnw; rw [if_neg hlong, hx, he1, hs1]
  rw [hw]
  dsimp only
  obtain ⟨N9, hN9⟩ : ∃ y, y = if e1 = 0 then 0 else N := ⟨_, rfl⟩
  rw [← hN9]
  have HN9 := Lib.hid hN9
  clear hN9
  unfold docJ
  obtain ⟨p, r, W, HP, HRR, HW, HPX, HRX, HBX⟩ := boxes_any s A n c N w
  have hpr : p ≠ r := by have := HRR.out; omega
  have hwp : w.heap.size ≤ p := by rw [HP.out]; exact Nat.le_refl _
  have hwr : w.heap.size ≤ r := by have h1 := HRR.out; have h2 := HP.out; omega
  have HFR := Lib.hid (refframe_any b nb Ab cb W.heap.size W hlb hnb (HB.out.later HBX.out) (Nat.le_refl _))
  unfold RefTup at HFR
  rw [hx, hxl] at HFR
  have k0 := HPX.out.c0
  have k1 := HPX.out.c1
  have k2 := HPX.out.c2
  have k3 := HPX.out.c3
  have k4 := HPX.out.c4
  have k5 := HPX.out.c5
  have HXL := Lib.hid hxl
  clear h hb hl hw hx hxl
  go_enter Try.func16, Try.ntmps16
  go_wp2_with fail
  rw [← HW.out]
  try rw [← HP.out]
  try rw [← HRR.out]
  refine HFR.out.mono ?_
  rintro e v1 ⟨A5, c5, rfl, ho5, hb5⟩
  clear k0 k1 k2 k3 k4 k5
  have HPX1 := Lib.hid (HPX.out.later hb5)
  have HRX1 := Lib.hid (HRX.out.later hb5)
  have HB1 : Hid (Below w.heap.size w v1) := HBX.out.trans (hb5.mono HBX.out.size)
  have HO5 := Lib.hid ho5.rd
  have HK1 : Hid (Rk v1 (fun b => ok b ∧ b ≠ p ∧ b ≠ r) A n c s.bs) := (HR.out.mono fun b hb hl9 => ⟨hb, by have h2 := HP.out; omega, by have h1 := HRR.out; have h2 := HP.out; omega⟩).later HB1.out
  have hok1 : ∀ x, v1.heap.size ≤ x → ok x ∧ x ≠ p ∧ x ≠ r := fun x hx => ⟨hok x (by have := HB1.out.size; omega), by have := HPX1.out.free.1; omega, by have := HRX1.out.free.1; omega⟩
  have HAP := Lib.hid (refreplace_any (ok := fun b => ok b ∧ b ≠ p ∧ b ≠ r) hok1 HK1.out hr hcap HO5.out (by omega))
  rw [← hs1, ← he1] at HAP
  unfold docV at HAP
  have k0 := HPX1.out.c0
  have k1 := HPX1.out.c1
  have k2 := HPX1.out.c2
  have k3 := HPX1.out.c3
  have k4 := HPX1.out.c4
  have k5 := HPX1.out.c5
  have m0 := HPX1.out.free.2 0
  have m1 := HPX1.out.free.2 1
  have m2 := HPX1.out.free.2 2
  have m3 := HPX1.out.free.2 3
  have m4 := HPX1.out.free.2 4
  have m5 := HPX1.out.free.2 5
  clear ho5 hb5 hok1 hs1 he1
  go_wp2_with fail
  refine HAP.out.mono ?_
  rintro e v2 ⟨v, rfl, A6, n6, c6, rfl, hl6, hr6, hb6⟩
  have HPX2 := Lib.hid (HPX1.out.later hb6)
  have HRX2 := Lib.hid (HRX1.out.later hb6)
  have HB2 : Hid (Below w.heap.size w v2) := HB1.out.trans (hb6.mono HB1.out.size)
  have HK2 := Lib.hid hr6
  have HLE := Lib.hid hl6
  clear hl6 hr6 hb6 HAP k0 k1 k2 k3 k4 k5 m0 m1 m2 m3 m4 m5
  unfold docV
  obtain ⟨v3, hv3⟩ : ∃ W9, W9 = ((((v2.setCell ⟨p, 0, none⟩ (.int .i64 s1.cap)).setCell ⟨p, 1, none⟩ (.slice A6 n6 c6)).setCell ⟨p, 2, none⟩ (.int .i64 s1.sf)).setCell ⟨p, 3, none⟩ (.int .i64 s1.fu)).setCell ⟨p, 4, none⟩ (.bool s1.lo) := ⟨_, rfl⟩
  obtain ⟨hpx3, ht3⟩ := HPX2.out.set hv3
  have HPX3 := Lib.hid hpx3
  have HRX3 := Lib.hid (HRX2.out.two ht3 hpr.symm (by simp))
  have HB3 : Hid (Below w.heap.size w v3) := HB2.out.trans (ht3.below hwp (fun j hj => by cases hj) HB2.out.size)
  have HK3 : Hid (Rk v3 (fun b => ok b ∧ b ≠ p ∧ b ≠ r) A6 n6 c6 s1.bs) := HK2.out.two ht3 fun b hb _ => ⟨hb.2.1, by simp⟩
  have HV3 := Lib.hid hv3
  have k0 := HPX2.out.c0
  have k1 := HPX2.out.c1
  have k2 := HPX2.out.c2
  have k3 := HPX2.out.c3
  have k4 := HPX2.out.c4
  have k5 := HPX2.out.c5
  have m0 := HPX2.out.free.2 0
  have m1 := HPX2.out.free.2 1
  have m2 := HPX2.out.free.2 2
  have m3 := HPX2.out.free.2 3
  have m4 := HPX2.out.free.2 4
  have m5 := HPX2.out.free.2 5
  clear hpx3 ht3 hv3
  by_cases h0 : e1 = 0
  · subst h0
    obtain rfl : N9 = 0 := by rw [HN9.out]; simp
    obtain ⟨hpx6, ht6⟩ := HPX3.out.setN 0
    obtain ⟨v6, hv6⟩ : ∃ W, W = v3.setCell ⟨p, 5, none⟩ (.int .i64 0) := ⟨_, rfl⟩
    rw [← hv6] at hpx6 ht6
    have HPX6 := Lib.hid hpx6
    have HRX6 := Lib.hid (HRX3.out.two ht6 hpr.symm (by simp))
    have HB6 : Hid (Below w.heap.size w v6) := HB3.out.trans (ht6.below hwp (fun j hj => by cases hj) HB3.out.size)
    have HK6 : Hid (Rk v6 (fun b => ok b ∧ b ≠ p ∧ b ≠ r) A6 n6 c6 s1.bs) := HK3.out.two ht6 fun b hb _ => ⟨hb.2.1, by simp⟩
    have HV6 := Lib.hid hv6
    clear hpx6 ht6 hv6
    have z0 := HRX2.out.c0
    have q0 := HRX2.out.free.2 0
    have z1 := HRX2.out.c1
    have q1 := HRX2.out.free.2 1
    have z2 := HRX2.out.c2
    have q2 := HRX2.out.free.2 2
    have z3 := HRX2.out.c3
    have q3 := HRX2.out.free.2 3
    have z4 := HRX2.out.c4
    have q4 := HRX2.out.free.2 4
    have z5 := HRX2.out.c5
    have q5 := HRX2.out.free.2 5
    go_wp2_with fail
    obtain ⟨w9, hw9⟩ : ∃ W9, W9 = ((((((v6.setCell ⟨r, 0, none⟩ (.int .i64 s1.cap)).setCell ⟨r, 1, none⟩ (.slice A6 n6 c6)).setCell ⟨r, 2, none⟩ (.int .i64 s1.sf)).setCell ⟨r, 3, none⟩ (.int .i64 s1.fu)).setCell ⟨r, 4, none⟩ (.bool s1.lo)).setCell ⟨r, 5, none⟩ (.int .i64 0)) := ⟨_, rfl⟩
    obtain ⟨⟨l0, l1, l2, l3, l4, l5⟩, ht9⟩ := st6 hw9 HRX6.out
    rw [HV6.out, HV3.out] at hw9
    rw [← hw9]
    clear hw9
    have hk9 := (HK6.out.two ht9 fun b hb _ => ⟨hb.2.2, by simp⟩).mono (ok' := ok) fun b hb _ => hb.1
    have hb9 : Below w.heap.size w w9 := HB6.out.trans (ht9.below hwr (fun j hj => by cases hj) HB6.out.size)
    exact bodyPost_ret (v := .tuple #[.agg #[.int .i64 s1.cap, .slice A6 n6 c6, .int .i64 s1.sf, .int .i64 s1.fu, .bool s1.lo, .int .i64 0], .int .i64 (0)]) (by simp [results, Try.results16, go_sem, l0, l1, l2, l3, l4, l5]) rfl ⟨_, rfl, _, _, _, rfl, HLE.out, hk9, hb9⟩
  · obtain rfl : N9 = N := by rw [HN9.out, if_neg h0]
    have f0 : (e1 == 0) = false := by simp; exact h0
    clear h0
    have z0 := HRX2.out.c0
    have q0 := HRX2.out.free.2 0
    have z1 := HRX2.out.c1
    have q1 := HRX2.out.free.2 1
    have z2 := HRX2.out.c2
    have q2 := HRX2.out.free.2 2
    have z3 := HRX2.out.c3
    have q3 := HRX2.out.free.2 3
    have z4 := HRX2.out.c4
    have q4 := HRX2.out.free.2 4
    have z5 := HRX2.out.c5
    have q5 := HRX2.out.free.2 5
    go_wp2_with fail
    obtain ⟨w9, hw9⟩ : ∃ W9, W9 = ((((((v3.setCell ⟨r, 0, none⟩ (.int .i64 s1.cap)).setCell ⟨r, 1, none⟩ (.slice A6 n6 c6)).setCell ⟨r, 2, none⟩ (.int .i64 s1.sf)).setCell ⟨r, 3, none⟩ (.int .i64 s1.fu)).setCell ⟨r, 4, none⟩ (.bool s1.lo)).setCell ⟨r, 5, none⟩ (.int .i64 N9)) := ⟨_, rfl⟩
    obtain ⟨⟨l0, l1, l2, l3, l4, l5⟩, ht9⟩ := st6 hw9 HRX3.out
    rw [HV3.out] at hw9
    rw [← hw9]
    clear hw9
    have hk9 := (HK3.out.two ht9 fun b hb _ => ⟨hb.2.2, by simp⟩).mono (ok' := ok) fun b hb _ => hb.1
    have hb9 : Below w.heap.size w w9 := HB3.out.trans (ht9.below hwr (fun j hj => by cases hj) HB3.out.size)
    exact bodyPost_ret (v := .tuple #[.agg #[.int .i64 s1.cap, .slice A6 n6 c6, .int .i64 s1.sf, .int .i64 s1.fu, .bool s1.lo, .int .i64 N9], .int .i64 (e1)]) (by simp [results, Try.results16, go_sem, l0, l1, l2, l3, l4, l5]) rfl ⟨_, rfl, _, _, _, rfl, HLE.out, hk9, hb9⟩
end
end Jrn
end Go.Proofs.Ytcffbgehopjgpaa
