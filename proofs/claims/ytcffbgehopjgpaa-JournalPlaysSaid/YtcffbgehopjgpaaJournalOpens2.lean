/- Layer 18: the law's 'opens': both Opens, and all that they answer alike. -/
import Derived.Test.YtcffbgehopjgpaaJournalOpens
import Derived.Test.YtcffbgehopjgpaaTk
import Derived.Deep.DeepCutAuto
import Derived.RegionTactic
namespace Go.Proofs.Ytcffbgehopjgpaa
open Go.ChangeShapes Go.WideShapes Go.ChangeAt Go.RowKit
namespace Jrn
open By Tpe Frm
set_option maxRecDepth 100000
set_option maxHeartbeats 4000000
theorem two_new {w V X : World} {g r : Nat} {ob : Option Nat} (h : Two g ob w V) (h2 : Two r none V X) (hr : w.heap.size ≤ r) : Two g ob w X :=
  ⟨h2.os.trans h.os, h2.tape.trans h.tape, h2.output.trans h.output, Nat.le_trans h.size h2.size, fun k hk h3 h4 => (h2.block k (Nat.lt_of_lt_of_le hk h.size) (by omega) (by simp)).trans (h.block k hk h3 h4)⟩
theorem fresh_low {w W : World} {ob ob' : Option Nat} (h : Fresh ob ob' W) (hs : w.heap.size ≤ W.heap.size) : Fresh ob ob' w := by
  rcases h with rfl | rfl | ⟨k, rfl, hk⟩
  · exact .inl rfl
  · exact .inr (.inl rfl)
  · exact .inr (.inr ⟨k, rfl, Nat.le_trans hs hk⟩)
section
variable {w : World} {lo g : Nat} {ob : Option Nat} {P : Nat → Prop} {A Ab : Option Addr} {n c nb cb : Nat} {b : List UInt8} {s : S}
theorem opens_has (hT : Tp w lo g ob s) (hw : lo ≤ w.heap.size) (_ : Ok s 65535) (hk : Rk w (fun b => b ≠ g ∧ some b ≠ ob ∧ P b) A n c s.bs) (hP : ∀ b, w.heap.size ≤ b → P b) (hb : Rd w lo 1 Ab nb cb (u8s b)) (s1 : S) (e1 : Int) (he : e1 = 0) (l : List Rec) (hl9 : l.length ≤ 10000) (hg1 : Ok s1 65535) (hg2 : s1.cap = s.cap) (hg4 : s.bs.length ≤ s.cap → s1.bs.length ≤ s.cap)
    (HP : ∀ W, Below w.heap.size w W → Calls Try.prog 26 #[.pointer (some ⟨g, 0, none⟩), .slice Ab nb cb] W (Opn lo g ob s1 e1 l W))
    (HD : ∀ (W : World) (ok : Nat → Prop), Below lo w W → (∀ x, W.heap.size ≤ x → ok x) → Rk W ok A n c s.bs → Calls Try.prog 29 #[docV s A n c, .slice Ab nb cb] W fun e w' => (e1 ≠ 0 → Fails ok s1 e1 W e w') ∧ (e1 = 0 → Opens ok s1 l W e w')) :
    Calls Try.prog 10 #[.pointer (some ⟨g, 0, none⟩), docV s A n c, .slice Ab nb cb] w (OpensIs lo g ob P s w) := by
  have hlg := hT.lo_
  have hobl := hT.obl
  have HT := Lib.hid hT
  have HK := Lib.hid hk
  have HB := Lib.hid hb
  have HPP := Lib.hid hP
  have HGD := Lib.hid hg1
  have HCP := Lib.hid hg2
  have HFC := Lib.hid hg4
  obtain ⟨p4, r7, W, HP4, HR7, HW, HPX, HRX, HBX⟩ := boxes_open s A n c w
  have HPO := Lib.hid (HP W HBX.out)
  have HDD := Lib.hid HD
  have hpe := HP4.out
  subst hpe
  have hre := HR7.out
  subst hre
  have hWs : W.heap.size = w.heap.size + 2 := by rw [HW.out]; simp
  clear hT hk hb hP HP HD hg1 hg2 hg4
  unfold docV at HDD ⊢
  have k0 := HPX.out.c0
  have k1 := HPX.out.c1
  have k2 := HPX.out.c2
  have k3 := HPX.out.c3
  have k4 := HPX.out.c4
  go_enter Try.func10, Try.ntmps10
  go_wp2_with fail
  rw [← HW.out]
  refine HPO.out.mono ?_
  subst he
  rintro e v2 ⟨-, h0⟩
  obtain ⟨p, x, r, A1, A2, n1, n2, c1, c2, ob2, rfl, rfl, h⟩ := h0 rfl
  clear h0
  have HO := Lib.hid h
  have hd : Did W lo g ob s1 v2 := ⟨ob2, h.tp, h.two, h.fresh⟩
  have hpg := h.ne
  have hpo := h.neo
  have hpw := h.low
  have hjf := h.jn.free.1
  have HFL := Lib.hid h.fresh
  have HTW := Lib.hid h.two
  have HT2 := Lib.hid h.tp
  clear h
  have HK2 : Hid (Rk v2 (fun b => b ≠ g ∧ some b ≠ ob2 ∧ (P b ∧ b ≠ p ∧ b ≠ w.heap.size + 1)) A n c s.bs) := Rk.did ((HK.out.mono (ok' := (fun b => b ≠ g ∧ some b ≠ ob ∧ (P b ∧ b ≠ p ∧ b ≠ w.heap.size + 1))) fun b hb hl => ⟨hb.1, hb.2.1, hb.2.2, by omega, by omega⟩).later HBX.out) HTW.out HFL.out
  have hszW := HTW.out.size
  have HPX2 := Lib.hid (HPX.out.two HTW.out (by omega) (by intro e; have := (hobl _ e.symm).2.1; omega))
  have HRX2 := Lib.hid (HRX.out.two HTW.out (by omega) (by intro e; have := (hobl _ e.symm).2.1; omega))
  have HBlo : Hid (Below lo w v2) := (HBX.out.mono hw).trans (HTW.out.below hlg.1 (fun b hb => (hobl b hb).1) (by omega))
  have hfr := HT2.out.lo_
  have HD2 := Lib.hid (HDD.out v2 (fun b => b ≠ g ∧ some b ≠ ob2 ∧ (P b ∧ b ≠ p ∧ b ≠ w.heap.size + 1)) HBlo.out (fun x hx => ⟨(HT2.out.free hx).1, (HT2.out.free hx).2, HPP.out x (by omega), by omega, by omega⟩) HK2.out)
  clear HPO HDD k0 k1 k2 k3 k4
  have k0 := HPX2.out.c0
  have k1 := HPX2.out.c1
  have k2 := HPX2.out.c2
  have k3 := HPX2.out.c3
  have k4 := HPX2.out.c4
  go_wp2_with fail
  refine HD2.out.mono ?_
  rintro e v3 ⟨-, h0⟩
  obtain ⟨v, x8, r8, A3, A4, n3, n4, c3, c4, hl8, rfl, ⟨A5, n5, c5, rfl, hlen, hrk, hb3⟩, base8, hb8, hrd3, hrl3⟩ := h0 (by simp)
  clear h0
  injection hl8 with h1 h2
  subst h1; subst h2
  unfold docJ
  obtain ⟨V, hV⟩ : ∃ V, V = v3.alloc (.cells #[.int .i64 s1.cap, .slice A5 n5 c5, .int .i64 s1.sf, .int .i64 s1.fu, .bool s1.lo, .int .i64 (r.length : Int)] 35) := ⟨_, rfl⟩
  have HV9 := Lib.hid hV
  obtain ⟨q, hq⟩ : ∃ q, q = v3.heap.size := ⟨_, rfl⟩
  have hbV : Below v3.heap.size v3 V := by rw [hV]; exact (Below.refl _ _).alloc (Nat.le_refl _) _
  have hb3V : Below v2.heap.size v2 V := hb3.trans (hbV.mono hb3.size)
  have HQX : Hid (BoxJ V q s1 A5 n5 c5 (r.length : Int)) := by unfold Hid; rw [hq]; exact BoxJ.new hV
  have HRX3 := Lib.hid (HRX2.out.later hb3V)
  have HT3 := Lib.hid (HT2.out.later hb3V)
  have HK3 := Lib.hid (hrk.later hbV)
  have HLEN := Lib.hid hlen
  have HTWV : Hid (Two g ob W V) := HTW.out.trans HFL.out (Two.of_below hb3V)
  have HBV := Lib.hid hb3V
  have hqr : q ≠ w.heap.size + 1 := by have := HRX2.out.free.1; have := hb3.size; omega
  have hqs : V.heap.size = q + 1 := by rw [hV, hq]; simp
  have hr7g : w.heap.size + 1 ≠ g := by omega
  have hr7o : ∀ j, ob2 = some j → j ≠ w.heap.size + 1 := fun j hj e => by
    have hf := HFL.out
    rcases hf with rfl | rfl | ⟨k, rfl, hk⟩
    · cases hj
    · have := (hobl j hj).2.1; omega
    · injection hj with hj; omega
  have HJ3 := Lib.hid (HO.out.jn.later hb3V)
  have HK1 := Lib.hid (HO.out.rk.later hb3V)
  have HL1 := Lib.hid (HO.out.rkL.later hb3V)
  have HK8 := Lib.hid (hrd3.later hbV)
  have HL8 := Lib.hid (hrl3.later hbV)
  have hnn1 := HO.out.len
  have hnn3 := hrd3.len
  have hn2 := HO.out.rkL.len
  have hn4 := hrl3.len
  obtain rfl : n3 = n1 := by rw [← hnn3]; exact hnn1
  obtain rfl : n4 = n2 := by rw [← hn4]; exact hn2
  have hr10 : n4 ≤ 10000 := by rw [List.length_cons] at hl9; omega
  have hrn : (r.length : Int) = (n4 : Int) := by rw [hn4]
  rw [hrn] at HQX HV9
  obtain ⟨tx, htx⟩ : ∃ t, t = strOf x := ⟨_, rfl⟩
  have HS1 : Hid (∀ X, Two (w.heap.size + 1) none V X → (convert 23 9 (.slice A1 n3 c1)).run Try.prog X = .ok (.string tx) X) := fun X hX => by rw [htx]; exact str8 ((HK1.out.two hX fun b hb _ => ⟨by omega, by simp⟩).rd)
  have HS2 : Hid (∀ X, Two (w.heap.size + 1) none V X → (convert 23 9 (.slice A3 n3 c3)).run Try.prog X = .ok (.string tx) X) := fun X hX => by rw [htx]; exact str8 ((HK8.out.two hX fun b hb _ => ⟨by omega, by simp⟩).rd)
  have HAL : Hid (∀ X, Two (w.heap.size + 1) none V X → Calls Try.prog 27 #[.slice A2 n4 c2, .slice A4 n4 c4] X fun e X' => e = .returned (.bool true) ∧ Below X.heap.size X X') := fun X hX => alike_same r n4 A2 A4 c2 c4 X (HL1.out.two hX (by omega) (by simp)).rdL (HL8.out.two hX (by omega) (by simp)).rdL (by omega)
  have HJL : Hid (∀ X, Two (w.heap.size + 1) none V X → Calls Try.prog 14 #[.pointer (some ⟨p, 0, none⟩)] X fun e X' => e = .returned (.int .i64 n4) ∧ X = X') := fun X hX => by rw [← hrn]; exact jlen_any (HJ3.out.two hX (by omega) (by simp))
  have HON : Hid (∀ X, Two (w.heap.size + 1) none V X → Calls Try.prog 21 #[.pointer (some ⟨g, 0, none⟩), .agg #[.int .i64 s1.cap, .slice A5 n5 c5, .int .i64 s1.sf, .int .i64 s1.fu, .bool s1.lo]] X fun e X' => e = .returned (.bool true) ∧ Below X.heap.size X X') := fun X hX => by
    obtain ⟨A6, n6, c6, fb, ah, hta, _⟩ := HT3.out.two hX (by omega) (by simp) fun j hj => ⟨hr7o j hj, by simp⟩
    exact on_any hta (HGD.out.mono (by omega)) HLEN.out (HK3.out.two hX fun b hb _ => ⟨by exact hb.2.2.2.2, by simp⟩).rd
  have HKX : Hid (∀ X, Two (w.heap.size + 1) none V X → BoxJ X q s1 A5 n5 c5 (n4 : Int)) := fun X hX => HQX.out.two hX hqr (by simp)
  have HFIN : Hid (∀ X, Two (w.heap.size + 1) none V X → OpensIs lo g ob P s w (.returned (.tuple #[.pointer (some ⟨p, 0, none⟩), docJ s1 A5 n5 c5 (n4 : Int), .bool true])) X) := fun X hX => by
    refine ⟨s1, some p, A5, n5, c5, (n4 : Int), ob2, rfl, HGD.out, HCP.out, HFC.out, HT3.out.two hX (by omega) (by simp) fun j hj => ⟨hr7o j hj, by simp⟩, two_new ((Two.of_below HBX.out).trans (Fresh.refl _ _) HTWV.out) hX (by omega), fresh_low HFL.out (by omega), HLEN.out, (HK3.out.two hX fun b hb _ => ⟨by exact hb.2.2.2.2, by simp⟩).mono fun b hb _ => ⟨hb.1, hb.2.1, (by intro e; injection e with e; exact hb.2.2.2.1 e), hb.2.2.1⟩, by omega, (fun h => by cases h), fun p2 h2 => ?_⟩
    injection h2 with h2
    subst h2
    refine ⟨?_, by omega, hpg, hpo⟩
    rw [← hrn]
    exact HJ3.out.two hX (by omega) (by simp)
  have HQ := Lib.hid hq
  have HSX : Hid (∀ X, Two (w.heap.size + 1) none V X → (fun W => (convert 23 9 (.slice A1 n3 c1)).run Try.prog W = .ok (.string tx) W ∧ (convert 23 9 (.slice A3 n3 c3)).run Try.prog W = .ok (.string tx) W ∧ W.cell? ⟨q, 0, none⟩ = some (.int .i64 s1.cap) ∧ W.cell? ⟨q, 1, none⟩ = some (.slice A5 n5 c5) ∧ W.cell? ⟨q, 2, none⟩ = some (.int .i64 s1.sf) ∧ W.cell? ⟨q, 3, none⟩ = some (.int .i64 s1.fu) ∧ W.cell? ⟨q, 4, none⟩ = some (.bool s1.lo) ∧ W.cell? ⟨q, 5, none⟩ = some (.int .i64 (n4 : Int))) X) := fun X hX => ⟨HS1.out X hX, HS2.out X hX, (HKX.out X hX).c0, (HKX.out X hX).c1, (HKX.out X hX).c2, (HKX.out X hX).c3, (HKX.out X hX).c4, (HKX.out X hX).c5⟩
  clear hV hq hbV hb3V HD2 k0 k1 k2 k3 k4 HS1 HS2
  go_wp2_with fail
  rw [← HV9.out]
  try rw [← HQ.out]
  refine wp_region_held_drew (S := fun W => (convert 23 9 (.slice A1 n3 c1)).run Try.prog W = .ok (.string tx) W ∧ (convert 23 9 (.slice A3 n3 c3)).run Try.prog W = .ok (.string tx) W ∧ W.cell? ⟨q, 0, none⟩ = some (.int .i64 s1.cap) ∧ W.cell? ⟨q, 1, none⟩ = some (.slice A5 n5 c5) ∧ W.cell? ⟨q, 2, none⟩ = some (.int .i64 s1.sf) ∧ W.cell? ⟨q, 3, none⟩ = some (.int .i64 s1.fu) ∧ W.cell? ⟨q, 4, none⟩ = some (.bool s1.lo) ∧ W.cell? ⟨q, 5, none⟩ = some (.int .i64 (n4 : Int))) (by kernel_rfl) (by exact HSX.out _ (Two.of_below (bel_drewN (Below.refl _ _) 1))) (fun hHeld => ?_)
  obtain ⟨x0, hx0⟩ : ∃ v, v = V.drew := ⟨_, rfl⟩
  have HT0 : Hid (Two (w.heap.size + 1) none V x0) := by unfold Hid; rw [hx0]; exact Two.of_below (bel_drewN (Below.refl _ _) 1)
  have HZ0 : Hid (BoxJ x0 (w.heap.size + 1) zS none 0 0 0) := by unfold Hid; rw [hx0]; exact HRX3.out.later (bel_drewN (Below.refl _ _) 1)
  rw [← hx0] at hHeld ⊢
  clear hx0
  refine Tk 0 33 ?_
  refine Tk 1 34 ?_
  refine Tk 2 35 ?_
  refine Tk 3 36 ?_
  refine Tk 4 37 ?_
  refine Tk 5 38 ?_
  refine Tk 6 39 ?_
  refine Tk 7 40 ?_
  refine Tk 8 41 ?_
  refine Tk 9 42 ?_
  refine Tk 10 43 ?_
  refine Tk 11 44 ?_
  refine Tk 12 45 ?_
  refine Tk 13 46 ?_
  refine Tk 14 47 ?_
  refine wpAnyH_ready (rs := [15]) (by kernel_rfl) (by simp) ?_
  refine AllReadyH.cons (o := ⟨some 48, _, _, _, _, _⟩) rfl (fun K hK => ?_) AllReadyH.nil
  go_simp
  (go_at_call 27; refine (HAL.out x0 HT0.out).mono ?_)
  rintro e x1 ⟨rfl, hb⟩
  have HT1 : Hid (Two (w.heap.size + 1) none V x1) := HT0.out.trans (Fresh.refl _ _) (Two.of_below hb)
  have HZ1 := Lib.hid (HZ0.out.later hb)
  clear hb
  refine hK.out _ _ ?_ (fun hHeld2 => ?_)
  · exact HSX.out _ HT1.out
  clear hK K hHeld
  have hHeld := hHeld2
  clear hHeld2
  try simp only [Act.put, List.setIfInBounds_toArray, List.set_cons_zero, List.set_cons_succ]
  refine Tk 16 49 ?_
  refine Tk 17 50 ?_
  refine Tk 18 51 ?_
  refine Tk 19 52 ?_
  refine Tk 20 53 ?_
  refine Tk 21 54 ?_
  refine Tk 22 55 ?_
  refine Tk 23 56 ?_
  refine Tk 24 57 ?_
  refine Tk 25 58 ?_
  refine Tk 27 60 ?_
  refine Tk 28 61 ?_
  refine wpAnyH_ready (rs := [26]) (by kernel_rfl) (by simp) ?_
  refine AllReadyH.cons (o := ⟨some 59, _, _, _, _, _⟩) rfl (fun K hK => ?_) AllReadyH.nil
  go_simp
  (go_at_call 14; refine (HJL.out x1 HT1.out).mono ?_)
  rintro e x9 ⟨rfl, rfl⟩
  refine hK.out _ _ ?_ (fun hHeld2 => ?_)
  · exact hHeld
  clear hK K hHeld
  have hHeld := hHeld2
  clear hHeld2
  try simp only [Act.put, List.setIfInBounds_toArray, List.set_cons_zero, List.set_cons_succ]
  refine Tk 29 62 ?_
  refine Tk 30 63 ?_
  refine Tk 31 64 ?_
  refine Tk 32 65 ?_
  refine Tk 33 66 ?_
  refine Tk 34 67 ?_
  refine wpAnyH_ready (rs := [35]) (by kernel_rfl) (by simp) ?_
  refine AllReadyH.cons (o := ⟨some 68, _, _, _, _, _⟩) rfl (fun K hK => ?_) AllReadyH.nil
  go_simp
  (go_at_call 21; refine (HON.out x1 HT1.out).mono ?_)
  rintro e x2 ⟨rfl, hb⟩
  have HT2 : Hid (Two (w.heap.size + 1) none V x2) := HT1.out.trans (Fresh.refl _ _) (Two.of_below hb)
  have HZ2 := Lib.hid (HZ1.out.later hb)
  clear hb
  have z0 := HZ2.out.c0
  have m0 := HZ2.out.free.2 0
  have z1 := HZ2.out.c1
  have m1 := HZ2.out.free.2 1
  have z2 := HZ2.out.c2
  have m2 := HZ2.out.free.2 2
  have z3 := HZ2.out.c3
  have m3 := HZ2.out.free.2 3
  have z4 := HZ2.out.c4
  have m4 := HZ2.out.free.2 4
  have z5 := HZ2.out.c5
  have m5 := HZ2.out.free.2 5
  refine hK.out _ _ ?_ (fun hHeld2 => ?_)
  · exact HSX.out _ HT2.out
  clear hK K hHeld
  have hHeld := hHeld2
  clear hHeld2
  try simp only [Act.put, List.setIfInBounds_toArray, List.set_cons_zero, List.set_cons_succ]
  refine Tk 36 69 ?_
  refine Tk 37 6 ?_
  refine wpAnyH_ready (rs := [38]) (by kernel_rfl) (by simp) ?_
  refine AllReadyH.cons (o := ⟨none, _, _, _, _, _⟩) rfl (fun K hK => ?_) AllReadyH.nil
  go_simp
  refine hK.out _ _ ?_ (fun hHeld2 => ?_)
  · exact HSX.out _ (two_st6 HT2.out)
  clear hK K hHeld
  have hHeld := hHeld2
  clear hHeld2
  obtain ⟨x3, hx3⟩ : ∃ W, W = ((((((x2.setCell ⟨w.heap.size + 1, 0, none⟩ (.int .i64 s1.cap)).setCell ⟨w.heap.size + 1, 1, none⟩ (.slice A5 n5 c5)).setCell ⟨w.heap.size + 1, 2, none⟩ (.int .i64 s1.sf)).setCell ⟨w.heap.size + 1, 3, none⟩ (.int .i64 s1.fu)).setCell ⟨w.heap.size + 1, 4, none⟩ (.bool s1.lo)).setCell ⟨w.heap.size + 1, 5, none⟩ (.int .i64 (n4 : Int))) := ⟨_, rfl⟩
  have HT3' : Hid (Two (w.heap.size + 1) none V x3) := by unfold Hid; rw [hx3]; exact two_st6 HT2.out
  have HZ3' : Hid (BoxJ x3 (w.heap.size + 1) s1 A5 n5 c5 (n4 : Int)) := by unfold Hid; rw [hx3]; exact box_st6 HZ2.out
  rw [← hx3] at hHeld ⊢
  clear hx3 z0 z1 z2 z3 z4 z5 m0 m1 m2 m3 m4 m5
  try simp only [Act.put, List.setIfInBounds_toArray, List.set_cons_zero, List.set_cons_succ]
  refine Tk 39 8 ?_
  refine wpAnyH_done (by kernel_rfl) ?_ _
  go_wp2_with fail
  have l0 := HZ3'.out.c0
  have l1 := HZ3'.out.c1
  have l2 := HZ3'.out.c2
  have l3 := HZ3'.out.c3
  have l4 := HZ3'.out.c4
  have l5 := HZ3'.out.c5
  exact bodyPost_ret (v := .tuple #[.pointer (some ⟨p, 0, none⟩), .agg #[.int .i64 s1.cap, .slice A5 n5 c5, .int .i64 s1.sf, .int .i64 s1.fu, .bool s1.lo, .int .i64 (n4 : Int)], .bool true]) (by simp [results, Try.results10, go_sem, l0, l1, l2, l3, l4, l5]) rfl (HFIN.out _ HT3'.out)
theorem opens_not (hT : Tp w lo g ob s) (hw : lo ≤ w.heap.size) (_ : Ok s 65535) (hk : Rk w (fun b => b ≠ g ∧ some b ≠ ob ∧ P b) A n c s.bs) (hP : ∀ b, w.heap.size ≤ b → P b) (hb : Rd w lo 1 Ab nb cb (u8s b)) (s1 : S) (e1 : Int) (he : e1 ≠ 0) (l : List Rec) (_ : l.length ≤ 10000) (hg1 : Ok s1 65535) (hg2 : s1.cap = s.cap) (hg4 : s.bs.length ≤ s.cap → s1.bs.length ≤ s.cap) (hg3 : s1.bs = s.bs)
    (HP : ∀ W, Below w.heap.size w W → Calls Try.prog 26 #[.pointer (some ⟨g, 0, none⟩), .slice Ab nb cb] W (Opn lo g ob s1 e1 l W))
    (HD : ∀ (W : World) (ok : Nat → Prop), Below lo w W → (∀ x, W.heap.size ≤ x → ok x) → Rk W ok A n c s.bs → Calls Try.prog 29 #[docV s A n c, .slice Ab nb cb] W fun e w' => (e1 ≠ 0 → Fails ok s1 e1 W e w') ∧ (e1 = 0 → Opens ok s1 l W e w')) :
    Calls Try.prog 10 #[.pointer (some ⟨g, 0, none⟩), docV s A n c, .slice Ab nb cb] w (OpensIs lo g ob P s w) := by
  have hlg := hT.lo_
  have hobl := hT.obl
  have HT := Lib.hid hT
  have HK := Lib.hid hk
  have HB := Lib.hid hb
  have HPP := Lib.hid hP
  have HGD := Lib.hid hg1
  have HCP := Lib.hid hg2
  have HFC := Lib.hid hg4
  have HBS := Lib.hid hg3
  have HE := Lib.hid he
  obtain ⟨p4, r7, W, HP4, HR7, HW, HPX, HRX, HBX⟩ := boxes_open s A n c w
  have HPO := Lib.hid (HP W HBX.out)
  have HDD := Lib.hid HD
  have hpe := HP4.out
  subst hpe
  have hre := HR7.out
  subst hre
  have hWs : W.heap.size = w.heap.size + 2 := by rw [HW.out]; simp
  clear hT hk hb hP HP HD hg1 hg2 hg4 hg3
  unfold docV at HDD ⊢
  have k0 := HPX.out.c0
  have k1 := HPX.out.c1
  have k2 := HPX.out.c2
  have k3 := HPX.out.c3
  have k4 := HPX.out.c4
  go_enter Try.func10, Try.ntmps10
  go_wp2_with fail
  rw [← HW.out]
  refine HPO.out.mono ?_
  rintro e v2 ⟨h0, -⟩
  obtain ⟨rfl, ob2, hT2, ht2, hf2⟩ := h0 he
  clear h0
  have HFL := Lib.hid hf2
  have HTW := Lib.hid ht2
  have HT2 := Lib.hid hT2
  clear hT2 ht2 hf2
  have HK2 : Hid (Rk v2 (fun b => b ≠ g ∧ some b ≠ ob2 ∧ (P b ∧ b ≠ w.heap.size + 1)) A n c s.bs) := Rk.did ((HK.out.mono (ok' := (fun b => b ≠ g ∧ some b ≠ ob ∧ (P b ∧ b ≠ w.heap.size + 1))) fun b hb hl => ⟨hb.1, hb.2.1, hb.2.2, by omega⟩).later HBX.out) HTW.out HFL.out
  have hszW := HTW.out.size
  have HPX2 := Lib.hid (HPX.out.two HTW.out (by omega) (by intro e; have := (hobl _ e.symm).2.1; omega))
  have HRX2 := Lib.hid (HRX.out.two HTW.out (by omega) (by intro e; have := (hobl _ e.symm).2.1; omega))
  have HBlo : Hid (Below lo w v2) := (HBX.out.mono hw).trans (HTW.out.below hlg.1 (fun b hb => (hobl b hb).1) (by omega))
  have hfr := HT2.out.lo_
  have HD2 := Lib.hid (HDD.out v2 (fun b => b ≠ g ∧ some b ≠ ob2 ∧ (P b ∧ b ≠ w.heap.size + 1)) HBlo.out (fun x hx => ⟨(HT2.out.free hx).1, (HT2.out.free hx).2, HPP.out x (by omega), by omega⟩) HK2.out)
  clear HPO HDD k0 k1 k2 k3 k4
  have k0 := HPX2.out.c0
  have k1 := HPX2.out.c1
  have k2 := HPX2.out.c2
  have k3 := HPX2.out.c3
  have k4 := HPX2.out.c4
  go_wp2_with fail
  refine HD2.out.mono ?_
  rintro e v3 ⟨h0, -⟩
  obtain ⟨v, rfl, A5, n5, c5, rfl, hlen, hrk, hb3⟩ := h0 he
  clear h0
  unfold docJ
  obtain ⟨V, hV⟩ : ∃ V, V = v3.alloc (.cells #[.int .i64 s1.cap, .slice A5 n5 c5, .int .i64 s1.sf, .int .i64 s1.fu, .bool s1.lo, .int .i64 0] 35) := ⟨_, rfl⟩
  have HV9 := Lib.hid hV
  obtain ⟨q, hq⟩ : ∃ q, q = v3.heap.size := ⟨_, rfl⟩
  have hbV : Below v3.heap.size v3 V := by rw [hV]; exact (Below.refl _ _).alloc (Nat.le_refl _) _
  have hb3V : Below v2.heap.size v2 V := hb3.trans (hbV.mono hb3.size)
  have HQX : Hid (BoxJ V q s1 A5 n5 c5 0) := by unfold Hid; rw [hq]; exact BoxJ.new hV
  have HRX3 := Lib.hid (HRX2.out.later hb3V)
  have HT3 := Lib.hid (HT2.out.later hb3V)
  have HK3 := Lib.hid (hrk.later hbV)
  have HLEN := Lib.hid hlen
  have HTWV : Hid (Two g ob W V) := HTW.out.trans HFL.out (Two.of_below hb3V)
  have HBV := Lib.hid hb3V
  have hqr : q ≠ w.heap.size + 1 := by have := HRX2.out.free.1; have := hb3.size; omega
  have hqs : V.heap.size = q + 1 := by rw [hV, hq]; simp
  have hr7g : w.heap.size + 1 ≠ g := by omega
  have hr7o : ∀ j, ob2 = some j → j ≠ w.heap.size + 1 := fun j hj e => by
    have hf := HFL.out
    rcases hf with rfl | rfl | ⟨k, rfl, hk⟩
    · cases hj
    · have := (hobl j hj).2.1; omega
    · injection hj with hj; omega
  have HS1 : Hid (∀ (X : World), (convert 23 9 (.slice none 0 0)).run Try.prog X = .ok (.string (strOf [])) X) := fun X => str8 (show Rd X X.heap.size 1 none 0 0 (u8s []) from Rd.nil _)
  have HAL : Hid (∀ X, Two (w.heap.size + 1) none V X → Calls Try.prog 27 #[.slice none 0 0, .slice none 0 0] X fun e X' => e = .returned (.bool true) ∧ Below X.heap.size X X') := fun X hX => alike_same [] 0 none none 0 0 X ⟨rfl, Nat.le_refl _, fun h => absurd h (by omega)⟩ ⟨rfl, Nat.le_refl _, fun h => absurd h (by omega)⟩ (by omega)
  have HJL : Hid (∀ X, Two (w.heap.size + 1) none V X → Calls Try.prog 14 #[.pointer none] X fun e X' => e = .returned (.int .i64 0) ∧ X = X') := fun X _ => jlen_nil X
  have f0 : (e1 == 0) = false := by simp; exact HE.out
  have HON : Hid (∀ X, Two (w.heap.size + 1) none V X → Calls Try.prog 21 #[.pointer (some ⟨g, 0, none⟩), .agg #[.int .i64 s1.cap, .slice A5 n5 c5, .int .i64 s1.sf, .int .i64 s1.fu, .bool s1.lo]] X fun e X' => e = .returned (.bool true) ∧ Below X.heap.size X X') := fun X hX => by
    obtain ⟨A6, n6, c6, fb, ah, hta, _⟩ := HT3.out.two hX (by omega) (by simp) fun j hj => ⟨hr7o j hj, by simp⟩
    exact on_any hta (HGD.out.mono (by omega)) HLEN.out (HK3.out.two hX fun b hb _ => ⟨by exact hb.2.2.2, by simp⟩).rd
  have HKX : Hid (∀ X, Two (w.heap.size + 1) none V X → BoxJ X q s1 A5 n5 c5 0) := fun X hX => HQX.out.two hX hqr (by simp)
  have HFIN : Hid (∀ X, Two (w.heap.size + 1) none V X → OpensIs lo g ob P s w (.returned (.tuple #[.pointer none, docJ s1 A5 n5 c5 0, .bool true])) X) := fun X hX => by
    refine ⟨s1, none, A5, n5, c5, 0, ob2, rfl, HGD.out, HCP.out, HFC.out, HT3.out.two hX (by omega) (by simp) fun j hj => ⟨hr7o j hj, by simp⟩, two_new ((Two.of_below HBX.out).trans (Fresh.refl _ _) HTWV.out) hX (by omega), fresh_low HFL.out (by omega), HLEN.out, (HK3.out.two hX fun b hb _ => ⟨by exact hb.2.2.2, by simp⟩).mono fun b hb _ => ⟨hb.1, hb.2.1, by simp, hb.2.2.1⟩, by omega, fun _ => ⟨rfl, HBS.out⟩, (fun p2 h2 => by cases h2)⟩
  have HQ := Lib.hid hq
  have HSX : Hid (∀ X, Two (w.heap.size + 1) none V X → (fun W => (convert 23 9 (.slice none 0 0)).run Try.prog W = .ok (.string (strOf [])) W ∧ W.cell? ⟨q, 0, none⟩ = some (.int .i64 s1.cap) ∧ W.cell? ⟨q, 1, none⟩ = some (.slice A5 n5 c5) ∧ W.cell? ⟨q, 2, none⟩ = some (.int .i64 s1.sf) ∧ W.cell? ⟨q, 3, none⟩ = some (.int .i64 s1.fu) ∧ W.cell? ⟨q, 4, none⟩ = some (.bool s1.lo) ∧ W.cell? ⟨q, 5, none⟩ = some (.int .i64 0)) X) := fun X hX => ⟨HS1.out X, (HKX.out X hX).c0, (HKX.out X hX).c1, (HKX.out X hX).c2, (HKX.out X hX).c3, (HKX.out X hX).c4, (HKX.out X hX).c5⟩
  clear hV hq hbV hb3V HD2 k0 k1 k2 k3 k4 HS1
  go_wp2_with fail
  rw [← HV9.out]
  try rw [← HQ.out]
  refine wp_region_held_drew (S := fun W => (convert 23 9 (.slice none 0 0)).run Try.prog W = .ok (.string (strOf [])) W ∧ W.cell? ⟨q, 0, none⟩ = some (.int .i64 s1.cap) ∧ W.cell? ⟨q, 1, none⟩ = some (.slice A5 n5 c5) ∧ W.cell? ⟨q, 2, none⟩ = some (.int .i64 s1.sf) ∧ W.cell? ⟨q, 3, none⟩ = some (.int .i64 s1.fu) ∧ W.cell? ⟨q, 4, none⟩ = some (.bool s1.lo) ∧ W.cell? ⟨q, 5, none⟩ = some (.int .i64 0)) (by kernel_rfl) (by exact HSX.out _ (Two.of_below (bel_drewN (Below.refl _ _) 1))) (fun hHeld => ?_)
  obtain ⟨x0, hx0⟩ : ∃ v, v = V.drew := ⟨_, rfl⟩
  have HT0 : Hid (Two (w.heap.size + 1) none V x0) := by unfold Hid; rw [hx0]; exact Two.of_below (bel_drewN (Below.refl _ _) 1)
  have HZ0 : Hid (BoxJ x0 (w.heap.size + 1) zS none 0 0 0) := by unfold Hid; rw [hx0]; exact HRX3.out.later (bel_drewN (Below.refl _ _) 1)
  rw [← hx0] at hHeld ⊢
  clear hx0
  refine Tk 0 33 ?_
  refine Tk 1 34 ?_
  refine Tk 2 35 ?_
  refine Tk 3 36 ?_
  refine Tk 4 37 ?_
  refine Tk 5 38 ?_
  refine Tk 6 39 ?_
  refine Tk 7 40 ?_
  refine Tk 8 41 ?_
  refine Tk 9 42 ?_
  refine Tk 10 43 ?_
  refine Tk 11 44 ?_
  refine Tk 12 45 ?_
  refine Tk 13 46 ?_
  refine Tk 14 47 ?_
  refine wpAnyH_ready (rs := [15]) (by kernel_rfl) (by simp) ?_
  refine AllReadyH.cons (o := ⟨some 48, _, _, _, _, _⟩) rfl (fun K hK => ?_) AllReadyH.nil
  go_simp
  (go_at_call 27; refine (HAL.out x0 HT0.out).mono ?_)
  rintro e x1 ⟨rfl, hb⟩
  have HT1 : Hid (Two (w.heap.size + 1) none V x1) := HT0.out.trans (Fresh.refl _ _) (Two.of_below hb)
  have HZ1 := Lib.hid (HZ0.out.later hb)
  clear hb
  refine hK.out _ _ ?_ (fun hHeld2 => ?_)
  · exact HSX.out _ HT1.out
  clear hK K hHeld
  have hHeld := hHeld2
  clear hHeld2
  try simp only [Act.put, List.setIfInBounds_toArray, List.set_cons_zero, List.set_cons_succ]
  refine Tk 16 49 ?_
  refine Tk 17 50 ?_
  refine Tk 18 51 ?_
  refine Tk 19 52 ?_
  refine Tk 20 53 ?_
  refine Tk 21 54 ?_
  refine Tk 22 55 ?_
  refine Tk 23 56 ?_
  refine Tk 24 57 ?_
  refine Tk 25 58 ?_
  refine Tk 27 60 ?_
  refine Tk 28 61 ?_
  refine wpAnyH_ready (rs := [26]) (by kernel_rfl) (by simp) ?_
  refine AllReadyH.cons (o := ⟨some 59, _, _, _, _, _⟩) rfl (fun K hK => ?_) AllReadyH.nil
  go_simp
  (go_at_call 14; refine (HJL.out x1 HT1.out).mono ?_)
  rintro e x9 ⟨rfl, rfl⟩
  refine hK.out _ _ ?_ (fun hHeld2 => ?_)
  · exact hHeld
  clear hK K hHeld
  have hHeld := hHeld2
  clear hHeld2
  try simp only [Act.put, List.setIfInBounds_toArray, List.set_cons_zero, List.set_cons_succ]
  refine Tk 29 62 ?_
  refine Tk 30 63 ?_
  refine Tk 31 64 ?_
  refine Tk 32 65 ?_
  refine Tk 33 66 ?_
  refine Tk 34 67 ?_
  refine wpAnyH_ready (rs := [35]) (by kernel_rfl) (by simp) ?_
  refine AllReadyH.cons (o := ⟨some 68, _, _, _, _, _⟩) rfl (fun K hK => ?_) AllReadyH.nil
  go_simp
  (go_at_call 21; refine (HON.out x1 HT1.out).mono ?_)
  rintro e x2 ⟨rfl, hb⟩
  have HT2 : Hid (Two (w.heap.size + 1) none V x2) := HT1.out.trans (Fresh.refl _ _) (Two.of_below hb)
  have HZ2 := Lib.hid (HZ1.out.later hb)
  clear hb
  have z0 := HZ2.out.c0
  have m0 := HZ2.out.free.2 0
  have z1 := HZ2.out.c1
  have m1 := HZ2.out.free.2 1
  have z2 := HZ2.out.c2
  have m2 := HZ2.out.free.2 2
  have z3 := HZ2.out.c3
  have m3 := HZ2.out.free.2 3
  have z4 := HZ2.out.c4
  have m4 := HZ2.out.free.2 4
  have z5 := HZ2.out.c5
  have m5 := HZ2.out.free.2 5
  refine hK.out _ _ ?_ (fun hHeld2 => ?_)
  · exact HSX.out _ HT2.out
  clear hK K hHeld
  have hHeld := hHeld2
  clear hHeld2
  try simp only [Act.put, List.setIfInBounds_toArray, List.set_cons_zero, List.set_cons_succ]
  refine Tk 36 69 ?_
  refine Tk 37 6 ?_
  refine wpAnyH_ready (rs := [38]) (by kernel_rfl) (by simp) ?_
  refine AllReadyH.cons (o := ⟨none, _, _, _, _, _⟩) rfl (fun K hK => ?_) AllReadyH.nil
  go_simp
  refine hK.out _ _ ?_ (fun hHeld2 => ?_)
  · exact HSX.out _ (two_st6 HT2.out)
  clear hK K hHeld
  have hHeld := hHeld2
  clear hHeld2
  obtain ⟨x3, hx3⟩ : ∃ W, W = ((((((x2.setCell ⟨w.heap.size + 1, 0, none⟩ (.int .i64 s1.cap)).setCell ⟨w.heap.size + 1, 1, none⟩ (.slice A5 n5 c5)).setCell ⟨w.heap.size + 1, 2, none⟩ (.int .i64 s1.sf)).setCell ⟨w.heap.size + 1, 3, none⟩ (.int .i64 s1.fu)).setCell ⟨w.heap.size + 1, 4, none⟩ (.bool s1.lo)).setCell ⟨w.heap.size + 1, 5, none⟩ (.int .i64 0)) := ⟨_, rfl⟩
  have HT3' : Hid (Two (w.heap.size + 1) none V x3) := by unfold Hid; rw [hx3]; exact two_st6 HT2.out
  have HZ3' : Hid (BoxJ x3 (w.heap.size + 1) s1 A5 n5 c5 0) := by unfold Hid; rw [hx3]; exact box_st6 HZ2.out
  rw [← hx3] at hHeld ⊢
  clear hx3 z0 z1 z2 z3 z4 z5 m0 m1 m2 m3 m4 m5
  try simp only [Act.put, List.setIfInBounds_toArray, List.set_cons_zero, List.set_cons_succ]
  refine Tk 39 8 ?_
  refine wpAnyH_done (by kernel_rfl) ?_ _
  go_wp2_with fail
  have l0 := HZ3'.out.c0
  have l1 := HZ3'.out.c1
  have l2 := HZ3'.out.c2
  have l3 := HZ3'.out.c3
  have l4 := HZ3'.out.c4
  have l5 := HZ3'.out.c5
  exact bodyPost_ret (v := .tuple #[.pointer none, .agg #[.int .i64 s1.cap, .slice A5 n5 c5, .int .i64 s1.sf, .int .i64 s1.fu, .bool s1.lo, .int .i64 0], .bool true]) (by simp [results, Try.results10, go_sem, l0, l1, l2, l3, l4, l5]) rfl (HFIN.out _ HT3'.out)
theorem opens_any (hT : Tp w lo g ob s) (hw : lo ≤ w.heap.size) (hs : Ok s 65535) (hc : s.cap ≤ 65535) (hk : Rk w (fun b => b ≠ g ∧ some b ≠ ob ∧ P b) A n c s.bs) (hP : ∀ b, w.heap.size ≤ b → P b) (hb : Rd w lo 1 Ab nb cb (u8s b)) (hnb : nb ≤ 60000) :
    Calls Try.prog 10 #[.pointer (some ⟨g, 0, none⟩), docV s A n c, .slice Ab nb cb] w (OpensIs lo g ob P s w) := by
  have hbw : Rd w w.heap.size 1 Ab nb cb (u8s b) := hb.more hw
  rcases (show s.lo = true ∨ s.lo = false by cases s.lo <;> simp) with hlo | hlo
  · exact opens_not hT hw hs hk hP hb s 9 (by omega) [[]] (by simp) hs rfl id rfl (fun W hW => (popen_lost (hT.later hW) hlo (hbw.later hW) hnb).mono fun e w' h => ⟨fun _ => h, fun h0 => absurd h0 (by omega)⟩) (fun W ok hW hok hr => (refopen_lost hr (by omega) hlo).mono fun e w' h => ⟨fun _ => h, fun h0 => absurd h0 (by omega)⟩)
  · obtain ⟨l, k, hsc⟩ := scans_ex s.bs
    obtain ⟨s1, e1, ho⟩ : ∃ s1 e1, opn s b l k = (s1, e1) := ⟨_, _, rfl⟩
    have hg := opn_good (b := b) (l := l) (k := k) hs hc
    rw [ho] at hg
    have hcnt := hsc.count
    have hle := hsc.le
    have hln := hs.len
    have hl9 : (kept l b).length ≤ 10000 := by
      unfold kept
      split
      · simp
      · omega
    have HP : ∀ W, Below w.heap.size w W → Calls Try.prog 26 #[.pointer (some ⟨g, 0, none⟩), .slice Ab nb cb] W (Opn lo g ob s1 e1 (kept l b) W) := fun W hW => popen_any (hT.later hW) (Nat.le_trans hw hW.size) hs.cap hs.fu.2 hlo (by omega) (hbw.later hW) hnb hsc s1 e1 ho
    have HD : ∀ (W : World) (ok : Nat → Prop), Below lo w W → (∀ x, W.heap.size ≤ x → ok x) → Rk W ok A n c s.bs → Calls Try.prog 29 #[docV s A n c, .slice Ab nb cb] W fun e w' => (e1 ≠ 0 → Fails ok s1 e1 W e w') ∧ (e1 = 0 → Opens ok s1 (kept l b) W e w') := fun W ok hW hok hr => refopen_any hok hr hs ((hb.below hW).more (Nat.le_trans hw hW.size)) hnb hlo hsc s1 e1 ho
    by_cases h0 : e1 = 0
    · exact opens_has hT hw hs hk hP hb s1 e1 h0 (kept l b) hl9 hg.1 hg.2.1 hg.2.2.2 HP HD
    · exact opens_not hT hw hs hk hP hb s1 e1 h0 (kept l b) hl9 hg.1 hg.2.1 hg.2.2.2 (hg.2.2.1 h0) HP HD
end
end Jrn
end Go.Proofs.Ytcffbgehopjgpaa
