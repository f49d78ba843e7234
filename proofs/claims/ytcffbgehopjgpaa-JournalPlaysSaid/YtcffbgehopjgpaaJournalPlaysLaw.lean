/- Proved: the law JournalPlays answers true for every capacity, all bytes, every list of acts that can be handed in, and leaves its arguments as they were. Conditions: none. -/
import Derived.Test.YtcffbgehopjgpaaJournalSt
import Derived.Test.YtcffbgehopjgpaaJournalActs
import Derived.Test.YtcffbgehopjgpaaJournalArgs
import Derived.Test.YtcffbgehopjgpaaTk
open Go.ChangeShapes Go.WideShapes Go.ChangeAt Go.RowKit
namespace Go.Proofs.Ytcffbgehopjgpaa
namespace lawJournalPlays
open Jrn Tpe Frm By
set_option maxRecDepth 100000 in
set_option maxHeartbeats 8000000 in
theorem walk_any (cap : Int) (b0 : Rec) (Ab : Option Addr) (cb : Nat) (l : List Ac) (m : Nat) (Al : Option Addr) (cl : Nat) (w : World) (hcap : 0 ≤ cap ∧ cap ≤ 65535) (hb : Rd w w.heap.size 1 Ab b0.length cb (u8s b0)) (hl : AcRd w w.heap.size Al m cl l) (hm : m ≤ maxLen) :
    Calls Try.prog 3 #[.int .u16 cap, .slice Ab b0.length cb, .slice Al m cl] w fun e w' => e = .returned (.bool true) ∧ Below w.heap.size w w' := by
  obtain ⟨nb, hnb⟩ : ∃ z, z = b0.length := ⟨_, rfl⟩
  rw [← hnb] at hb ⊢
  have HR := Lib.hid hb
  have HL0 := Lib.hid hl
  have HAm := Lib.hid hm
  clear hb hl hm hnb
  go_enter Try.func3, Try.ntmps3
  go_wp2_with fail
  refine (awake_any w).mono ?_
  rintro e v1 ⟨rfl, hb⟩
  have HB1 := Lib.hid hb
  clear hb
  have HA := Lib.hid (HL0.out.below HB1.out)
  go_wp2_with fail
  refine (few_any l m Al cl w.heap.size v1 HA.out (by have h := HAm.out; simp only [maxLen] at h; omega)).mono ?_
  rintro e v2 ⟨b9, rfl, hfew, rfl⟩
  cases b9 with
  | false =>
    clear hfew
    go_wp2_with fail
    refine (awake_any v1).mono ?_
    rintro e v9 ⟨rfl, hb9⟩
    have HB9 := Lib.hid (HB1.out.trans (hb9.mono HB1.out.size))
    clear hb9
    go_wp2_with fail
    go_ret
    exact ⟨rfl, HB9.out⟩
  | true =>
    have HF := Lib.hid (hfew.out rfl)
    clear hfew
    by_cases hn : 300 < nb
    · have f1 : decide ((300 : Int) < (nb : Int)) = true := decide_eq_true (by omega)
      have f2 : decide (300 < nb) = true := decide_eq_true hn
      go_wp2_with fail
      refine (awake_any v1).mono ?_
      rintro e v9 ⟨rfl, hb9⟩
      have HB9 := Lib.hid (HB1.out.trans (hb9.mono HB1.out.size))
      clear hb9
      go_wp2_with fail
      go_ret
      exact ⟨rfl, HB9.out⟩
    · have fn : decide ((300 : Int) < (nb : Int)) = false := decide_eq_false (by omega)
      have gn : decide (300 < nb) = false := decide_eq_false hn
      have hw1 := HB1.out.size
      go_wp2_with fail
      refine (new_any cap v1 (by omega)).mono ?_
      rintro e v2 ⟨g, rfl, hT, hb⟩
      have HT2 := Lib.hid hT
      have HB2 : Hid (Below w.heap.size w v2) := HB1.out.trans (hb.mono HB1.out.size)
      clear hT hb fn gn
      go_wp2_with fail
      refine (refnew_any cap v2 (fun _ => True)).mono ?_
      rintro e v3 ⟨v, rfl, A, n, c, rfl, hlen, hrk, hb⟩
      have hn0 : n = 0 := hlen.symm
      subst hn0
      have HT3 := Lib.hid (HT2.out.later hb)
      have HB3 : Hid (Below w.heap.size w v3) := HB2.out.trans (hb.mono HB2.out.size)
      have hv13 : v1.heap.size ≤ v3.heap.size := Nat.le_of_lt (Nat.lt_of_le_of_lt HT3.out.lo_.1 HT3.out.lo_.2)
      have HOK0 : Hid (Okc (newS cap)) := ⟨⟨by unfold newS; dsimp only; omega, by unfold newS; simp, by unfold newS; simp, by unfold newS; simp⟩, by unfold newS; simp; omega, by unfold newS; simp; omega⟩
      have HOP := Lib.hid (opens_any (P := fun _ => True) HT3.out hv13 HOK0.out.1 HOK0.out.2.2 (⟨hrk.rd, fun h => absurd h (by omega)⟩ : Rk v3 _ A 0 c (newS cap).bs) (fun _ _ => trivial) ((HR.out.below HB3.out).more hw1) (show nb ≤ 60000 by omega))
      unfold docV at HOP ⊢
      clear hb hrk hlen
      go_wp2_with fail
      refine HOP.out.mono ?_
      rintro e v4 ⟨s9, jp, A6, n6, c6, N6, ob6, rfl, h⟩
      have HO := Lib.hid h
      obtain ⟨V, hV⟩ : ∃ V, V = v4.alloc (.cells #[.int .i64 s9.cap, .slice A6 n6 c6, .int .i64 s9.sf, .int .i64 s9.fu, .bool s9.lo, .int .i64 N6] 35) := ⟨_, rfl⟩
      obtain ⟨r, hr⟩ : ∃ p, p = v4.heap.size := ⟨_, rfl⟩
      have hbV : Below v4.heap.size v4 V := by rw [hV]; exact (Below.refl _ _).alloc (Nat.le_refl _) _
      have hX : BoxJ V r s9 A6 n6 c6 N6 := by rw [hr]; exact BoxJ.new hV
      have h34 := h.two.size
      have HBV : Hid (Below w.heap.size w V) := by
        have h1 := HB3.out.trans ((h.two.below HT3.out.lo_.1 (fun b hb => (HT3.out.obl b hb).1) hv13).mono hw1)
        exact h1.trans (hbV.mono h1.size)
      have HSV : Hid (Hf v1.heap.size g r V s9 A6 n6 c6 N6 s9 jp N6 ob6) := by
        have hfr := h.tp.free (Nat.le_of_eq hr.symm)
        refine ⟨h.tp.later hbV, hX, h.len, (h.rk.mono fun b hb hl => ⟨hb.1, hb.2.1, hb.2.2.1, by omega⟩).later hbV, hfr.1, hfr.2, fun e => ?_, by omega, Nat.le_trans hv13 (Nat.le_trans h34 hbV.size), fun e => (h.none_ e).1, fun p hp => ?_⟩
        · have := (h.some_ r e.symm).1.free.1; omega
        · obtain ⟨h1, h2, h3, h4⟩ := h.some_ p hp
          exact ⟨h1.later hbV, by omega, h3, h4⟩
      have HOKV : Hid (Okc s9) := ⟨HO.out.good, by rw [HO.out.cap]; exact HO.out.fitc HOK0.out.2.1, by rw [HO.out.cap]; exact HOK0.out.2.2⟩
      have HNV : Hid (0 ≤ N6 ∧ N6 ≤ 10000 + ((0 : Nat) : Int)) := by unfold Hid; have := HO.out.cnt; omega
      have hrw : w.heap.size ≤ r := by omega
      have HV := Lib.hid hV
      have HRR := Lib.hid hr
      unfold docJ
      clear h hV hr hbV hX h34 HOP
      go_wp2_with fail
      rw [← HV.out]
      try rw [← HRR.out]
      go_loopw [9, 11, 50] (fun v9 v11 i wr => ∃ (k : Nat) (s : S) (jp : Option Nat) (A : Option Addr) (n c : Nat) (N : Int) (ob : Option Nat), v9 = .pointer (jp.map fun p => ⟨p, 0, none⟩) ∧ v11 = .bool true ∧ i = .int .i64 k ∧ k ≤ m ∧ Hid (Okc s) ∧ Hid (0 ≤ N ∧ N ≤ 10000 + ((k : Nat) : Int)) ∧ Hid (Hf v1.heap.size g r wr s A n c N s jp N ob) ∧ Hid (Below w.heap.size w wr)) (fun _ _ i _ => m - (intOf i).toNat)
      case atStart => exact ⟨0, s9, jp, A6, n6, c6, N6, ob6, rfl, rfl, rfl, Nat.zero_le _, HOKV, HNV, HSV, HBV⟩
      case round =>
        clear HT2 HB2 HT3 HB3 HOK0 HO HBV HSV HOKV HNV HV HRR
        obtain ⟨k, s, jp, A, n, c, N, ob, rfl, rfl, rfl, hk, HOK, HN, HSr, HBr⟩ := hrel
        by_cases hlt : k < m
        · have hki : (k : Int) < (m : Int) := by omega
          have hm31 := HF.out.1
          obtain ⟨b, o, x, rfl, hbB, _, hmem, a0, a1, a2, a3⟩ := HL0.out.at_ hlt
          have hxe := HL0.out.each x hmem
          have hxn : x.n ≤ 300 := HF.out.2 x hmem
          have HXL := Lib.hid hxe.1
          have HXB := Lib.hid ((hxe.1.below HBr.out).more HBr.out.size)
          obtain ⟨kd, hkd⟩ : ∃ z, z = x.kd := ⟨_, rfl⟩
          rw [← hkd] at a0
          have HACT : Hid (∀ W, Below w.heap.size w W → (W.cell? ⟨b, o + k * 4, none⟩ = some (.int .u8 kd) ∧ W.cell? ⟨b, o + k * 4 + 1, none⟩ = some (.slice x.A x.n x.c) ∧ W.cell? ⟨b, o + k * 4 + 2, none⟩ = some (.int .i64 x.m) ∧ W.cell? ⟨b, o + k * 4 + 3, none⟩ = some (.int .u8 x.y.toNat))) := fun W hW => ⟨(hW.cell (p := ⟨b, o + k * 4, none⟩) hbB).trans a0, (hW.cell (p := ⟨b, o + k * 4 + 1, none⟩) hbB).trans a1, (hW.cell (p := ⟨b, o + k * 4 + 2, none⟩) hbB).trans a2, (hW.cell (p := ⟨b, o + k * 4 + 3, none⟩) hbB).trans a3⟩
          clear a0 a1 a2 a3 hkd
          obtain ⟨a0, a1, a2, a3⟩ := HACT.out wr HBr.out
          by_cases hk0 : kd = 0
          · subst hk0
            rcases jp with _ | p
            · go_wp2_with fail
              refine (write_nil _ wr).mono ?_
              rintro e u1 ⟨rfl, rfl⟩
              go_wp2_with fail
              refine (renew_nil _ wr).mono ?_
              rintro e u1 ⟨rfl, rfl⟩
              go_wp2_with fail
              refine (jlen_nil wr).mono ?_
              rintro e u1 ⟨rfl, rfl⟩
              go_wp2_with fail
              go_ret
              exact ⟨by first | rfl | simp, HBr.out⟩
            · have hok := HOK.out
              obtain ⟨s2, hs2⟩ : ∃ z, z = (wrt s x.b).1 := ⟨_, rfl⟩
              obtain ⟨f2, hf2⟩ : ∃ z, z = (wrt s x.b).2 := ⟨_, rfl⟩
              obtain ⟨N2, hN2⟩ : ∃ z, z = if f2 = 0 then N + 1 else N := ⟨_, rfl⟩
              have HOK2 : Hid (Okc s2) := by unfold Hid; rw [hs2]; exact hok.wrt x.b
              have HN2 : Hid (0 ≤ N2 ∧ N2 ≤ 10000 + ((k + 1 : Nat) : Int)) := by unfold Hid; rw [hN2]; have := HN.out; split <;> omega
              have HPW := Lib.hid (write_any (N := N) HSr.out.tp HSr.out.low hok.1.cap hok.1.fu (by have := hok.1.len; omega) (HSr.out.some_ p rfl).1 (HSr.out.some_ p rfl).2.2.1 (HSr.out.some_ p rfl).2.2.2 HXB.out (by omega) (by have := HN.out; omega))
              rw [← hf2, ← hs2, ← hN2] at HPW
              have HS2 := Lib.hid hs2
              have HF2 := Lib.hid hf2
              have HNN2 := Lib.hid hN2
              clear hs2 hf2 hN2
              go_wp2_with fail
              refine HPW.out.mono ?_
              rintro e u1 ⟨rfl, hd⟩
              obtain ⟨ob1, hh⟩ := HSr.out.didJ hd
              have HH := Lib.hid hh
              have HBu : Hid (Below w.heap.size w u1) := HBr.out.trans ((HSr.out.didJB hd).mono hw1)
              clear hd hh HPW
              go_wp2_with fail
              refine wp_region_held_drew (S := fun W => W.cell? ⟨b, o + k * 4, none⟩ = some (.int .u8 0) ∧ W.cell? ⟨b, o + k * 4 + 1, none⟩ = some (.slice x.A x.n x.c) ∧ W.cell? ⟨b, o + k * 4 + 2, none⟩ = some (.int .i64 x.m) ∧ W.cell? ⟨b, o + k * 4 + 3, none⟩ = some (.int .u8 x.y.toNat)) (by kernel_rfl) (by exact HACT.out _ (HBu.out.trans ((bel_drewN (Below.refl _ _) 1).mono HBu.out.size))) (fun hHeld => ?_)
              obtain ⟨x0, hx0⟩ : ∃ v, v = u1.drew := ⟨_, rfl⟩
              have hb0 : Below u1.heap.size u1 x0 := by rw [hx0]; exact bel_drewN (Below.refl _ _) 1
              have HS_x0 := Lib.hid (HH.out.later hb0)
              have HB_x0 : Hid (Below w.heap.size w x0) := HBu.out.trans (hb0.mono HBu.out.size)
              rw [← hx0] at hHeld ⊢
              clear hx0 hb0
              have k0 := HS_x0.out.box.c0
              have k1 := HS_x0.out.box.c1
              have k2 := HS_x0.out.box.c2
              have k3 := HS_x0.out.box.c3
              have k4 := HS_x0.out.box.c4
              have k5 := HS_x0.out.box.c5
              have HMD := Lib.hid (refwrite_any (N := N) HS_x0.out.ok HS_x0.out.rk hok.1.cap hok.1.fu (by have h1 := hok.1.len; have h2 := HS_x0.out.len; omega) ((HXL.out.below HB_x0.out).more HB_x0.out.size) (by omega) (by have h1 := hok.1.len; have h2 := HS_x0.out.len; omega) (by have := HN.out; omega))
              rw [← HF2.out, ← HS2.out, ← HNN2.out] at HMD
              unfold docJ at HMD
              refine Tk 1 137 ?_
              refine Tk 2 138 ?_
              refine Tk 3 139 ?_
              refine Tk 4 140 ?_
              refine Tk 5 141 ?_
              refine wpAnyH_ready (rs := [0]) (by kernel_rfl) (by simp) ?_
              refine AllReadyH.cons (o := ⟨some 136, _, _, _, _, _⟩) rfl (fun K hK => ?_) AllReadyH.nil
              go_simp
              refine hK.out _ _ ?_ (fun hHeld2 => ?_)
              · exact hHeld
              clear hK K hHeld
              have hHeld := hHeld2
              clear hHeld2
              try simp only [Act.put, List.setIfInBounds_toArray, List.set_cons_zero, List.set_cons_succ]
              refine wpAnyH_ready (rs := [6]) (by kernel_rfl) (by simp) ?_
              refine AllReadyH.cons (o := ⟨some 142, _, _, _, _, _⟩) rfl (fun K hK => ?_) AllReadyH.nil
              go_simp
              (go_at_call 15; refine HMD.out.mono ?_)
              rintro e x1 ⟨v, rfl, A6, n6, c6, rfl, hl6, hr6, hb6⟩
              unfold docJ
              have HBX1 := Lib.hid (HS_x0.out.box.later hb6)
              have HB_x1 : Hid (Below w.heap.size w x1) := HB_x0.out.trans (hb6.mono HB_x0.out.size)
              have HB01 := Lib.hid hb6
              have HL6 := Lib.hid hl6
              have HR6 := Lib.hid hr6
              clear hl6 hr6 hb6 k0 k1 k2 k3 k4 k5
              have z0 := HBX1.out.c0
              have m0 := HBX1.out.free.2 0
              have z1 := HBX1.out.c1
              have m1 := HBX1.out.free.2 1
              have z2 := HBX1.out.c2
              have m2 := HBX1.out.free.2 2
              have z3 := HBX1.out.c3
              have m3 := HBX1.out.free.2 3
              have z4 := HBX1.out.c4
              have m4 := HBX1.out.free.2 4
              have z5 := HBX1.out.c5
              have m5 := HBX1.out.free.2 5
              refine hK.out _ _ ?_ (fun hHeld2 => ?_)
              · exact HACT.out _ HB_x1.out
              clear hK K hHeld
              have hHeld := hHeld2
              clear hHeld2
              try simp only [Act.put, List.setIfInBounds_toArray, List.set_cons_zero, List.set_cons_succ]
              refine Tk 7 135 ?_
              refine Tk 8 143 ?_
              refine Tk 9 144 ?_
              refine wpAnyH_ready (rs := [10]) (by kernel_rfl) (by simp) ?_
              refine AllReadyH.cons (o := ⟨none, _, _, _, _, _⟩) rfl (fun K hK => ?_) AllReadyH.nil
              go_simp
              refine hK.out _ _ ?_ (fun hHeld2 => ?_)
              · exact HACT.out _ (bel_st6 HB_x1.out hrw)
              clear hK K hHeld
              have hHeld := hHeld2
              clear hHeld2
              obtain ⟨x2, hx2⟩ : ∃ W, W = ((((((x1.setCell ⟨r, 0, none⟩ (.int .i64 s2.cap)).setCell ⟨r, 1, none⟩ (.slice A6 n6 c6)).setCell ⟨r, 2, none⟩ (.int .i64 s2.sf)).setCell ⟨r, 3, none⟩ (.int .i64 s2.fu)).setCell ⟨r, 4, none⟩ (.bool s2.lo)).setCell ⟨r, 5, none⟩ (.int .i64 N2)) := ⟨_, rfl⟩
              have ht2 : Two r none x1 x2 := by rw [hx2]; exact two_st6 (Two.refl _ _ _)
              have hbd : BoxJ x2 r s2 A6 n6 c6 N2 := by rw [hx2]; exact box_st6 HBX1.out
              have HST2 := Lib.hid (HS_x0.out.meet ⟨(Two.of_below HB01.out).trans (Fresh.refl _ _) ht2, hbd, HL6.out, HR6.out.two ht2 fun b hb _ => ⟨hb.2.2.2, by simp⟩⟩)
              have HB_x2 : Hid (Below w.heap.size w x2) := by unfold Hid; rw [hx2]; exact bel_st6 HB_x1.out hrw
              rw [← hx2] at hHeld ⊢
              clear hx2 ht2 hbd z0 z1 z2 z3 z4 z5 m0 m1 m2 m3 m4 m5
              try simp only [Act.put, List.setIfInBounds_toArray, List.set_cons_zero, List.set_cons_succ]
              refine Tk 11 14 ?_
              refine wpAnyH_done (by kernel_rfl) ?_ _
              clear hHeld HMD
              have HSX : Hid (∀ X, Below x2.heap.size x2 X → (fun W => W.cell? ⟨r, 0, none⟩ = some (.int .i64 s2.cap) ∧ W.cell? ⟨r, 1, none⟩ = some (.slice A6 n6 c6) ∧ W.cell? ⟨r, 2, none⟩ = some (.int .i64 s2.sf) ∧ W.cell? ⟨r, 3, none⟩ = some (.int .i64 s2.fu) ∧ W.cell? ⟨r, 4, none⟩ = some (.bool s2.lo) ∧ W.cell? ⟨r, 5, none⟩ = some (.int .i64 N2)) X) := fun X hX => ⟨(HST2.out.later hX).box.c0, (HST2.out.later hX).box.c1, (HST2.out.later hX).box.c2, (HST2.out.later hX).box.c3, (HST2.out.later hX).box.c4, (HST2.out.later hX).box.c5⟩
              have HON : Hid (∀ X, Below x2.heap.size x2 X → Calls Try.prog 21 #[.pointer (some ⟨g, 0, none⟩), .agg #[.int .i64 s2.cap, .slice A6 n6 c6, .int .i64 s2.sf, .int .i64 s2.fu, .bool s2.lo]] X fun e X' => e = .returned (.bool true) ∧ Below X.heap.size X X') := fun X hX => by
                have h := HST2.out.later hX
                obtain ⟨A9, n9, c9, fb, ah, hta, _⟩ := h.tp
                exact on_any hta (HOK2.out.1.mono (by omega)) h.len h.rk.rd
              have HJL : Hid (∀ X, Below x2.heap.size x2 X → Calls Try.prog 14 #[.pointer (some ⟨p, 0, none⟩)] X fun e X' => e = .returned (.int .i64 N2) ∧ X = X') := fun X hX => jlen_any ((HST2.out.later hX).some_ p rfl).1
              go_wp2_with fail
              refine wp_region_held_drew (S := fun W => W.cell? ⟨r, 0, none⟩ = some (.int .i64 s2.cap) ∧ W.cell? ⟨r, 1, none⟩ = some (.slice A6 n6 c6) ∧ W.cell? ⟨r, 2, none⟩ = some (.int .i64 s2.sf) ∧ W.cell? ⟨r, 3, none⟩ = some (.int .i64 s2.fu) ∧ W.cell? ⟨r, 4, none⟩ = some (.bool s2.lo) ∧ W.cell? ⟨r, 5, none⟩ = some (.int .i64 N2)) (by kernel_rfl) (by exact HSX.out _ (bel_drewN (Below.refl _ _) 1)) (fun hHeld => ?_)
              obtain ⟨y0, hx0⟩ : ∃ v, v = x2.drew := ⟨_, rfl⟩
              have hy0 : Below x2.heap.size x2 y0 := by rw [hx0]; exact bel_drewN (Below.refl _ _) 1
              rw [← hx0] at hHeld ⊢
              clear hx0
              refine Tk 0 183 ?_
              refine Tk 1 184 ?_
              refine Tk 2 185 ?_
              refine Tk 3 186 ?_
              refine Tk 4 187 ?_
              refine Tk 5 188 ?_
              refine Tk 6 189 ?_
              refine Tk 7 190 ?_
              refine Tk 8 191 ?_
              refine Tk 10 193 ?_
              refine Tk 11 194 ?_
              refine wpAnyH_ready (rs := [9]) (by kernel_rfl) (by simp) ?_
              refine AllReadyH.cons (o := ⟨some 192, _, _, _, _, _⟩) rfl (fun K hK => ?_) AllReadyH.nil
              go_simp
              (go_at_call 14; refine (HJL.out y0 hy0).mono ?_)
              rintro e x9 ⟨rfl, rfl⟩
              refine hK.out _ _ ?_ (fun hHeld2 => ?_)
              · exact hHeld
              clear hK K hHeld
              have hHeld := hHeld2
              clear hHeld2
              try simp only [Act.put, List.setIfInBounds_toArray, List.set_cons_zero, List.set_cons_succ]
              refine Tk 12 195 ?_
              refine Tk 13 196 ?_
              refine Tk 14 197 ?_
              refine Tk 15 198 ?_
              refine Tk 16 199 ?_
              refine Tk 17 200 ?_
              refine wpAnyH_ready (rs := [18]) (by kernel_rfl) (by simp) ?_
              refine AllReadyH.cons (o := ⟨some 201, _, _, _, _, _⟩) rfl (fun K hK => ?_) AllReadyH.nil
              go_simp
              (go_at_call 21; refine (HON.out y0 hy0).mono ?_)
              rintro e y1 ⟨rfl, hb⟩
              have hy1 := hy0.trans (hb.mono hy0.size)
              clear hb
              refine hK.out _ _ ?_ (fun hHeld2 => ?_)
              · exact HSX.out _ hy1
              clear hK K hHeld
              have hHeld := hHeld2
              clear hHeld2
              try simp only [Act.put, List.setIfInBounds_toArray, List.set_cons_zero, List.set_cons_succ]
              refine Tk 19 202 ?_
              refine Tk 20 203 ?_
              refine wpAnyH_done (by kernel_rfl) ?_ _
              have HST9 := Lib.hid (HST2.out.later hy1)
              have HBu9 : Hid (Below w.heap.size w y1) := HB_x2.out.trans (hy1.mono HB_x2.out.size)
              clear HSX HON HJL hy0 hy1 hHeld
              go_wp2_with fail
              go_roundw
              case rel => exact ⟨k + 1, s2, (some p), A6, n6, c6, N2, ob1, rfl, rfl, by go_num, by omega, HOK2, HN2, HST9, HBu9⟩
              case measure => simp [intOf]; omega
          by_cases hk1 : kd = 1
          · subst hk1
            clear hk0
            rcases jp with _ | p
            · go_wp2_with fail
              refine (write_nil _ wr).mono ?_
              rintro e u1 ⟨rfl, rfl⟩
              go_wp2_with fail
              refine (renew_nil _ wr).mono ?_
              rintro e u1 ⟨rfl, rfl⟩
              go_wp2_with fail
              refine (jlen_nil wr).mono ?_
              rintro e u1 ⟨rfl, rfl⟩
              go_wp2_with fail
              go_ret
              exact ⟨by first | rfl | simp, HBr.out⟩
            · have hok := HOK.out
              obtain ⟨s2, hs2⟩ : ∃ z, z = (rnw s x.b).1 := ⟨_, rfl⟩
              obtain ⟨f2, hf2⟩ : ∃ z, z = (rnw s x.b).2 := ⟨_, rfl⟩
              obtain ⟨N2, hN2⟩ : ∃ z, z = if f2 = 0 then 0 else N := ⟨_, rfl⟩
              have HOK2 : Hid (Okc s2) := by unfold Hid; rw [hs2]; exact hok.rnw x.b
              have HN2 : Hid (0 ≤ N2 ∧ N2 ≤ 10000 + ((k + 1 : Nat) : Int)) := by unfold Hid; rw [hN2]; have := HN.out; split <;> omega
              have HPW := Lib.hid (renew_any (N := N) HSr.out.tp HSr.out.low hok.1.cap hok.1.fu.2 (HSr.out.some_ p rfl).1 (HSr.out.some_ p rfl).2.2.1 (HSr.out.some_ p rfl).2.2.2 HXB.out (by omega))
              rw [← hf2, ← hs2, ← hN2] at HPW
              have HS2 := Lib.hid hs2
              have HF2 := Lib.hid hf2
              have HNN2 := Lib.hid hN2
              clear hs2 hf2 hN2
              go_wp2_with fail
              refine HPW.out.mono ?_
              rintro e u1 ⟨rfl, hd⟩
              obtain ⟨ob1, hh⟩ := HSr.out.didJ hd
              have HH := Lib.hid hh
              have HBu : Hid (Below w.heap.size w u1) := HBr.out.trans ((HSr.out.didJB hd).mono hw1)
              clear hd hh HPW
              go_wp2_with fail
              refine wp_region_held_drew (S := fun W => W.cell? ⟨b, o + k * 4, none⟩ = some (.int .u8 1) ∧ W.cell? ⟨b, o + k * 4 + 1, none⟩ = some (.slice x.A x.n x.c) ∧ W.cell? ⟨b, o + k * 4 + 2, none⟩ = some (.int .i64 x.m) ∧ W.cell? ⟨b, o + k * 4 + 3, none⟩ = some (.int .u8 x.y.toNat)) (by kernel_rfl) (by exact HACT.out _ (HBu.out.trans ((bel_drewN (Below.refl _ _) 1).mono HBu.out.size))) (fun hHeld => ?_)
              obtain ⟨x0, hx0⟩ : ∃ v, v = u1.drew := ⟨_, rfl⟩
              have hb0 : Below u1.heap.size u1 x0 := by rw [hx0]; exact bel_drewN (Below.refl _ _) 1
              have HS_x0 := Lib.hid (HH.out.later hb0)
              have HB_x0 : Hid (Below w.heap.size w x0) := HBu.out.trans (hb0.mono HBu.out.size)
              rw [← hx0] at hHeld ⊢
              clear hx0 hb0
              have k0 := HS_x0.out.box.c0
              have k1 := HS_x0.out.box.c1
              have k2 := HS_x0.out.box.c2
              have k3 := HS_x0.out.box.c3
              have k4 := HS_x0.out.box.c4
              have k5 := HS_x0.out.box.c5
              have HMD := Lib.hid (refrenew_any (N := N) HS_x0.out.ok HS_x0.out.rk hok.1.cap hok.1.fu ((HXL.out.below HB_x0.out).more HB_x0.out.size) (by omega))
              rw [← HF2.out, ← HS2.out, ← HNN2.out] at HMD
              unfold docJ at HMD
              refine Tk 1 154 ?_
              refine Tk 2 155 ?_
              refine Tk 3 156 ?_
              refine Tk 4 157 ?_
              refine Tk 5 158 ?_
              refine wpAnyH_ready (rs := [0]) (by kernel_rfl) (by simp) ?_
              refine AllReadyH.cons (o := ⟨some 153, _, _, _, _, _⟩) rfl (fun K hK => ?_) AllReadyH.nil
              go_simp
              refine hK.out _ _ ?_ (fun hHeld2 => ?_)
              · exact hHeld
              clear hK K hHeld
              have hHeld := hHeld2
              clear hHeld2
              try simp only [Act.put, List.setIfInBounds_toArray, List.set_cons_zero, List.set_cons_succ]
              refine wpAnyH_ready (rs := [6]) (by kernel_rfl) (by simp) ?_
              refine AllReadyH.cons (o := ⟨some 159, _, _, _, _, _⟩) rfl (fun K hK => ?_) AllReadyH.nil
              go_simp
              (go_at_call 16; refine HMD.out.mono ?_)
              rintro e x1 ⟨v, rfl, A6, n6, c6, rfl, hl6, hr6, hb6⟩
              unfold docJ
              have HBX1 := Lib.hid (HS_x0.out.box.later hb6)
              have HB_x1 : Hid (Below w.heap.size w x1) := HB_x0.out.trans (hb6.mono HB_x0.out.size)
              have HB01 := Lib.hid hb6
              have HL6 := Lib.hid hl6
              have HR6 := Lib.hid hr6
              clear hl6 hr6 hb6 k0 k1 k2 k3 k4 k5
              have z0 := HBX1.out.c0
              have m0 := HBX1.out.free.2 0
              have z1 := HBX1.out.c1
              have m1 := HBX1.out.free.2 1
              have z2 := HBX1.out.c2
              have m2 := HBX1.out.free.2 2
              have z3 := HBX1.out.c3
              have m3 := HBX1.out.free.2 3
              have z4 := HBX1.out.c4
              have m4 := HBX1.out.free.2 4
              have z5 := HBX1.out.c5
              have m5 := HBX1.out.free.2 5
              refine hK.out _ _ ?_ (fun hHeld2 => ?_)
              · exact HACT.out _ HB_x1.out
              clear hK K hHeld
              have hHeld := hHeld2
              clear hHeld2
              try simp only [Act.put, List.setIfInBounds_toArray, List.set_cons_zero, List.set_cons_succ]
              refine Tk 7 152 ?_
              refine Tk 8 160 ?_
              refine Tk 9 161 ?_
              refine wpAnyH_ready (rs := [10]) (by kernel_rfl) (by simp) ?_
              refine AllReadyH.cons (o := ⟨none, _, _, _, _, _⟩) rfl (fun K hK => ?_) AllReadyH.nil
              go_simp
              refine hK.out _ _ ?_ (fun hHeld2 => ?_)
              · exact HACT.out _ (bel_st6 HB_x1.out hrw)
              clear hK K hHeld
              have hHeld := hHeld2
              clear hHeld2
              obtain ⟨x2, hx2⟩ : ∃ W, W = ((((((x1.setCell ⟨r, 0, none⟩ (.int .i64 s2.cap)).setCell ⟨r, 1, none⟩ (.slice A6 n6 c6)).setCell ⟨r, 2, none⟩ (.int .i64 s2.sf)).setCell ⟨r, 3, none⟩ (.int .i64 s2.fu)).setCell ⟨r, 4, none⟩ (.bool s2.lo)).setCell ⟨r, 5, none⟩ (.int .i64 N2)) := ⟨_, rfl⟩
              have ht2 : Two r none x1 x2 := by rw [hx2]; exact two_st6 (Two.refl _ _ _)
              have hbd : BoxJ x2 r s2 A6 n6 c6 N2 := by rw [hx2]; exact box_st6 HBX1.out
              have HST2 := Lib.hid (HS_x0.out.meet ⟨(Two.of_below HB01.out).trans (Fresh.refl _ _) ht2, hbd, HL6.out, HR6.out.two ht2 fun b hb _ => ⟨hb.2.2.2, by simp⟩⟩)
              have HB_x2 : Hid (Below w.heap.size w x2) := by unfold Hid; rw [hx2]; exact bel_st6 HB_x1.out hrw
              rw [← hx2] at hHeld ⊢
              clear hx2 ht2 hbd z0 z1 z2 z3 z4 z5 m0 m1 m2 m3 m4 m5
              try simp only [Act.put, List.setIfInBounds_toArray, List.set_cons_zero, List.set_cons_succ]
              refine Tk 11 14 ?_
              refine wpAnyH_done (by kernel_rfl) ?_ _
              clear hHeld HMD
              have HSX : Hid (∀ X, Below x2.heap.size x2 X → (fun W => W.cell? ⟨r, 0, none⟩ = some (.int .i64 s2.cap) ∧ W.cell? ⟨r, 1, none⟩ = some (.slice A6 n6 c6) ∧ W.cell? ⟨r, 2, none⟩ = some (.int .i64 s2.sf) ∧ W.cell? ⟨r, 3, none⟩ = some (.int .i64 s2.fu) ∧ W.cell? ⟨r, 4, none⟩ = some (.bool s2.lo) ∧ W.cell? ⟨r, 5, none⟩ = some (.int .i64 N2)) X) := fun X hX => ⟨(HST2.out.later hX).box.c0, (HST2.out.later hX).box.c1, (HST2.out.later hX).box.c2, (HST2.out.later hX).box.c3, (HST2.out.later hX).box.c4, (HST2.out.later hX).box.c5⟩
              have HON : Hid (∀ X, Below x2.heap.size x2 X → Calls Try.prog 21 #[.pointer (some ⟨g, 0, none⟩), .agg #[.int .i64 s2.cap, .slice A6 n6 c6, .int .i64 s2.sf, .int .i64 s2.fu, .bool s2.lo]] X fun e X' => e = .returned (.bool true) ∧ Below X.heap.size X X') := fun X hX => by
                have h := HST2.out.later hX
                obtain ⟨A9, n9, c9, fb, ah, hta, _⟩ := h.tp
                exact on_any hta (HOK2.out.1.mono (by omega)) h.len h.rk.rd
              have HJL : Hid (∀ X, Below x2.heap.size x2 X → Calls Try.prog 14 #[.pointer (some ⟨p, 0, none⟩)] X fun e X' => e = .returned (.int .i64 N2) ∧ X = X') := fun X hX => jlen_any ((HST2.out.later hX).some_ p rfl).1
              go_wp2_with fail
              refine wp_region_held_drew (S := fun W => W.cell? ⟨r, 0, none⟩ = some (.int .i64 s2.cap) ∧ W.cell? ⟨r, 1, none⟩ = some (.slice A6 n6 c6) ∧ W.cell? ⟨r, 2, none⟩ = some (.int .i64 s2.sf) ∧ W.cell? ⟨r, 3, none⟩ = some (.int .i64 s2.fu) ∧ W.cell? ⟨r, 4, none⟩ = some (.bool s2.lo) ∧ W.cell? ⟨r, 5, none⟩ = some (.int .i64 N2)) (by kernel_rfl) (by exact HSX.out _ (bel_drewN (Below.refl _ _) 1)) (fun hHeld => ?_)
              obtain ⟨y0, hx0⟩ : ∃ v, v = x2.drew := ⟨_, rfl⟩
              have hy0 : Below x2.heap.size x2 y0 := by rw [hx0]; exact bel_drewN (Below.refl _ _) 1
              rw [← hx0] at hHeld ⊢
              clear hx0
              refine Tk 0 183 ?_
              refine Tk 1 184 ?_
              refine Tk 2 185 ?_
              refine Tk 3 186 ?_
              refine Tk 4 187 ?_
              refine Tk 5 188 ?_
              refine Tk 6 189 ?_
              refine Tk 7 190 ?_
              refine Tk 8 191 ?_
              refine Tk 10 193 ?_
              refine Tk 11 194 ?_
              refine wpAnyH_ready (rs := [9]) (by kernel_rfl) (by simp) ?_
              refine AllReadyH.cons (o := ⟨some 192, _, _, _, _, _⟩) rfl (fun K hK => ?_) AllReadyH.nil
              go_simp
              (go_at_call 14; refine (HJL.out y0 hy0).mono ?_)
              rintro e x9 ⟨rfl, rfl⟩
              refine hK.out _ _ ?_ (fun hHeld2 => ?_)
              · exact hHeld
              clear hK K hHeld
              have hHeld := hHeld2
              clear hHeld2
              try simp only [Act.put, List.setIfInBounds_toArray, List.set_cons_zero, List.set_cons_succ]
              refine Tk 12 195 ?_
              refine Tk 13 196 ?_
              refine Tk 14 197 ?_
              refine Tk 15 198 ?_
              refine Tk 16 199 ?_
              refine Tk 17 200 ?_
              refine wpAnyH_ready (rs := [18]) (by kernel_rfl) (by simp) ?_
              refine AllReadyH.cons (o := ⟨some 201, _, _, _, _, _⟩) rfl (fun K hK => ?_) AllReadyH.nil
              go_simp
              (go_at_call 21; refine (HON.out y0 hy0).mono ?_)
              rintro e y1 ⟨rfl, hb⟩
              have hy1 := hy0.trans (hb.mono hy0.size)
              clear hb
              refine hK.out _ _ ?_ (fun hHeld2 => ?_)
              · exact HSX.out _ hy1
              clear hK K hHeld
              have hHeld := hHeld2
              clear hHeld2
              try simp only [Act.put, List.setIfInBounds_toArray, List.set_cons_zero, List.set_cons_succ]
              refine Tk 19 202 ?_
              refine Tk 20 203 ?_
              refine wpAnyH_done (by kernel_rfl) ?_ _
              have HST9 := Lib.hid (HST2.out.later hy1)
              have HBu9 : Hid (Below w.heap.size w y1) := HB_x2.out.trans (hy1.mono HB_x2.out.size)
              clear HSX HON HJL hy0 hy1 hHeld
              go_wp2_with fail
              go_roundw
              case rel => exact ⟨k + 1, s2, (some p), A6, n6, c6, N2, ob1, rfl, rfl, by go_num, by omega, HOK2, HN2, HST9, HBu9⟩
              case measure => simp [intOf]; omega
          by_cases hk2 : kd = 2
          · subst hk2
            clear hk0 hk1
            have hok := HOK.out
            obtain ⟨s2, hs2⟩ : ∃ z, z = (arm s x.m).1 := ⟨_, rfl⟩
            obtain ⟨f2, hf2⟩ : ∃ z, z = (arm s x.m).2 := ⟨_, rfl⟩
            have HOK2 : Hid (Okc s2) := by unfold Hid; rw [hs2]; exact hok.arm hxe.2.2.2
            have HN2 : Hid (0 ≤ N ∧ N ≤ 10000 + ((k + 1 : Nat) : Int)) := by unfold Hid; have := HN.out; omega
            obtain ⟨A7, n7, c7, fb7, ah7, hta7, hob7⟩ := HSr.out.tp
            have HPW := Lib.hid (fuse_any x.m hta7 hxe.2.2)
            rw [← hf2, ← hs2, hob7] at HPW
            have HS2 := Lib.hid hs2
            have HF2 := Lib.hid hf2
            clear hs2 hf2 hta7 hob7
            go_wp2_with fail
            refine HPW.out.mono ?_
            rintro e u1 ⟨rfl, hd⟩
            obtain ⟨ob1, hh⟩ := HSr.out.did hd
            have HH := Lib.hid hh
            have HBu : Hid (Below w.heap.size w u1) := HBr.out.trans ((HSr.out.didB hd).mono hw1)
            clear hd hh HPW
            go_wp2_with fail
            refine wp_region_held_drew (S := fun W => W.cell? ⟨b, o + k * 4, none⟩ = some (.int .u8 2) ∧ W.cell? ⟨b, o + k * 4 + 1, none⟩ = some (.slice x.A x.n x.c) ∧ W.cell? ⟨b, o + k * 4 + 2, none⟩ = some (.int .i64 x.m) ∧ W.cell? ⟨b, o + k * 4 + 3, none⟩ = some (.int .u8 x.y.toNat)) (by kernel_rfl) (by exact HACT.out _ (HBu.out.trans ((bel_drewN (Below.refl _ _) 1).mono HBu.out.size))) (fun hHeld => ?_)
            obtain ⟨x0, hx0⟩ : ∃ v, v = u1.drew := ⟨_, rfl⟩
            have hb0 : Below u1.heap.size u1 x0 := by rw [hx0]; exact bel_drewN (Below.refl _ _) 1
            have HS_x0 := Lib.hid (HH.out.later hb0)
            have HB_x0 : Hid (Below w.heap.size w x0) := HBu.out.trans (hb0.mono HBu.out.size)
            rw [← hx0] at hHeld ⊢
            clear hx0 hb0
            have k0 := HS_x0.out.box.c0
            have k1 := HS_x0.out.box.c1
            have k2 := HS_x0.out.box.c2
            have k3 := HS_x0.out.box.c3
            have k4 := HS_x0.out.box.c4
            have k5 := HS_x0.out.box.c5
            have HMD := Lib.hid (refarm_any x.m HS_x0.out.rk)
            rw [← HF2.out, ← HS2.out] at HMD
            unfold docV at HMD
            refine Tk 0 172 ?_
            refine Tk 2 174 ?_
            refine Tk 3 175 ?_
            refine Tk 4 176 ?_
            refine Tk 5 177 ?_
            refine Tk 6 178 ?_
            refine wpAnyH_ready (rs := [1]) (by kernel_rfl) (by simp) ?_
            refine AllReadyH.cons (o := ⟨some 173, _, _, _, _, _⟩) rfl (fun K hK => ?_) AllReadyH.nil
            go_simp
            refine hK.out _ _ ?_ (fun hHeld2 => ?_)
            · exact hHeld
            clear hK K hHeld
            have hHeld := hHeld2
            clear hHeld2
            try simp only [Act.put, List.setIfInBounds_toArray, List.set_cons_zero, List.set_cons_succ]
            refine wpAnyH_ready (rs := [7]) (by kernel_rfl) (by simp) ?_
            refine AllReadyH.cons (o := ⟨some 179, _, _, _, _, _⟩) rfl (fun K hK => ?_) AllReadyH.nil
            go_simp
            (go_at_call 18; refine HMD.out.mono ?_)
            rintro e x1 ⟨v, rfl, A6, n6, c6, rfl, hl6, hr6, hb6⟩
            unfold docV
            have HBX1 := Lib.hid (HS_x0.out.box.later hb6)
            have HB_x1 : Hid (Below w.heap.size w x1) := HB_x0.out.trans (hb6.mono HB_x0.out.size)
            have HB01 := Lib.hid hb6
            have HL6 := Lib.hid hl6
            have HR6 := Lib.hid hr6
            clear hl6 hr6 hb6 k0 k1 k2 k3 k4 k5
            have z0 := HBX1.out.c0
            have m0 := HBX1.out.free.2 0
            have z1 := HBX1.out.c1
            have m1 := HBX1.out.free.2 1
            have z2 := HBX1.out.c2
            have m2 := HBX1.out.free.2 2
            have z3 := HBX1.out.c3
            have m3 := HBX1.out.free.2 3
            have z4 := HBX1.out.c4
            have m4 := HBX1.out.free.2 4
            have z5 := HBX1.out.c5
            have m5 := HBX1.out.free.2 5
            refine hK.out _ _ ?_ (fun hHeld2 => ?_)
            · exact HACT.out _ HB_x1.out
            clear hK K hHeld
            have hHeld := hHeld2
            clear hHeld2
            try simp only [Act.put, List.setIfInBounds_toArray, List.set_cons_zero, List.set_cons_succ]
            refine Tk 8 171 ?_
            refine Tk 9 180 ?_
            refine Tk 10 181 ?_
            refine Tk 11 182 ?_
            refine wpAnyH_ready (rs := [12]) (by kernel_rfl) (by simp) ?_
            refine AllReadyH.cons (o := ⟨none, _, _, _, _, _⟩) rfl (fun K hK => ?_) AllReadyH.nil
            go_simp
            refine hK.out _ _ ?_ (fun hHeld2 => ?_)
            · exact HACT.out _ (bel_st5 HB_x1.out hrw)
            clear hK K hHeld
            have hHeld := hHeld2
            clear hHeld2
            obtain ⟨x2, hx2⟩ : ∃ W, W = (((((x1.setCell ⟨r, 0, none⟩ (.int .i64 s2.cap)).setCell ⟨r, 1, none⟩ (.slice A6 n6 c6)).setCell ⟨r, 2, none⟩ (.int .i64 s2.sf)).setCell ⟨r, 3, none⟩ (.int .i64 s2.fu)).setCell ⟨r, 4, none⟩ (.bool s2.lo)) := ⟨_, rfl⟩
            obtain ⟨hbd, ht2⟩ := HBX1.out.set (s' := s2) hx2
            have HST2 := Lib.hid (HS_x0.out.meet ⟨(Two.of_below HB01.out).trans (Fresh.refl _ _) ht2, hbd, HL6.out, HR6.out.two ht2 fun b hb _ => ⟨hb.2.2.2, by simp⟩⟩)
            have HB_x2 : Hid (Below w.heap.size w x2) := by unfold Hid; rw [hx2]; exact bel_st5 HB_x1.out hrw
            rw [← hx2] at hHeld ⊢
            clear hx2 ht2 hbd z0 z1 z2 z3 z4 z5 m0 m1 m2 m3 m4 m5
            try simp only [Act.put, List.setIfInBounds_toArray, List.set_cons_zero, List.set_cons_succ]
            refine Tk 13 14 ?_
            refine wpAnyH_done (by kernel_rfl) ?_ _
            clear hHeld HMD
            rcases jp with _ | p
            · have HSX : Hid (∀ X, Below x2.heap.size x2 X → (fun W => W.cell? ⟨r, 0, none⟩ = some (.int .i64 s2.cap) ∧ W.cell? ⟨r, 1, none⟩ = some (.slice A6 n6 c6) ∧ W.cell? ⟨r, 2, none⟩ = some (.int .i64 s2.sf) ∧ W.cell? ⟨r, 3, none⟩ = some (.int .i64 s2.fu) ∧ W.cell? ⟨r, 4, none⟩ = some (.bool s2.lo) ∧ W.cell? ⟨r, 5, none⟩ = some (.int .i64 N)) X) := fun X hX => ⟨(HST2.out.later hX).box.c0, (HST2.out.later hX).box.c1, (HST2.out.later hX).box.c2, (HST2.out.later hX).box.c3, (HST2.out.later hX).box.c4, (HST2.out.later hX).box.c5⟩
              have HON : Hid (∀ X, Below x2.heap.size x2 X → Calls Try.prog 21 #[.pointer (some ⟨g, 0, none⟩), .agg #[.int .i64 s2.cap, .slice A6 n6 c6, .int .i64 s2.sf, .int .i64 s2.fu, .bool s2.lo]] X fun e X' => e = .returned (.bool true) ∧ Below X.heap.size X X') := fun X hX => by
                have h := HST2.out.later hX
                obtain ⟨A9, n9, c9, fb, ah, hta, _⟩ := h.tp
                exact on_any hta (HOK2.out.1.mono (by omega)) h.len h.rk.rd
              have HJL : Hid (∀ X, Below x2.heap.size x2 X → Calls Try.prog 14 #[.pointer none] X fun e X' => e = .returned (.int .i64 N) ∧ X = X') := fun X hX => by have h := (HST2.out.none_ rfl); rw [h]; exact jlen_nil X
              go_wp2_with fail
              refine wp_region_held_drew (S := fun W => W.cell? ⟨r, 0, none⟩ = some (.int .i64 s2.cap) ∧ W.cell? ⟨r, 1, none⟩ = some (.slice A6 n6 c6) ∧ W.cell? ⟨r, 2, none⟩ = some (.int .i64 s2.sf) ∧ W.cell? ⟨r, 3, none⟩ = some (.int .i64 s2.fu) ∧ W.cell? ⟨r, 4, none⟩ = some (.bool s2.lo) ∧ W.cell? ⟨r, 5, none⟩ = some (.int .i64 N)) (by kernel_rfl) (by exact HSX.out _ (bel_drewN (Below.refl _ _) 1)) (fun hHeld => ?_)
              obtain ⟨y0, hx0⟩ : ∃ v, v = x2.drew := ⟨_, rfl⟩
              have hy0 : Below x2.heap.size x2 y0 := by rw [hx0]; exact bel_drewN (Below.refl _ _) 1
              rw [← hx0] at hHeld ⊢
              clear hx0
              refine Tk 0 183 ?_
              refine Tk 1 184 ?_
              refine Tk 2 185 ?_
              refine Tk 3 186 ?_
              refine Tk 4 187 ?_
              refine Tk 5 188 ?_
              refine Tk 6 189 ?_
              refine Tk 7 190 ?_
              refine Tk 8 191 ?_
              refine Tk 10 193 ?_
              refine Tk 11 194 ?_
              refine wpAnyH_ready (rs := [9]) (by kernel_rfl) (by simp) ?_
              refine AllReadyH.cons (o := ⟨some 192, _, _, _, _, _⟩) rfl (fun K hK => ?_) AllReadyH.nil
              go_simp
              (go_at_call 14; refine (HJL.out y0 hy0).mono ?_)
              rintro e x9 ⟨rfl, rfl⟩
              refine hK.out _ _ ?_ (fun hHeld2 => ?_)
              · exact hHeld
              clear hK K hHeld
              have hHeld := hHeld2
              clear hHeld2
              try simp only [Act.put, List.setIfInBounds_toArray, List.set_cons_zero, List.set_cons_succ]
              refine Tk 12 195 ?_
              refine Tk 13 196 ?_
              refine Tk 14 197 ?_
              refine Tk 15 198 ?_
              refine Tk 16 199 ?_
              refine Tk 17 200 ?_
              refine wpAnyH_ready (rs := [18]) (by kernel_rfl) (by simp) ?_
              refine AllReadyH.cons (o := ⟨some 201, _, _, _, _, _⟩) rfl (fun K hK => ?_) AllReadyH.nil
              go_simp
              (go_at_call 21; refine (HON.out y0 hy0).mono ?_)
              rintro e y1 ⟨rfl, hb⟩
              have hy1 := hy0.trans (hb.mono hy0.size)
              clear hb
              refine hK.out _ _ ?_ (fun hHeld2 => ?_)
              · exact HSX.out _ hy1
              clear hK K hHeld
              have hHeld := hHeld2
              clear hHeld2
              try simp only [Act.put, List.setIfInBounds_toArray, List.set_cons_zero, List.set_cons_succ]
              refine Tk 19 202 ?_
              refine Tk 20 203 ?_
              refine wpAnyH_done (by kernel_rfl) ?_ _
              have HST9 := Lib.hid (HST2.out.later hy1)
              have HBu9 : Hid (Below w.heap.size w y1) := HB_x2.out.trans (hy1.mono HB_x2.out.size)
              clear HSX HON HJL hy0 hy1 hHeld
              go_wp2_with fail
              go_roundw
              case rel => exact ⟨k + 1, s2, none, A6, n6, c6, N, ob1, rfl, rfl, by go_num, by omega, HOK2, HN2, HST9, HBu9⟩
              case measure => simp [intOf]; omega
            · have HSX : Hid (∀ X, Below x2.heap.size x2 X → (fun W => W.cell? ⟨r, 0, none⟩ = some (.int .i64 s2.cap) ∧ W.cell? ⟨r, 1, none⟩ = some (.slice A6 n6 c6) ∧ W.cell? ⟨r, 2, none⟩ = some (.int .i64 s2.sf) ∧ W.cell? ⟨r, 3, none⟩ = some (.int .i64 s2.fu) ∧ W.cell? ⟨r, 4, none⟩ = some (.bool s2.lo) ∧ W.cell? ⟨r, 5, none⟩ = some (.int .i64 N)) X) := fun X hX => ⟨(HST2.out.later hX).box.c0, (HST2.out.later hX).box.c1, (HST2.out.later hX).box.c2, (HST2.out.later hX).box.c3, (HST2.out.later hX).box.c4, (HST2.out.later hX).box.c5⟩
              have HON : Hid (∀ X, Below x2.heap.size x2 X → Calls Try.prog 21 #[.pointer (some ⟨g, 0, none⟩), .agg #[.int .i64 s2.cap, .slice A6 n6 c6, .int .i64 s2.sf, .int .i64 s2.fu, .bool s2.lo]] X fun e X' => e = .returned (.bool true) ∧ Below X.heap.size X X') := fun X hX => by
                have h := HST2.out.later hX
                obtain ⟨A9, n9, c9, fb, ah, hta, _⟩ := h.tp
                exact on_any hta (HOK2.out.1.mono (by omega)) h.len h.rk.rd
              have HJL : Hid (∀ X, Below x2.heap.size x2 X → Calls Try.prog 14 #[.pointer (some ⟨p, 0, none⟩)] X fun e X' => e = .returned (.int .i64 N) ∧ X = X') := fun X hX => jlen_any ((HST2.out.later hX).some_ p rfl).1
              go_wp2_with fail
              refine wp_region_held_drew (S := fun W => W.cell? ⟨r, 0, none⟩ = some (.int .i64 s2.cap) ∧ W.cell? ⟨r, 1, none⟩ = some (.slice A6 n6 c6) ∧ W.cell? ⟨r, 2, none⟩ = some (.int .i64 s2.sf) ∧ W.cell? ⟨r, 3, none⟩ = some (.int .i64 s2.fu) ∧ W.cell? ⟨r, 4, none⟩ = some (.bool s2.lo) ∧ W.cell? ⟨r, 5, none⟩ = some (.int .i64 N)) (by kernel_rfl) (by exact HSX.out _ (bel_drewN (Below.refl _ _) 1)) (fun hHeld => ?_)
              obtain ⟨y0, hx0⟩ : ∃ v, v = x2.drew := ⟨_, rfl⟩
              have hy0 : Below x2.heap.size x2 y0 := by rw [hx0]; exact bel_drewN (Below.refl _ _) 1
              rw [← hx0] at hHeld ⊢
              clear hx0
              refine Tk 0 183 ?_
              refine Tk 1 184 ?_
              refine Tk 2 185 ?_
              refine Tk 3 186 ?_
              refine Tk 4 187 ?_
              refine Tk 5 188 ?_
              refine Tk 6 189 ?_
              refine Tk 7 190 ?_
              refine Tk 8 191 ?_
              refine Tk 10 193 ?_
              refine Tk 11 194 ?_
              refine wpAnyH_ready (rs := [9]) (by kernel_rfl) (by simp) ?_
              refine AllReadyH.cons (o := ⟨some 192, _, _, _, _, _⟩) rfl (fun K hK => ?_) AllReadyH.nil
              go_simp
              (go_at_call 14; refine (HJL.out y0 hy0).mono ?_)
              rintro e x9 ⟨rfl, rfl⟩
              refine hK.out _ _ ?_ (fun hHeld2 => ?_)
              · exact hHeld
              clear hK K hHeld
              have hHeld := hHeld2
              clear hHeld2
              try simp only [Act.put, List.setIfInBounds_toArray, List.set_cons_zero, List.set_cons_succ]
              refine Tk 12 195 ?_
              refine Tk 13 196 ?_
              refine Tk 14 197 ?_
              refine Tk 15 198 ?_
              refine Tk 16 199 ?_
              refine Tk 17 200 ?_
              refine wpAnyH_ready (rs := [18]) (by kernel_rfl) (by simp) ?_
              refine AllReadyH.cons (o := ⟨some 201, _, _, _, _, _⟩) rfl (fun K hK => ?_) AllReadyH.nil
              go_simp
              (go_at_call 21; refine (HON.out y0 hy0).mono ?_)
              rintro e y1 ⟨rfl, hb⟩
              have hy1 := hy0.trans (hb.mono hy0.size)
              clear hb
              refine hK.out _ _ ?_ (fun hHeld2 => ?_)
              · exact HSX.out _ hy1
              clear hK K hHeld
              have hHeld := hHeld2
              clear hHeld2
              try simp only [Act.put, List.setIfInBounds_toArray, List.set_cons_zero, List.set_cons_succ]
              refine Tk 19 202 ?_
              refine Tk 20 203 ?_
              refine wpAnyH_done (by kernel_rfl) ?_ _
              have HST9 := Lib.hid (HST2.out.later hy1)
              have HBu9 : Hid (Below w.heap.size w y1) := HB_x2.out.trans (hy1.mono HB_x2.out.size)
              clear HSX HON HJL hy0 hy1 hHeld
              go_wp2_with fail
              go_roundw
              case rel => exact ⟨k + 1, s2, (some p), A6, n6, c6, N, ob1, rfl, rfl, by go_num, by omega, HOK2, HN2, HST9, HBu9⟩
              case measure => simp [intOf]; omega
          have q0 : (kd == 0) = false := by simp; exact hk0
          have q1 : (kd == 1) = false := by simp; exact hk1
          have q2 : (kd == 2) = false := by simp; exact hk2
          clear hk0 hk1 hk2
          have hok := HOK.out
          obtain ⟨s2, hs2⟩ : ∃ z, z = rst s x.m x.y := ⟨_, rfl⟩
          have hok2 : Okc s2 := by rw [hs2]; exact hok.rst x.m x.y
          have HS2 := Lib.hid hs2
          clear hs2
          go_wp2_with fail
          refine wp_region_held_drew (S := fun W => W.cell? ⟨b, o + k * 4, none⟩ = some (.int .u8 kd) ∧ W.cell? ⟨b, o + k * 4 + 1, none⟩ = some (.slice x.A x.n x.c) ∧ W.cell? ⟨b, o + k * 4 + 2, none⟩ = some (.int .i64 x.m) ∧ W.cell? ⟨b, o + k * 4 + 3, none⟩ = some (.int .u8 x.y.toNat)) (by kernel_rfl) (by exact HACT.out _ (HBr.out.trans ((bel_drewN (Below.refl _ _) 1).mono HBr.out.size))) (fun hHeld => ?_)
          obtain ⟨x0, hx0⟩ : ∃ v, v = wr.drew := ⟨_, rfl⟩
          have hb0 : Below wr.heap.size wr x0 := by rw [hx0]; exact bel_drewN (Below.refl _ _) 1
          have HS_x0 := Lib.hid (HSr.out.later hb0)
          have HB_x0 : Hid (Below w.heap.size w x0) := HBr.out.trans (hb0.mono HBr.out.size)
          rw [← hx0] at hHeld ⊢
          clear hx0 hb0
          obtain ⟨A7, n7, c7, fb7, ah7, hta7, hob7⟩ := HS_x0.out.tp
          have HPR := Lib.hid (restart_any x.m hta7 (by have h1 := hok.1.sf; have h2 := hta7.len; omega) (by have h1 := hok.1.len; have h2 := hta7.len; omega) hxe.2.2 x.y)
          rw [← HS2.out, hob7] at HPR
          clear hta7 hob7
          refine Tk 0 58 ?_
          refine Tk 1 59 ?_
          refine Tk 2 60 ?_
          refine Tk 3 61 ?_
          refine Tk 4 62 ?_
          refine Tk 5 63 ?_
          refine Tk 6 64 ?_
          refine Tk 7 65 ?_
          refine Tk 8 66 ?_
          refine Tk 9 67 ?_
          refine Tk 10 68 ?_
          refine wpAnyH_ready (rs := [11]) (by kernel_rfl) (by simp) ?_
          refine AllReadyH.cons (o := ⟨some 69, _, _, _, _, _⟩) rfl (fun K hK => ?_) AllReadyH.nil
          go_simp
          (go_at_call 19; refine HPR.out.mono ?_)
          rintro e u1 ⟨rfl, hd⟩
          obtain ⟨ob1, hh⟩ := HS_x0.out.did hd
          have HH := Lib.hid hh
          have HBu : Hid (Below w.heap.size w u1) := HB_x0.out.trans ((HS_x0.out.didB hd).mono hw1)
          clear hd hh
          refine hK.out _ _ ?_ (fun hHeld2 => ?_)
          · exact HACT.out _ HBu.out
          clear hK K hHeld
          have hHeld := hHeld2
          clear hHeld2
          try simp only [Act.put, List.setIfInBounds_toArray, List.set_cons_zero, List.set_cons_succ]
          refine wpAnyH_done (by kernel_rfl) ?_ _
          clear hHeld HPR
          go_wp2_with fail
          refine wp_region_held_drew (S := fun W => W.cell? ⟨b, o + k * 4, none⟩ = some (.int .u8 kd) ∧ W.cell? ⟨b, o + k * 4 + 1, none⟩ = some (.slice x.A x.n x.c) ∧ W.cell? ⟨b, o + k * 4 + 2, none⟩ = some (.int .i64 x.m) ∧ W.cell? ⟨b, o + k * 4 + 3, none⟩ = some (.int .u8 x.y.toNat)) (by kernel_rfl) (by exact HACT.out _ (HBu.out.trans ((bel_drewN (Below.refl _ _) 1).mono HBu.out.size))) (fun hHeld => ?_)
          obtain ⟨x1, hx0⟩ : ∃ v, v = u1.drew := ⟨_, rfl⟩
          have hb0 : Below u1.heap.size u1 x1 := by rw [hx0]; exact bel_drewN (Below.refl _ _) 1
          have HS_x1 := Lib.hid (HH.out.later hb0)
          have HB_x1 : Hid (Below w.heap.size w x1) := HBu.out.trans (hb0.mono HBu.out.size)
          rw [← hx0] at hHeld ⊢
          clear hx0 hb0
          have k0 := HS_x1.out.box.c0
          have k1 := HS_x1.out.box.c1
          have k2 := HS_x1.out.box.c2
          have k3 := HS_x1.out.box.c3
          have k4 := HS_x1.out.box.c4
          have k5 := HS_x1.out.box.c5
          have HMD := Lib.hid (refrestart_any x.m HS_x1.out.ok HS_x1.out.rk (by have h1 := hok.1.sf; have h2 := HS_x1.out.len; omega) (by have h1 := hok.1.len; have h2 := HS_x1.out.len; omega) x.y)
          rw [← HS2.out] at HMD
          unfold docV at HMD
          refine Tk 0 71 ?_
          refine Tk 1 72 ?_
          refine Tk 3 74 ?_
          refine Tk 4 75 ?_
          refine Tk 5 76 ?_
          refine Tk 6 77 ?_
          refine Tk 7 78 ?_
          refine Tk 8 79 ?_
          refine Tk 9 80 ?_
          refine Tk 10 81 ?_
          refine Tk 11 82 ?_
          refine Tk 12 83 ?_
          refine Tk 14 85 ?_
          refine Tk 15 86 ?_
          refine Tk 16 87 ?_
          refine Tk 17 88 ?_
          refine Tk 18 89 ?_
          refine wpAnyH_ready (rs := [2]) (by kernel_rfl) (by simp) ?_
          refine AllReadyH.cons (o := ⟨some 73, _, _, _, _, _⟩) rfl (fun K hK => ?_) AllReadyH.nil
          go_simp
          refine hK.out _ _ ?_ (fun hHeld2 => ?_)
          · exact hHeld
          clear hK K hHeld
          have hHeld := hHeld2
          clear hHeld2
          try simp only [Act.put, List.setIfInBounds_toArray, List.set_cons_zero, List.set_cons_succ]
          refine wpAnyH_ready (rs := [13]) (by kernel_rfl) (by simp) ?_
          refine AllReadyH.cons (o := ⟨some 84, _, _, _, _, _⟩) rfl (fun K hK => ?_) AllReadyH.nil
          go_simp
          (go_at_call 20; refine HMD.out.mono ?_)
          rintro e x2 ⟨v, rfl, A5, n5, c5, rfl, hl5, hr5, hb5⟩
          have HS2_ := Lib.hid (HS_x1.out.later hb5)
          have HB_x2 : Hid (Below w.heap.size w x2) := HB_x1.out.trans (hb5.mono HB_x1.out.size)
          have HOP := Lib.hid (opens_any (P := fun b => b ≠ r) HS2_.out.tp HS2_.out.low hok2.1 hok2.2.2 (hr5.mono fun b hb _ => ⟨hb.1, hb.2.1, hb.2.2.2⟩) (fun b hb => (HS2_.out.ok b hb).2.2.2) ((HXL.out.below HB_x2.out).more hw1) (show x.n ≤ 60000 by omega))
          unfold docV at HOP ⊢
          clear hl5 hr5 hb5 k0 k1 k2 k3 k4 k5
          refine hK.out _ _ ?_ (fun hHeld2 => ?_)
          · exact HACT.out _ HB_x2.out
          clear hK K hHeld
          have hHeld := hHeld2
          clear hHeld2
          try simp only [Act.put, List.setIfInBounds_toArray, List.set_cons_zero, List.set_cons_succ]
          refine wpAnyH_ready (rs := [19]) (by kernel_rfl) (by simp) ?_
          refine AllReadyH.cons (o := ⟨some 90, _, _, _, _, _⟩) rfl (fun K hK => ?_) AllReadyH.nil
          go_simp
          (go_at_call 10; refine HOP.out.mono ?_)
          rintro e x3 ⟨s9, jq, A6, n6, c6, N6, ob6, rfl, h⟩
          have HO := Lib.hid h
          unfold docJ
          have HB_x3 : Hid (Below w.heap.size w x3) := HB_x2.out.trans ((h.two.below HS2_.out.tp.lo_.1 (fun b hb => (HS2_.out.tp.obl b hb).1) HS2_.out.low).mono hw1)
          have HBX3 := Lib.hid (HS2_.out.box.two h.two HS2_.out.neg HS2_.out.neo)
          clear h
          have z0 := HBX3.out.c0
          have m0 := HBX3.out.free.2 0
          have z1 := HBX3.out.c1
          have m1 := HBX3.out.free.2 1
          have z2 := HBX3.out.c2
          have m2 := HBX3.out.free.2 2
          have z3 := HBX3.out.c3
          have m3 := HBX3.out.free.2 3
          have z4 := HBX3.out.c4
          have m4 := HBX3.out.free.2 4
          have z5 := HBX3.out.c5
          have m5 := HBX3.out.free.2 5
          refine hK.out _ _ ?_ (fun hHeld2 => ?_)
          · exact HACT.out _ HB_x3.out
          clear hK K hHeld
          have hHeld := hHeld2
          clear hHeld2
          try simp only [Act.put, List.setIfInBounds_toArray, List.set_cons_zero, List.set_cons_succ]
          refine Tk 20 70 ?_
          refine Tk 21 91 ?_
          refine Tk 22 92 ?_
          refine Tk 23 93 ?_
          refine Tk 24 9 ?_
          refine wpAnyH_ready (rs := [25]) (by kernel_rfl) (by simp) ?_
          refine AllReadyH.cons (o := ⟨none, _, _, _, _, _⟩) rfl (fun K hK => ?_) AllReadyH.nil
          go_simp
          refine hK.out _ _ ?_ (fun hHeld2 => ?_)
          · exact HACT.out _ (bel_st6 HB_x3.out hrw)
          clear hK K hHeld
          have hHeld := hHeld2
          clear hHeld2
          obtain ⟨x4, hx4⟩ : ∃ W, W = ((((((x3.setCell ⟨r, 0, none⟩ (.int .i64 s9.cap)).setCell ⟨r, 1, none⟩ (.slice A6 n6 c6)).setCell ⟨r, 2, none⟩ (.int .i64 s9.sf)).setCell ⟨r, 3, none⟩ (.int .i64 s9.fu)).setCell ⟨r, 4, none⟩ (.bool s9.lo)).setCell ⟨r, 5, none⟩ (.int .i64 N6)) := ⟨_, rfl⟩
          have ht4 : Two r none x3 x4 := by rw [hx4]; exact two_st6 (Two.refl _ _ _)
          have hbd : BoxJ x4 r s9 A6 n6 c6 N6 := by rw [hx4]; exact box_st6 HBX3.out
          have HST2 := Lib.hid (Hf.opens HS2_.out.box HS2_.out.neg HS2_.out.neo HS2_.out.lor HS2_.out.low HO.out ht4 hbd)
          have HB_x4 : Hid (Below w.heap.size w x4) := by unfold Hid; rw [hx4]; exact bel_st6 HB_x3.out hrw
          have HOK2 : Hid (Okc s9) := ⟨HO.out.good, by rw [HO.out.cap]; exact HO.out.fitc hok2.2.1, by rw [HO.out.cap]; exact hok2.2.2⟩
          have HN2 : Hid (0 ≤ N6 ∧ N6 ≤ 10000 + ((k + 1 : Nat) : Int)) := by unfold Hid; have := HO.out.cnt; omega
          rw [← hx4] at hHeld ⊢
          clear hx4 ht4 hbd z0 z1 z2 z3 z4 z5 m0 m1 m2 m3 m4 m5
          try simp only [Act.put, List.setIfInBounds_toArray, List.set_cons_zero, List.set_cons_succ]
          refine Tk 26 11 ?_
          refine wpAnyH_done (by kernel_rfl) ?_ _
          clear hHeld HMD HOP
          rcases jq with _ | p
          · have HSX : Hid (∀ X, Below x4.heap.size x4 X → (fun W => W.cell? ⟨r, 0, none⟩ = some (.int .i64 s9.cap) ∧ W.cell? ⟨r, 1, none⟩ = some (.slice A6 n6 c6) ∧ W.cell? ⟨r, 2, none⟩ = some (.int .i64 s9.sf) ∧ W.cell? ⟨r, 3, none⟩ = some (.int .i64 s9.fu) ∧ W.cell? ⟨r, 4, none⟩ = some (.bool s9.lo) ∧ W.cell? ⟨r, 5, none⟩ = some (.int .i64 N6)) X) := fun X hX => ⟨(HST2.out.later hX).box.c0, (HST2.out.later hX).box.c1, (HST2.out.later hX).box.c2, (HST2.out.later hX).box.c3, (HST2.out.later hX).box.c4, (HST2.out.later hX).box.c5⟩
            have HON : Hid (∀ X, Below x4.heap.size x4 X → Calls Try.prog 21 #[.pointer (some ⟨g, 0, none⟩), .agg #[.int .i64 s9.cap, .slice A6 n6 c6, .int .i64 s9.sf, .int .i64 s9.fu, .bool s9.lo]] X fun e X' => e = .returned (.bool true) ∧ Below X.heap.size X X') := fun X hX => by
              have h := HST2.out.later hX
              obtain ⟨A9, n9, c9, fb, ah, hta, _⟩ := h.tp
              exact on_any hta (HOK2.out.1.mono (by omega)) h.len h.rk.rd
            have HJL : Hid (∀ X, Below x4.heap.size x4 X → Calls Try.prog 14 #[.pointer none] X fun e X' => e = .returned (.int .i64 N6) ∧ X = X') := fun X hX => by have h := (HST2.out.none_ rfl); rw [h]; exact jlen_nil X
            go_wp2_with fail
            refine wp_region_held_drew (S := fun W => W.cell? ⟨r, 0, none⟩ = some (.int .i64 s9.cap) ∧ W.cell? ⟨r, 1, none⟩ = some (.slice A6 n6 c6) ∧ W.cell? ⟨r, 2, none⟩ = some (.int .i64 s9.sf) ∧ W.cell? ⟨r, 3, none⟩ = some (.int .i64 s9.fu) ∧ W.cell? ⟨r, 4, none⟩ = some (.bool s9.lo) ∧ W.cell? ⟨r, 5, none⟩ = some (.int .i64 N6)) (by kernel_rfl) (by exact HSX.out _ (bel_drewN (Below.refl _ _) 1)) (fun hHeld => ?_)
            obtain ⟨y0, hx0⟩ : ∃ v, v = x4.drew := ⟨_, rfl⟩
            have hy0 : Below x4.heap.size x4 y0 := by rw [hx0]; exact bel_drewN (Below.refl _ _) 1
            rw [← hx0] at hHeld ⊢
            clear hx0
            refine Tk 0 183 ?_
            refine Tk 1 184 ?_
            refine Tk 2 185 ?_
            refine Tk 3 186 ?_
            refine Tk 4 187 ?_
            refine Tk 5 188 ?_
            refine Tk 6 189 ?_
            refine Tk 7 190 ?_
            refine Tk 8 191 ?_
            refine Tk 10 193 ?_
            refine Tk 11 194 ?_
            refine wpAnyH_ready (rs := [9]) (by kernel_rfl) (by simp) ?_
            refine AllReadyH.cons (o := ⟨some 192, _, _, _, _, _⟩) rfl (fun K hK => ?_) AllReadyH.nil
            go_simp
            (go_at_call 14; refine (HJL.out y0 hy0).mono ?_)
            rintro e x9 ⟨rfl, rfl⟩
            refine hK.out _ _ ?_ (fun hHeld2 => ?_)
            · exact hHeld
            clear hK K hHeld
            have hHeld := hHeld2
            clear hHeld2
            try simp only [Act.put, List.setIfInBounds_toArray, List.set_cons_zero, List.set_cons_succ]
            refine Tk 12 195 ?_
            refine Tk 13 196 ?_
            refine Tk 14 197 ?_
            refine Tk 15 198 ?_
            refine Tk 16 199 ?_
            refine Tk 17 200 ?_
            refine wpAnyH_ready (rs := [18]) (by kernel_rfl) (by simp) ?_
            refine AllReadyH.cons (o := ⟨some 201, _, _, _, _, _⟩) rfl (fun K hK => ?_) AllReadyH.nil
            go_simp
            (go_at_call 21; refine (HON.out y0 hy0).mono ?_)
            rintro e y1 ⟨rfl, hb⟩
            have hy1 := hy0.trans (hb.mono hy0.size)
            clear hb
            refine hK.out _ _ ?_ (fun hHeld2 => ?_)
            · exact HSX.out _ hy1
            clear hK K hHeld
            have hHeld := hHeld2
            clear hHeld2
            try simp only [Act.put, List.setIfInBounds_toArray, List.set_cons_zero, List.set_cons_succ]
            refine Tk 19 202 ?_
            refine Tk 20 203 ?_
            refine wpAnyH_done (by kernel_rfl) ?_ _
            have HST9 := Lib.hid (HST2.out.later hy1)
            have HBu9 : Hid (Below w.heap.size w y1) := HB_x4.out.trans (hy1.mono HB_x4.out.size)
            clear HSX HON HJL hy0 hy1 hHeld
            go_wp2_with fail
            go_roundw
            case rel => exact ⟨k + 1, s9, none, A6, n6, c6, N6, ob6, rfl, rfl, by go_num, by omega, HOK2, HN2, HST9, HBu9⟩
            case measure => simp [intOf]; omega
          · have HSX : Hid (∀ X, Below x4.heap.size x4 X → (fun W => W.cell? ⟨r, 0, none⟩ = some (.int .i64 s9.cap) ∧ W.cell? ⟨r, 1, none⟩ = some (.slice A6 n6 c6) ∧ W.cell? ⟨r, 2, none⟩ = some (.int .i64 s9.sf) ∧ W.cell? ⟨r, 3, none⟩ = some (.int .i64 s9.fu) ∧ W.cell? ⟨r, 4, none⟩ = some (.bool s9.lo) ∧ W.cell? ⟨r, 5, none⟩ = some (.int .i64 N6)) X) := fun X hX => ⟨(HST2.out.later hX).box.c0, (HST2.out.later hX).box.c1, (HST2.out.later hX).box.c2, (HST2.out.later hX).box.c3, (HST2.out.later hX).box.c4, (HST2.out.later hX).box.c5⟩
            have HON : Hid (∀ X, Below x4.heap.size x4 X → Calls Try.prog 21 #[.pointer (some ⟨g, 0, none⟩), .agg #[.int .i64 s9.cap, .slice A6 n6 c6, .int .i64 s9.sf, .int .i64 s9.fu, .bool s9.lo]] X fun e X' => e = .returned (.bool true) ∧ Below X.heap.size X X') := fun X hX => by
              have h := HST2.out.later hX
              obtain ⟨A9, n9, c9, fb, ah, hta, _⟩ := h.tp
              exact on_any hta (HOK2.out.1.mono (by omega)) h.len h.rk.rd
            have HJL : Hid (∀ X, Below x4.heap.size x4 X → Calls Try.prog 14 #[.pointer (some ⟨p, 0, none⟩)] X fun e X' => e = .returned (.int .i64 N6) ∧ X = X') := fun X hX => jlen_any ((HST2.out.later hX).some_ p rfl).1
            go_wp2_with fail
            refine wp_region_held_drew (S := fun W => W.cell? ⟨r, 0, none⟩ = some (.int .i64 s9.cap) ∧ W.cell? ⟨r, 1, none⟩ = some (.slice A6 n6 c6) ∧ W.cell? ⟨r, 2, none⟩ = some (.int .i64 s9.sf) ∧ W.cell? ⟨r, 3, none⟩ = some (.int .i64 s9.fu) ∧ W.cell? ⟨r, 4, none⟩ = some (.bool s9.lo) ∧ W.cell? ⟨r, 5, none⟩ = some (.int .i64 N6)) (by kernel_rfl) (by exact HSX.out _ (bel_drewN (Below.refl _ _) 1)) (fun hHeld => ?_)
            obtain ⟨y0, hx0⟩ : ∃ v, v = x4.drew := ⟨_, rfl⟩
            have hy0 : Below x4.heap.size x4 y0 := by rw [hx0]; exact bel_drewN (Below.refl _ _) 1
            rw [← hx0] at hHeld ⊢
            clear hx0
            refine Tk 0 183 ?_
            refine Tk 1 184 ?_
            refine Tk 2 185 ?_
            refine Tk 3 186 ?_
            refine Tk 4 187 ?_
            refine Tk 5 188 ?_
            refine Tk 6 189 ?_
            refine Tk 7 190 ?_
            refine Tk 8 191 ?_
            refine Tk 10 193 ?_
            refine Tk 11 194 ?_
            refine wpAnyH_ready (rs := [9]) (by kernel_rfl) (by simp) ?_
            refine AllReadyH.cons (o := ⟨some 192, _, _, _, _, _⟩) rfl (fun K hK => ?_) AllReadyH.nil
            go_simp
            (go_at_call 14; refine (HJL.out y0 hy0).mono ?_)
            rintro e x9 ⟨rfl, rfl⟩
            refine hK.out _ _ ?_ (fun hHeld2 => ?_)
            · exact hHeld
            clear hK K hHeld
            have hHeld := hHeld2
            clear hHeld2
            try simp only [Act.put, List.setIfInBounds_toArray, List.set_cons_zero, List.set_cons_succ]
            refine Tk 12 195 ?_
            refine Tk 13 196 ?_
            refine Tk 14 197 ?_
            refine Tk 15 198 ?_
            refine Tk 16 199 ?_
            refine Tk 17 200 ?_
            refine wpAnyH_ready (rs := [18]) (by kernel_rfl) (by simp) ?_
            refine AllReadyH.cons (o := ⟨some 201, _, _, _, _, _⟩) rfl (fun K hK => ?_) AllReadyH.nil
            go_simp
            (go_at_call 21; refine (HON.out y0 hy0).mono ?_)
            rintro e y1 ⟨rfl, hb⟩
            have hy1 := hy0.trans (hb.mono hy0.size)
            clear hb
            refine hK.out _ _ ?_ (fun hHeld2 => ?_)
            · exact HSX.out _ hy1
            clear hK K hHeld
            have hHeld := hHeld2
            clear hHeld2
            try simp only [Act.put, List.setIfInBounds_toArray, List.set_cons_zero, List.set_cons_succ]
            refine Tk 19 202 ?_
            refine Tk 20 203 ?_
            refine wpAnyH_done (by kernel_rfl) ?_ _
            have HST9 := Lib.hid (HST2.out.later hy1)
            have HBu9 : Hid (Below w.heap.size w y1) := HB_x4.out.trans (hy1.mono HB_x4.out.size)
            clear HSX HON HJL hy0 hy1 hHeld
            go_wp2_with fail
            go_roundw
            case rel => exact ⟨k + 1, s9, (some p), A6, n6, c6, N6, ob6, rfl, rfl, by go_num, by omega, HOK2, HN2, HST9, HBu9⟩
            case measure => simp [intOf]; omega
        · have hki : ¬ ((k : Int) < (m : Int)) := by omega
          obtain rfl : k = m := by omega
          go_wp2_with fail
          go_ret
          exact ⟨by first | rfl | simp, HBr.out⟩
set_option maxRecDepth 100000 in
theorem lifted (os : Os) (started : os.Started) (H : Type) (enc : TypeId × Value → H) :
    ReturnsInHanded {} Try.checked os 3 .any (Rows.journalPlaysSpec.pre6 enc Try.prog Try.f3 Rows.journalPlaysRow.domain false) (Rows.journalPlaysSpec.post enc Try.prog Try.f3 false true false false) := by
  refine returnsInHanded_of_change (C := Try.checked) own started (by kernel_rfl) Try.func3
    (ChangeSpec.witness6 (enc := enc) (C := Try.checked) false ⟨#[], #[.int .u16 0, .slice none 0 0, .slice none 0 0], []⟩ 8 (by kernel_rfl) (by kernel_rfl) (by kernel_rfl) (by kernel_rfl)) ?_
  intro W base args ds gs before hval0 hW _ _
  have hval : ∀ (j : Nat) t v, Try.f3.params[j]? = some t → args[j]? = some v → Value.okWide Try.prog W .any base t v := hval0
  have hW' := hW
  obtain ⟨p, q, hA0, hV, rfl, hfz, hnd⟩ := hW
  have hA : DataW.TrodAll enc Try.prog W 0 (fun _ => true) true Try.f3.params.toList args.toList ds p := hA0
  rw [Try.params3] at hA hval
  obtain ⟨v0, v1, v2, d0, d1, d2, p0, p1, p2, rfl, rfl, rfl, h0, h1, h2⟩ := trodAll_three hA
  obtain ⟨rfl, rfl⟩ := trodVars_none hV
  obtain ⟨x0, rfl, rfl, rfl, w0⟩ := open_int Try.underlying22 (hval 0 22 v0 rfl rfl) h0
  obtain ⟨a1, len1, cap1, rfl⟩ := okWide_slice Try.underlying23 (hval 1 23 v1 rfl rfl)
  obtain ⟨fuel1, hf1⟩ := h1
  obtain ⟨bs1, rfl, hr1, _⟩ := By.bytes_of_trod hf1
  obtain ⟨a2, len2, cap2, rfl⟩ := okWide_slice Try.underlying24 (hval 2 24 v2 rfl rfl)
  obtain ⟨fuel2, hf2⟩ := h2
  obtain ⟨l2, hl2, hm2⟩ := Jrn.acts_of_trod hf2
  refine (walk_any x0 bs1 a1 cap1 l2 len2 a2 cap2 W (By.wf_u16 w0) hr1 hl2 hm2).mono fun e W' ⟨he, hb⟩ => ?_
  subst he
  exact ⟨_, rfl, law_post hW' (by kernel_rfl) rfl rfl rfl hb⟩
theorem proved : Rows.JournalPlaysSaid :=
  OpenClaim.holds_of_wide 3 Try.f3 rfl rfl rfl rfl rfl rfl rfl ⟨rfl, rfl, rfl, rfl, rfl⟩ rfl rfl rfl rfl rfl (by kernel_rfl) Try.func3 (by kernel_rfl)
    (of_decide_eq_true (by kernel_rfl)) (by unfold Func.isWrapper; first | (rw [if_pos (by decide +kernel)]; kernel_rfl) | (rw [if_neg (by decide +kernel)]; exact ⟨rfl, rfl⟩))
    (fun os started H enc _ => lifted os started H enc)
#print axioms proved
end lawJournalPlays
end Go.Proofs.Ytcffbgehopjgpaa
