/- sorted.Merge by a function that notes what it was asked: the whole. -/
import Derived.Test.YtolfockpiioncaaMerge3
namespace Go.Proofs.Ytolfockpiioncaa
open Go.RowKit
namespace SortS
/-- what Merge answers: the merged map; what was asked is noted; nothing else has turned -/
def Noted (a b : Ps) (P : Nat) (w : World) (e : Ending) (w' : World) : Prop := ∃ A c g, e = .returned (.agg #[.slice A (mrg put2 a b).length c]) ∧ Own w' w.heap.size 60 2 A (mrg put2 a b).length c (flat (mrg put2 a b)) ∧ LogAt w' P g (met a b) ∧ Two P none w w'
/-- a round in which a key is met -/
theorem eq_round {W0 w w2 : World} {P : Nat} {g g' : Option Nat} {L L' : List (Int × Int)} {v : Value} {acc : Ps} {gx ox gy oy : Nat} {kx ky : ByteArray} {vx vy : Int} {p : ByteArray × Int} (o : Out2 W0 w P g L v acc) (hlog : LogAt w2 P g' L') (ht : Two P g w w2) (hf : Fresh g g' w) (hn : acc.length ≤ 1000) (q : Nat) (hq : w2.heap.size = q) (hgx : gx < P) (hgy : gy < P)
    (k0 : w.cell? ⟨gx, ox, none⟩ = some (.string kx)) (k1 : w.cell? ⟨gx, ox + 1, none⟩ = some (.int .i64 vx)) (k2 : w.cell? ⟨gy, oy, none⟩ = some (.string ky)) (k3 : w.cell? ⟨gy, oy + 1, none⟩ = some (.int .i64 vy)) :
    ∃ v' w', (Builtin.append_ #[24, 24] 24 #[v, .slice (some ⟨q, 0, none⟩) 1 1]).run Try.prog (w2.alloc (.cells #[.string p.1, .int .i64 p.2] 60)) = .ok v' w' ∧ Out2 W0 w' P g' L' v' (acc ++ [p]) ∧
      (∀ p : Addr, p.block < P → w'.cell? p = w.cell? p) ∧
      w2.cell? ⟨gx, ox, none⟩ = some (.string kx) ∧ w2.cell? ⟨gx, ox + 1, none⟩ = some (.int .i64 vx) ∧ w2.cell? ⟨gy, oy, none⟩ = some (.string ky) ∧ w2.cell? ⟨gy, oy + 1, none⟩ = some (.int .i64 vy) ∧
      w'.cell? ⟨gx, ox, none⟩ = some (.string kx) ∧ w'.cell? ⟨gx, ox + 1, none⟩ = some (.int .i64 vx) ∧ w'.cell? ⟨gy, oy, none⟩ = some (.string ky) ∧ w'.cell? ⟨gy, oy + 1, none⟩ = some (.int .i64 vy) := by
  obtain ⟨v', w', h1, h2, h3⟩ := (o.note hlog ht hf).push q hq p hn
  have hP := o.log.lt
  have hpl := o.pl
  have c2 : ∀ p : Addr, p.block < P → w2.cell? p = w.cell? p := fun p hp => ht.cell (by omega) (by omega) (fun e => by have := (o.log.glt e.symm).1; omega)
  have c3 : ∀ p : Addr, p.block < P → w'.cell? p = w.cell? p := fun p hp => (h3.cell (by omega)).trans (c2 p hp)
  exact ⟨v', w', h1, h2, c3, (c2 _ hgx).trans k0, (c2 _ hgx).trans k1, (c2 _ hgy).trans k2, (c2 _ hgy).trans k3, (c3 _ hgx).trans k0, (c3 _ hgx).trans k1, (c3 _ hgy).trans k2, (c3 _ hgy).trans k3⟩
set_option maxRecDepth 100000 in
set_option maxHeartbeats 2000000 in
theorem merge_note (a b : Ps) (A B : Option Addr) (ca cb P : Nat) (w : World) (hlog : LogAt w P none []) (ha : Rd w P 2 A a.length ca (flat a)) (hb : Rd w P 2 B b.length cb (flat b)) (hla : a.length ≤ 300) (hlb : b.length ≤ 300) :
    Calls Try.prog 22 #[.agg #[.slice A a.length ca], .agg #[.slice B b.length cb], .func (.func 23) #[] #[.pointer (some ⟨P, 0, none⟩)]] w (Noted a b P w) := by
  have HLOG := Lib.hid hlog
  have hPw := hlog.lt
  clear hlog
  have HA := Lib.hid ha
  have HB := Lib.hid hb
  clear ha hb
  obtain ⟨i0, hi0, hz0, hz1, hz2⟩ := info_parts info
  obtain ⟨N, hN⟩ : ∃ N, N = a.length + b.length := ⟨_, rfl⟩
  have hNi : (a.length : Int) + b.length = (N : Int) := by omega
  have hm48 : i0.bytes * N ≤ 281474976710656 := by rw [hz2]; omega
  have hm63 : N ≤ maxLen := by simp only [maxLen]; omega
  have HN := Lib.hid hN
  clear hN
  have hmf : ∀ (fn : Fn) (first cap : Array Value) (w : World), (Instr.makeFunc fn first cap).run Try.prog w = .ok (.func fn first cap) w := fun _ _ _ _ => rfl
  go_enter_defers Try.func22, Try.ntmps22
  go_wp2
  go_quiet (fail)
  obtain ⟨W0, hW0⟩ : ∃ W0, W0 = (((w.alloc (.cells #[.slice A a.length ca] 26)).alloc (.cells #[.slice B b.length cb] 26)).alloc (.cells #[.slice none 0 0] 26)).drewN nq := ⟨_, rfl⟩
  obtain ⟨q, hq⟩ : ∃ q, q = w.heap.size + 1 + 1 := ⟨_, rfl⟩
  rw [← hW0, ← hq]
  have r0 : W0.cell? ⟨q, 0, none⟩ = some (.slice none 0 0) := by rw [hW0, hq]; go_simp
  have r1 : W0.frozen? ⟨q, 0, none⟩ = false := by rw [hW0, hq]; go_simp
  have hBW : Below w.heap.size w W0 := by
    rw [hW0]
    exact bel_drewN ((((Below.refl _ _).alloc (Nat.le_refl _) _).alloc (by simp) _).alloc (by simp; omega) _) nq
  have hqs : q < W0.heap.size := World.block_lt_of_cell? W0 _ r0
  have hqw : w.heap.size ≤ q := by omega
  have HBW := Lib.hid hBW
  clear hW0 hq hBW
  go_wp2_with (at_make; refine wpList_make_own _ rfl _ _ _ rfl W0.heap.size 60 i0 _ 2 Try.underlying24 hi0 hz0 hz1 .i64 .i64 _ N rfl rfl rfl hm48 hm63 (Nat.le_refl _) ?_; intro w3 hout hg3)
  have hB3 : Below W0.heap.size W0 w3 := (Below.refl _ _).grown hg3 (Nat.le_refl _) (by intro k hk; cases hk)
  have HO3 := Lib.hid hout
  have HB3 := Lib.hid hB3
  clear hg3 hout hB3
  go_loopw [7, 8, 9] (fun x y v wr => ∃ (xs ys acc : Ps) (L : List (Int × Int)) (g : Option Nat) (A' B' : Option Addr) (c1 c2 : Nat), x = .slice A' xs.length c1 ∧ y = .slice B' ys.length c2 ∧ Out2 W0 wr P g L v acc ∧
    xs.length ≤ 300 ∧ ys.length ≤ 300 ∧ Rd wr P 2 A' xs.length c1 (flat xs) ∧ Rd wr P 2 B' ys.length c2 (flat ys) ∧ Hid (Mid2 a b xs ys acc L)) (fun x y _ _ => (sliceLen x + sliceLen y))
  case atStart =>
    have hk1 : ∀ {A : Option Addr} {n c : Nat} {l : List Value}, Rd w P 2 A n c l → Rd w3 P 2 A n c l := fun h => (h.keep (fun p hp => HBW.out.cell (by omega))).keep (fun p hp => HB3.out.cell (by have := HBW.out.size; omega))
    exact ⟨a, b, [], [], none, A, B, ca, cb, rfl, rfl, ⟨by simpa [flat, flat2] using HO3.out, (HLOG.out.below HBW.out).below HB3.out, (fun k _ => by simp), Two.of_below HB3.out, Fresh.refl _ _, by have := HBW.out.size; omega⟩, hla, hlb, hk1 HA.out, hk1 HB.out, ⟨rfl, rfl⟩⟩
  case round =>
    obtain ⟨xs, ys, acc, L, g, A', B', c1, c2, rfl, rfl, hout, hx3, hy3, hrx, hry, hmid⟩ := hrel
    have hal : acc.length ≤ 600 := by
      have h1 := congrArg List.length hmid.1
      have h2 := mrg_len put2 _ a b (Nat.le_refl _)
      rw [List.length_append] at h1
      omega
    have hLl : L.length ≤ 600 := by
      have h1 := congrArg List.length hmid.2
      have h2 := mrg_len put2 _ a b (Nat.le_refl _)
      rw [List.length_append] at h1
      omega
    obtain ⟨A3, c3, rfl, _⟩ := Own.of_row hout.own (flat_one _)
    have HO := Lib.hid hout
    have HPl := hout.pl
    have hPwr : P < wr.heap.size := hout.log.lt
    have HRX := Lib.hid hrx
    have HRY := Lib.hid hry
    clear hout hrx hry
    by_cases hend : xs = [] ∨ ys = []
    · have hfin : Hid (acc ++ xs ++ ys = mrg put2 a b) := by
        have h1 : acc ++ mrg put2 xs ys = mrg put2 a b := hmid.1
        unfold Hid
        rcases hend with rfl | rfl
        · rw [mrg_nil] at h1; simpa using h1
        · rw [mrg_nil'] at h1; simpa using h1
      have hfin2 : L = met a b := by
        have h1 : L ++ met xs ys = met a b := hmid.2
        rcases hend with rfl | rfl
        · rw [met_nil] at h1; simpa using h1
        · rw [met_nil'] at h1; simpa using h1
      obtain ⟨n1, hn1⟩ : ∃ n, n = xs.length := ⟨_, rfl⟩
      obtain ⟨n2, hn2⟩ : ∃ n, n = ys.length := ⟨_, rfl⟩
      have hg : (decide ((0 : Int) < n1) = false ∧ decide (0 < n1) = false) ∨ ((decide ((0 : Int) < n1) = true ∧ decide (0 < n1) = true) ∧ decide ((0 : Int) < n2) = false ∧ decide (0 < n2) = false) := by
        by_cases h0 : n1 = 0
        · exact .inl ⟨by simp; omega, by simp; omega⟩
        · refine .inr ⟨⟨by simp; omega, by simp; omega⟩, ?_⟩
          have : ys = [] := by
            rcases hend with h | h
            · rw [h] at hn1; exact absurd hn1 h0
            · exact h
          rw [this] at hn2
          simp at hn2
          rw [hn2]; exact ⟨rfl, rfl⟩
      rw [← hn1] at hx3 HRX ⊢
      rw [← hn2] at hy3 HRY ⊢
      obtain ⟨v2, w4, hrun, hacc2, hb4⟩ := HO.out.app hn1.symm HRX.out (by omega)
      obtain ⟨v5, w5, hrun5, hacc5, hb5⟩ := hacc2.app hn2.symm (HRY.out.keep (fun p hp => hb4.cell (by omega))) (by rw [List.length_append]; omega)
      rw [hfin.out] at hacc5
      obtain ⟨M, hM⟩ : ∃ M, M = mrg put2 a b := ⟨_, rfl⟩
      rw [← hM] at hacc5
      obtain ⟨A5, c5, rfl, hown5⟩ := Own.of_row hacc5.own (flat_one _)
      have hqP : q ≠ P := by omega
      have r5 : w5.cell? ⟨q, 0, none⟩ = some (.slice none 0 0) := (hacc5.two.cell (p := ⟨q, 0, none⟩) hqs hqP (by simp)).trans r0
      have r6 : w5.frozen? ⟨q, 0, none⟩ = false := (hacc5.two.frozen (p := ⟨q, 0, none⟩) hqs hqP (by simp)).trans r1
      have HAC := Lib.hid hacc5
      have HL2 := Lib.hid hfin2
      have Hrun := Lib.hid hrun
      have Hrun5 := Lib.hid hrun5
      have HOWN := Lib.hid hown5
      have HM := Lib.hid hM
      clear hend hn1 hn2 hrun hrun5 hacc2 hacc5 hown5 hb4 hb5 hM hmid r0 r1 hfin2
      rcases hg with ⟨hg1, hg1'⟩ | ⟨⟨hg1, hg1'⟩, hg2, hg2'⟩
      all_goals
        go_wp2_with (at_builtin; first
          | (refine Lib.wpList_append_run _ rfl _ _ _ _ rfl _ _ rfl rfl _ _ Hrun.out ?_; clear Hrun)
          | (refine Lib.wpList_append_run _ rfl _ _ _ _ rfl _ _ rfl rfl _ _ Hrun5.out ?_))
        refine leaves_cons (f := 41) (args := #[.pointer (some ⟨q, 0, none⟩)]) (by simp) (by simp [go_sem]) ?_
        refine (catch_idle ⟨q, 0, none⟩ _).mono ?_
        rintro e u' w'' ⟨rfl, rfl, rfl⟩
        simp [Leaves, settle, results, Try.results22, go_sem, r5]
        refine ⟨A5, c5, g, by rw [← HM.out], ?_, ?_, ?_⟩
        · rw [← HM.out]; exact (HOWN.out.set_below (a := ⟨q, 0, none⟩) hqs _).mono HBW.out.size
        · rw [← HL2.out]
          refine HAC.out.log.setCell hqP (fun e => ?_) _
          rcases HAC.out.fr with h | h | ⟨k, h, h2⟩
          · rw [h] at e; cases e
          · rw [h] at e; cases e
          · rw [h] at e; injection e with e; omega
        · exact two_set ((Two.of_below HBW.out).trans (Fresh.refl _ _) HAC.out.two) hqw _
    · cases xs with
      | nil => exact absurd (.inl rfl) hend
      | cons x xs =>
       cases ys with
       | nil => exact absurd (.inr rfl) hend
       | cons y ys =>
        clear hend
        have hcx := HRX.out.cap
        have hcy := HRY.out.cap
        obtain ⟨gx, ox, rfl, hgx, hcx1⟩ := HRX.out.at_ (by simp)
        obtain ⟨gy, oy, rfl, hgy, hcy1⟩ := HRY.out.at_ (by simp)
        have k0 : wr.cell? ⟨gx, ox, none⟩ = some (.string x.1) := hcx1 0 _ rfl
        have k1 : wr.cell? ⟨gx, ox + 1, none⟩ = some (.int .i64 x.2) := hcx1 1 _ rfl
        have k2 : wr.cell? ⟨gy, oy, none⟩ = some (.string y.1) := hcy1 0 _ rfl
        have k3 : wr.cell? ⟨gy, oy + 1, none⟩ = some (.int .i64 y.2) := hcy1 1 _ rfl
        obtain ⟨nx, hnx⟩ : ∃ n, n = xs.length := ⟨_, rfl⟩
        obtain ⟨ny, hny⟩ : ∃ n, n = ys.length := ⟨_, rfl⟩
        have hlx : (x :: xs).length = nx + 1 := by rw [hnx]; rfl
        have hly : (y :: ys).length = ny + 1 := by rw [hny]; rfl
        rw [hlx] at hcx hx3 HRX ⊢
        rw [hly] at hcy hy3 HRY ⊢
        have hcutx : ∀ W, _ := fun W => run_cut_from (P := Try.prog) 24 60 2 Try.underlying24 hi0 hz1 (some ⟨gx, ox, none⟩) (nx + 1) c1 1 (by omega) W
        have hcuty : ∀ W, _ := fun W => run_cut_from (P := Try.prog) 24 60 2 Try.underlying24 hi0 hz1 (some ⟨gy, oy, none⟩) (ny + 1) c2 1 (by omega) W
        obtain ⟨AX, hAX⟩ : ∃ AX, AX = (if c1 = 1 then some (⟨gx, ox, none⟩ : Addr) else (some (⟨gx, ox, none⟩ : Addr)).map (·.add (1 * 2))) := ⟨_, rfl⟩
        obtain ⟨AY, hAY⟩ : ∃ AY, AY = (if c2 = 1 then some (⟨gy, oy, none⟩ : Addr) else (some (⟨gy, oy, none⟩ : Addr)).map (·.add (1 * 2))) := ⟨_, rfl⟩
        have htx := rd_tail HRX.out
        have hty := rd_tail HRY.out
        rw [← hAX] at htx hcutx
        rw [← hAY] at hty hcuty
        rw [Nat.add_sub_cancel] at hcutx hcuty
        have hcx2 : ∀ W, (Instr.slice 24 (.slice (some ⟨gx, ox, none⟩) (nx + 1) c1) (some (.int .i64 1)) none none).run Try.prog W = .ok (.slice AX nx (c1 - 1)) W := hcutx
        have hcy2 : ∀ W, (Instr.slice 24 (.slice (some ⟨gy, oy, none⟩) (ny + 1) c2) (some (.int .i64 1)) none none).run Try.prog W = .ok (.slice AY ny (c2 - 1)) W := hcuty
        clear hcutx hcuty
        have HTX := Lib.hid htx
        have HTY := Lib.hid hty
        have HNX := Lib.hid hnx
        have HNY := Lib.hid hny
        have hn1 : (0 : Int) < (nx : Int) + 1 := by omega
        have hn2 : (0 : Int) < (ny : Int) + 1 := by omega
        have hgx' : gx < wr.heap.size := by omega
        have hgy' : gy < wr.heap.size := by omega
        clear hAX hAY htx hty hcx1 hcy1 hlx hly hnx hny
        rcases tot_str.tri x.1 y.1 with h | h | h
        · have hm2 : Hid (Mid2 a b xs (y :: ys) (acc ++ [x]) L) := by
            refine ⟨?_, ?_⟩
            · rw [← hmid.1, mrg_lt h]; simp
            · rw [← hmid.2, met_lt h]
          have HC := fun W => Lib.hid (cmp_is x.1 y.1 (-1) (cmpK_lt h) W)
          clear h
          go_wp2
          go_quiet ((go_at_call 37; exact Calls.quiet_of_same (HC _).out))
          go_wp2
          obtain ⟨v2, w4, hrun, hacc2, hb4⟩ := (HO.out.later ((bel_drewN (Below.refl _ _) nq).drew)).push wr.heap.size rfl x (by omega)
          have Hrun := Lib.hid hrun
          have hb5 : Below W0.heap.size wr w4 := ((bel_drewN (Below.refl _ _) nq).drew).trans hb4
          have i0 : w4.cell? ⟨gx, ox, none⟩ = some (.string x.1) := (hb5.cell (p := ⟨gx, ox, none⟩) (show gx < _ by omega)).trans k0
          have i1 : w4.cell? ⟨gx, ox + 1, none⟩ = some (.int .i64 x.2) := (hb5.cell (p := ⟨gx, ox + 1, none⟩) (show gx < _ by omega)).trans k1
          clear hrun hb4 k2 k3
          go_region_held3 (fun W => W.cell? ⟨gx, ox, none⟩ = some (.string x.1) ∧ W.cell? ⟨gx, ox + 1, none⟩ = some (.int .i64 x.2)) (go_keep) (refine upon_append _ _ _ rfl rfl rfl Hrun.out ?_)
          go_wp2
          go_roundw
          case rel =>
            refine ⟨xs, y :: ys, acc ++ [x], L, g, AX, some ⟨gy, oy, none⟩, c1 - 1, c2, by rw [HNX.out], by rw [HNY.out]; rfl, hacc2, by rw [← HNX.out]; omega, by rw [List.length_cons, ← HNY.out]; omega, ?_, ?_, hm2.out⟩
            · rw [← HNX.out]; exact HTX.out.keep (fun p hp => hb5.cell (by omega))
            · rw [List.length_cons, ← HNY.out]; exact HRY.out.keep (fun p hp => hb5.cell (by omega))
          case measure => simp [sliceLen]
        · have hm2 : Hid (Mid2 a b xs ys (acc ++ [(y.1, put2 x.2 y.2)]) (L ++ [(x.2, y.2)])) := by
            refine ⟨?_, ?_⟩
            · rw [← hmid.1, mrg_eq h]; simp
            · rw [← hmid.2, met_eq h]; simp
          have HC := fun W => Lib.hid (cmp_is x.1 y.1 0 ((cmpK_zero tot_str).2 h) W)
          clear h
          go_wp2
          go_quiet ((go_at_call 37; exact Calls.quiet_of_same (HC _).out))
          go_wp2
          go_region_held3 (fun W => W.cell? ⟨gx, ox, none⟩ = some (.string x.1) ∧ W.cell? ⟨gx, ox + 1, none⟩ = some (.int .i64 x.2) ∧ W.cell? ⟨gy, oy, none⟩ = some (.string y.1) ∧ W.cell? ⟨gy, oy + 1, none⟩ = some (.int .i64 y.2)) (go_keep)
            (first
              | (go_at_call 42; refine (meet_note P g L x y _ (HO.out.later ((bel_drewN (Below.refl _ _) nq).drew)).log (by omega)).mono ?_; rintro e w2 ⟨rfl, g', hlog, ht, hf⟩; obtain ⟨v2, w4, hrun, hacc2, hB2, j0, j1, j2, j3, i0, i1, i2, i3⟩ := eq_round (p := (y.1, put2 x.2 y.2)) (HO.out.later ((bel_drewN (Below.refl _ _) nq).drew)) hlog ht hf (by omega) w2.heap.size rfl (show gx < P from hgx) (show gy < P from hgy) k0 k1 k2 k3; have Hrun := Lib.hid hrun; have HB2 := Lib.hid hB2; clear hrun hlog ht hf hB2)
              | (refine upon_append _ _ _ rfl rfl rfl Hrun.out ?_))
          go_wp2
          go_quiet (fail)
          go_wp2
          go_roundw
          case rel =>
            refine ⟨xs, ys, acc ++ [(y.1, put2 x.2 y.2)], L ++ [(x.2, y.2)], g', AX, AY, c1 - 1, c2 - 1, by rw [HNX.out], by rw [HNY.out], hacc2.later (bel_drewN (Below.refl _ _) _), by rw [← HNX.out]; omega, by rw [← HNY.out]; omega, ?_, ?_, hm2.out⟩
            · rw [← HNX.out]; exact (HTX.out.keep (fun p hp => HB2.out p hp)).drewN _
            · rw [← HNY.out]; exact (HTY.out.keep (fun p hp => HB2.out p hp)).drewN _
          case measure => simp [sliceLen]; omega
        · have hm2 : Hid (Mid2 a b (x :: xs) ys (acc ++ [y]) L) := by
            refine ⟨?_, ?_⟩
            · rw [← hmid.1, mrg_gt h]; simp
            · rw [← hmid.2, met_gt h]
          have HC := fun W => Lib.hid (cmp_is x.1 y.1 1 (cmpK_gt (tot_str.asym h) h) W)
          clear h
          go_wp2
          go_quiet ((go_at_call 37; exact Calls.quiet_of_same (HC _).out))
          go_wp2
          obtain ⟨v2, w4, hrun, hacc2, hb4⟩ := (HO.out.later ((bel_drewN (Below.refl _ _) nq).drew)).push wr.heap.size rfl y (by omega)
          have Hrun := Lib.hid hrun
          have hb5 : Below W0.heap.size wr w4 := ((bel_drewN (Below.refl _ _) nq).drew).trans hb4
          have i2 : w4.cell? ⟨gy, oy, none⟩ = some (.string y.1) := (hb5.cell (p := ⟨gy, oy, none⟩) (show gy < _ by omega)).trans k2
          have i3 : w4.cell? ⟨gy, oy + 1, none⟩ = some (.int .i64 y.2) := (hb5.cell (p := ⟨gy, oy + 1, none⟩) (show gy < _ by omega)).trans k3
          clear hrun hb4 k0 k1
          go_region_held3 (fun W => W.cell? ⟨gy, oy, none⟩ = some (.string y.1) ∧ W.cell? ⟨gy, oy + 1, none⟩ = some (.int .i64 y.2)) (go_keep) (refine upon_append _ _ _ rfl rfl rfl Hrun.out ?_)
          go_wp2
          go_roundw
          case rel =>
            refine ⟨x :: xs, ys, acc ++ [y], L, g, some ⟨gx, ox, none⟩, AY, c1, c2 - 1, by rw [HNX.out]; rfl, by rw [HNY.out], hacc2, by rw [List.length_cons, ← HNX.out]; omega, by rw [← HNY.out]; omega, ?_, ?_, hm2.out⟩
            · rw [List.length_cons, ← HNX.out]; exact HRX.out.keep (fun p hp => hb5.cell (by omega))
            · rw [← HNY.out]; exact HTY.out.keep (fun p hp => hb5.cell (by omega))
          case measure => simp [sliceLen]
end SortS
end Go.Proofs.Ytolfockpiioncaa
