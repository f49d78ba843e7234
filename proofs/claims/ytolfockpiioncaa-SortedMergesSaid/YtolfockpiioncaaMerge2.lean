/- sorted.Merge by nothing: the contracts. -/
import Derived.Test.YtolfockpiioncaaMerge1
import Derived.Defers
import Derived.Recover
import Derived.BigQuiet
import Derived.Laws.Pointers
namespace Go.Proofs.Ytolfockpiioncaa
open Go.RowKit
namespace SortS
/-- the deferred function of a call that returns: nothing is recovered -/
theorem catch_idle (p : Addr) (w : World) :
    CallsD Try.prog 41 #[.pointer (some p)] .returning w fun e u' w' => e = .returned (.tuple #[]) ∧ u' = .returning ∧ w' = w := by
  refine callsD_of_wpS Try.func41 rfl fun c₀ cs hu => ?_
  apply wpS_seq
  apply wpS_region
  simp [wpOpsS, go_sem, recoverD, hu, Try.ntmps41, Exit.thenS]
  refine wpS_cond (t := false) (by simp [Act.eval, Array.replicate]) ?_
  simp only [Bool.false_eq_true, if_false]
  refine wpS_of_wp (wp_skip ?_)
  cases c₀
  simp_all [bodyPostS, results, Try.results41]
theorem func_desc : ∃ ps rs v, Try.prog.underlying 55 = some (.func ps rs v) := ⟨_, _, _, Try.underlying55⟩
theorem eq_nilFunc {P : Program} {t : TypeId} (ht : ∃ ps rs v, P.underlying t = some (.func ps rs v)) (d : Nat) (W : World) : (Op.equalIn (d + 1) t Value.nilFunc Value.nilFunc).run P W = .ok true W := by
  obtain ⟨ps, rs, v, h⟩ := ht
  simp [Op.equalIn, run_underlying h]
set_option maxRecDepth 100000 in
theorem meet_nil (p q : ByteArray × Int) (w : World) :
    Calls Try.prog 42 #[.agg #[.string p.1, .int .i64 p.2], .agg #[.string q.1, .int .i64 q.2], Value.nilFunc] w fun e w' => e = .returned (.agg #[.string q.1, .int .i64 q.2]) ∧ Below w.heap.size w w' := by
  have hne : ∀ W : World, (binOp .neq 55 Value.nilFunc Value.nilFunc).run Try.prog W = .ok (.bool false) W := fun W => by
    have h1 : (binOp .neq 55 Value.nilFunc Value.nilFunc).run Try.prog W = ((Op.equalIn (9999 + 1) 55 Value.nilFunc Value.nilFunc).run Try.prog W).andThen fun b w' => .ok (.bool (!b)) w' := by
      simp only [binOp, Op.equal, Sem.run_bind]
      rfl
    rw [h1, eq_nilFunc func_desc]
    rfl
  go_enter Try.func42, Try.ntmps42
  go_wp2
  refine bodyPost_ret (v := .agg #[.string q.1, .int .i64 q.2]) (by simp [results, Try.results42, go_sem]) rfl ⟨rfl, ?_⟩
  exact ((((Below.refl _ _).alloc (Nat.le_refl _) _).alloc (by simp) _).alloc (by simp; omega) _)
/-- append of pairs that read elsewhere to a row of the call's own -/
theorem run_appP (W : World) (base : Nat) (hb : base ≤ W.heap.size) (v : Value) (acc : Ps) (hown : W.ownsRow base 60 2 v acc.length (flat acc)) {B : Nat} {A : Option Addr} {m c : Nat} {xs : Ps} (hl : xs.length = m) (hr : Rd W B 2 A m c (flat xs)) (hn : acc.length + m ≤ 1000000) :
    ∃ v' w', (Builtin.append_ #[24, 24] 24 #[v, .slice A m c]).run Try.prog W = .ok v' w' ∧
      w'.ownsRow base 60 2 v' (acc ++ xs).length (flat (acc ++ xs)) ∧ Below base W w' := by
  obtain ⟨i0, hi0, hz0, hz1, hz2⟩ := info_parts info
  obtain ⟨v', w', h1, h2, h3, h4⟩ := run_app (P := Try.prog) W base 24 24 60 i0 _ 2 24 Try.underlying24 hi0 hz0 hz1 hz2 rfl (by omega) hown hr hn (by omega) hb
  refine ⟨v', w', h1, ?_, (Below.refl base W).grown h3 hb (fun k hk => (hown.lt k hk).1)⟩
  have e : flat (acc ++ xs) = flat acc ++ flat xs := by unfold flat; rw [flat2_append]
  rw [e, List.length_append, hl]
  exact h2
/-- the first one of a list in memory, and what is behind it -/
theorem rd_tail {w : World} {B : Nat} {A : Option Addr} {n c : Nat} {x : ByteArray × Int} {xs : Ps} (h : Rd w B 2 A (n + 1) c (flat (x :: xs))) :
    Rd w B 2 (if c = 1 then A else A.map (·.add (1 * 2))) n (c - 1) (flat xs) := by
  have h1 := h.from_ (i := 1) (by omega)
  have e : (flat (x :: xs)).drop (1 * 2) = flat xs := by unfold flat; rw [← flat2_drop]; rfl
  rw [e] at h1
  exact h1
/-- what the loop knows: the rests, and what is merged so far -/
def Mid (a b xs ys acc : Ps) : Prop := acc ++ mrg (fun _ v => v) xs ys = mrg (fun _ v => v) a b
def sliceLen : Value → Nat
  | .slice _ n _ => n
  | _ => 0
set_option maxRecDepth 100000 in
set_option maxHeartbeats 2000000 in
theorem merge_nil (a b : Ps) (A B : Option Addr) (ca cb : Nat) (w : World) (ha : Rd w w.heap.size 2 A a.length ca (flat a)) (hb : Rd w w.heap.size 2 B b.length cb (flat b)) (hla : a.length ≤ 300) (hlb : b.length ≤ 300) :
    Calls Try.prog 22 #[.agg #[.slice A a.length ca], .agg #[.slice B b.length cb], Value.nilFunc] w (NewMap (mrg (fun _ v => v) a b) w) := by
  have HA := Lib.hid ha
  have HB := Lib.hid hb
  clear ha hb
  obtain ⟨i0, hi0, hz0, hz1, hz2⟩ := info_parts info
  obtain ⟨N, hN⟩ : ∃ N, N = a.length + b.length := ⟨_, rfl⟩
  have hNi : (a.length : Int) + b.length = (N : Int) := by omega
  have hm48 : i0.bytes * N ≤ 281474976710656 := by rw [hz2]; omega
  have hm63 : N ≤ maxLen := by simp only [maxLen]; omega
  have HN := Lib.hid hN
  clear hN
  have hmf : ∀ (fn : Fn) (first cap : Array Value) (w : World), (Instr.makeFunc fn first cap).run Try.prog w = .ok (.func fn first cap) w := fun _ _ _ _ => rfl
  go_enter_defers Try.func22, Try.ntmps22
  go_wp2
  go_quiet (fail)
  obtain ⟨W0, hW0⟩ : ∃ W0, W0 = (((w.alloc (.cells #[.slice A a.length ca] 26)).alloc (.cells #[.slice B b.length cb] 26)).alloc (.cells #[.slice none 0 0] 26)).drewN nq := ⟨_, rfl⟩
  obtain ⟨q, hq⟩ : ∃ q, q = w.heap.size + 1 + 1 := ⟨_, rfl⟩
  rw [← hW0, ← hq]
  have r0 : W0.cell? ⟨q, 0, none⟩ = some (.slice none 0 0) := by rw [hW0, hq]; go_simp
  have r1 : W0.frozen? ⟨q, 0, none⟩ = false := by rw [hW0, hq]; go_simp
  have hBW : Below w.heap.size w W0 := by
    rw [hW0]
    exact bel_drewN ((((Below.refl _ _).alloc (Nat.le_refl _) _).alloc (by simp) _).alloc (by simp; omega) _) nq
  have hqs : q < W0.heap.size := World.block_lt_of_cell? W0 _ r0
  have hqw : w.heap.size ≤ q := by omega
  have HBW := Lib.hid hBW
  clear hW0 hq hBW
  go_wp2_with (at_make; refine wpList_make_own _ rfl _ _ _ rfl W0.heap.size 60 i0 _ 2 Try.underlying24 hi0 hz0 hz1 .i64 .i64 _ N rfl rfl rfl hm48 hm63 (Nat.le_refl _) ?_; intro w3 hout hg3)
  have hB3 : Below W0.heap.size W0 w3 := (Below.refl _ _).grown hg3 (Nat.le_refl _) (by intro k hk; cases hk)
  have HO3 := Lib.hid hout
  have HB3 := Lib.hid hB3
  clear hg3 hout hB3
  go_loopw [7, 8, 9] (fun x y v wr => ∃ (xs ys acc : Ps) (A' B' : Option Addr) (c1 c2 : Nat), x = .slice A' xs.length c1 ∧ y = .slice B' ys.length c2 ∧ wr.ownsRow W0.heap.size 60 2 v acc.length (flat acc) ∧ Below W0.heap.size W0 wr ∧
    xs.length ≤ 300 ∧ ys.length ≤ 300 ∧ Rd wr W0.heap.size 2 A' xs.length c1 (flat xs) ∧ Rd wr W0.heap.size 2 B' ys.length c2 (flat ys) ∧ Hid (Mid a b xs ys acc)) (fun x y _ _ => (sliceLen x + sliceLen y))
  case atStart =>
    have e1 : Rd w3 W0.heap.size 2 A a.length ca (flat a) := ((HA.out.later HBW.out).below HB3.out)
    have e2 : Rd w3 W0.heap.size 2 B b.length cb (flat b) := ((HB.out.later HBW.out).below HB3.out)
    exact ⟨a, b, [], A, B, ca, cb, rfl, rfl, by simpa [flat, flat2] using HO3.out, HB3.out, hla, hlb, e1, e2, rfl⟩
  case round =>
    obtain ⟨xs, ys, acc, A', B', c1, c2, rfl, rfl, hown, hB, hx3, hy3, hrx, hry, hmid⟩ := hrel
    have hal : acc.length ≤ 600 := by
      have h1 := congrArg List.length hmid
      have h2 := mrg_len (fun _ v => v) _ a b (Nat.le_refl _)
      rw [List.length_append] at h1
      omega
    obtain ⟨A3, c3, rfl, hown3⟩ := Own.of_row hown (flat_one _)
    have HO := Lib.hid hown3
    have HBr := Lib.hid hB
    have HRX := Lib.hid hrx
    have HRY := Lib.hid hry
    clear hown hown3 hB hrx hry
    by_cases hend : xs = [] ∨ ys = []
    · have hfin : Hid (acc ++ xs ++ ys = mrg (fun _ v => v) a b) := by
        have h1 : acc ++ mrg (fun _ v => v) xs ys = mrg (fun _ v => v) a b := hmid
        unfold Hid
        rcases hend with rfl | rfl
        · rw [mrg_nil] at h1; simpa using h1
        · rw [mrg_nil'] at h1; simpa using h1
      obtain ⟨n1, hn1⟩ : ∃ n, n = xs.length := ⟨_, rfl⟩
      obtain ⟨n2, hn2⟩ : ∃ n, n = ys.length := ⟨_, rfl⟩
      have hg : (decide ((0 : Int) < n1) = false ∧ decide (0 < n1) = false) ∨ ((decide ((0 : Int) < n1) = true ∧ decide (0 < n1) = true) ∧ decide ((0 : Int) < n2) = false ∧ decide (0 < n2) = false) := by
        by_cases h0 : n1 = 0
        · exact .inl ⟨by simp; omega, by simp; omega⟩
        · refine .inr ⟨⟨by simp; omega, by simp; omega⟩, ?_⟩
          have : ys = [] := by
            rcases hend with h | h
            · rw [h] at hn1; exact absurd hn1 h0
            · exact h
          rw [this] at hn2
          simp at hn2
          rw [hn2]; exact ⟨rfl, rfl⟩
      rw [← hn1] at hx3 HRX ⊢
      rw [← hn2] at hy3 HRY ⊢
      obtain ⟨v2, w4, hrun, hacc2, hb4⟩ := run_appP wr W0.heap.size HBr.out.size _ acc HO.out.row hn1.symm HRX.out (by omega)
      obtain ⟨v5, w5, hrun5, hacc5, hb5⟩ := run_appP w4 W0.heap.size (by have := HBr.out.size; have := hb4.size; omega) v2 (acc ++ xs) hacc2 hn2.symm (HRY.out.below hb4) (by rw [List.length_append]; omega)
      rw [hfin.out] at hacc5
      obtain ⟨M, hM⟩ : ∃ M, M = mrg (fun _ v => v) a b := ⟨_, rfl⟩
      rw [← hM] at hacc5
      obtain ⟨A5, c5, rfl, hown5⟩ := Own.of_row hacc5 (flat_one _)
      have hB5 : Below W0.heap.size W0 w5 := (HBr.out.trans hb4).trans hb5
      have r5 : w5.cell? ⟨q, 0, none⟩ = some (.slice none 0 0) := (hB5.cell (p := ⟨q, 0, none⟩) hqs).trans r0
      have r6 : w5.frozen? ⟨q, 0, none⟩ = false := (hB5.frozen (p := ⟨q, 0, none⟩) hqs).trans r1
      have Hrun := Lib.hid hrun
      have Hrun5 := Lib.hid hrun5
      have HOWN := Lib.hid hown5
      have HB5 := Lib.hid hB5
      have HM := Lib.hid hM
      clear hend hn1 hn2 hrun hrun5 hacc2 hacc5 hown5 hb4 hb5 hB5 hM hmid r0 r1
      rcases hg with ⟨hg1, hg1'⟩ | ⟨⟨hg1, hg1'⟩, hg2, hg2'⟩
      all_goals
        go_wp2_with (at_builtin; first
          | (refine Lib.wpList_append_run _ rfl _ _ _ _ rfl _ _ rfl rfl _ _ Hrun.out ?_; clear Hrun)
          | (refine Lib.wpList_append_run _ rfl _ _ _ _ rfl _ _ rfl rfl _ _ Hrun5.out ?_))
        refine leaves_cons (f := 41) (args := #[.pointer (some ⟨q, 0, none⟩)]) (by simp) (by simp [go_sem]) ?_
        refine (catch_idle ⟨q, 0, none⟩ _).mono ?_
        rintro e u' w'' ⟨rfl, rfl, rfl⟩
        simp [Leaves, settle, results, Try.results22, go_sem, r5]
        rw [← HM.out]
        exact ⟨A5, c5, rfl, (HOWN.out.set_below (a := ⟨q, 0, none⟩) hqs _).mono HBW.out.size, (HBW.out.trans (HB5.out.mono HBW.out.size)).setCell hqw _⟩
    · cases xs with
      | nil => exact absurd (.inl rfl) hend
      | cons x xs =>
       cases ys with
       | nil => exact absurd (.inr rfl) hend
       | cons y ys =>
        clear hend
        have hcx := HRX.out.cap
        have hcy := HRY.out.cap
        obtain ⟨gx, ox, rfl, hgx, hcx1⟩ := HRX.out.at_ (by simp)
        obtain ⟨gy, oy, rfl, hgy, hcy1⟩ := HRY.out.at_ (by simp)
        have k0 : wr.cell? ⟨gx, ox, none⟩ = some (.string x.1) := hcx1 0 _ rfl
        have k1 : wr.cell? ⟨gx, ox + 1, none⟩ = some (.int .i64 x.2) := hcx1 1 _ rfl
        have k2 : wr.cell? ⟨gy, oy, none⟩ = some (.string y.1) := hcy1 0 _ rfl
        have k3 : wr.cell? ⟨gy, oy + 1, none⟩ = some (.int .i64 y.2) := hcy1 1 _ rfl
        obtain ⟨nx, hnx⟩ : ∃ n, n = xs.length := ⟨_, rfl⟩
        obtain ⟨ny, hny⟩ : ∃ n, n = ys.length := ⟨_, rfl⟩
        have hlx : (x :: xs).length = nx + 1 := by rw [hnx]; rfl
        have hly : (y :: ys).length = ny + 1 := by rw [hny]; rfl
        rw [hlx] at hcx hx3 HRX ⊢
        rw [hly] at hcy hy3 HRY ⊢
        have hcutx : ∀ W, _ := fun W => run_cut_from (P := Try.prog) 24 60 2 Try.underlying24 hi0 hz1 (some ⟨gx, ox, none⟩) (nx + 1) c1 1 (by omega) W
        have hcuty : ∀ W, _ := fun W => run_cut_from (P := Try.prog) 24 60 2 Try.underlying24 hi0 hz1 (some ⟨gy, oy, none⟩) (ny + 1) c2 1 (by omega) W
        obtain ⟨AX, hAX⟩ : ∃ AX, AX = (if c1 = 1 then some (⟨gx, ox, none⟩ : Addr) else (some (⟨gx, ox, none⟩ : Addr)).map (·.add (1 * 2))) := ⟨_, rfl⟩
        obtain ⟨AY, hAY⟩ : ∃ AY, AY = (if c2 = 1 then some (⟨gy, oy, none⟩ : Addr) else (some (⟨gy, oy, none⟩ : Addr)).map (·.add (1 * 2))) := ⟨_, rfl⟩
        have htx := rd_tail HRX.out
        have hty := rd_tail HRY.out
        rw [← hAX] at htx hcutx
        rw [← hAY] at hty hcuty
        rw [Nat.add_sub_cancel] at hcutx hcuty
        have hcx2 : ∀ W, (Instr.slice 24 (.slice (some ⟨gx, ox, none⟩) (nx + 1) c1) (some (.int .i64 1)) none none).run Try.prog W = .ok (.slice AX nx (c1 - 1)) W := hcutx
        have hcy2 : ∀ W, (Instr.slice 24 (.slice (some ⟨gy, oy, none⟩) (ny + 1) c2) (some (.int .i64 1)) none none).run Try.prog W = .ok (.slice AY ny (c2 - 1)) W := hcuty
        clear hcutx hcuty
        have HTX := Lib.hid htx
        have HTY := Lib.hid hty
        have HNX := Lib.hid hnx
        have HNY := Lib.hid hny
        have hn1 : (0 : Int) < (nx : Int) + 1 := by omega
        have hn2 : (0 : Int) < (ny : Int) + 1 := by omega
        have hgx' : gx < wr.heap.size := Nat.lt_of_lt_of_le hgx HBr.out.size
        have hgy' : gy < wr.heap.size := Nat.lt_of_lt_of_le hgy HBr.out.size
        clear hAX hAY htx hty hcx1 hcy1 hlx hly hnx hny
        rcases tot_str.tri x.1 y.1 with h | h | h
        · have hm2 : Hid (Mid a b xs (y :: ys) (acc ++ [x])) := by
            unfold Hid Mid; unfold Hid Mid at hmid; rw [← hmid, mrg_lt h]; simp
          have HC := fun W => Lib.hid (cmp_is x.1 y.1 (-1) (cmpK_lt h) W)
          clear h
          go_wp2
          go_quiet ((go_at_call 37; exact Calls.quiet_of_same (HC _).out))
          go_wp2
          obtain ⟨v2, w4, hrun, hacc2, hb4⟩ := run_push (wr.drewN nq).drew W0.heap.size wr.heap.size (by simp) (by have := HBr.out.size; simp; omega) _ acc (HO.out.later ((bel_drewN (Below.refl _ _) nq).drew)).row x (by omega)
          have Hrun := Lib.hid hrun
          have hb5 : Below W0.heap.size wr w4 := ((bel_drewN (Below.refl _ _) nq).drew).trans hb4
          have i0 : w4.cell? ⟨gx, ox, none⟩ = some (.string x.1) := (hb5.cell (p := ⟨gx, ox, none⟩) hgx).trans k0
          have i1 : w4.cell? ⟨gx, ox + 1, none⟩ = some (.int .i64 x.2) := (hb5.cell (p := ⟨gx, ox + 1, none⟩) hgx).trans k1
          clear hrun hb4 k2 k3
          go_region_held3 (fun W => W.cell? ⟨gx, ox, none⟩ = some (.string x.1) ∧ W.cell? ⟨gx, ox + 1, none⟩ = some (.int .i64 x.2)) (go_keep) (refine upon_append _ _ _ rfl rfl rfl Hrun.out ?_)
          go_wp2
          go_roundw
          case rel =>
            refine ⟨xs, y :: ys, acc ++ [x], AX, some ⟨gy, oy, none⟩, c1 - 1, c2, by rw [HNX.out], by rw [HNY.out]; rfl, hacc2, HBr.out.trans hb5, by rw [← HNX.out]; omega, by rw [List.length_cons, ← HNY.out]; omega, ?_, ?_, hm2.out⟩
            · rw [← HNX.out]; exact HTX.out.below hb5
            · rw [List.length_cons, ← HNY.out]; exact HRY.out.below hb5
          case measure => simp [sliceLen]
        · have hm2 : Hid (Mid a b xs ys (acc ++ [y])) := by
            unfold Hid Mid; unfold Hid Mid at hmid; rw [← hmid, mrg_eq h]; simp
          have HC := fun W => Lib.hid (cmp_is x.1 y.1 0 ((cmpK_zero tot_str).2 h) W)
          clear h
          go_wp2
          go_quiet ((go_at_call 37; exact Calls.quiet_of_same (HC _).out))
          go_wp2
          go_region_held3 (fun W => W.cell? ⟨gx, ox, none⟩ = some (.string x.1) ∧ W.cell? ⟨gx, ox + 1, none⟩ = some (.int .i64 x.2) ∧ W.cell? ⟨gy, oy, none⟩ = some (.string y.1) ∧ W.cell? ⟨gy, oy + 1, none⟩ = some (.int .i64 y.2)) (go_keep)
            (first
              | (go_at_call 42; refine (meet_nil x y _).mono ?_; rintro e w2 ⟨rfl, hb2⟩; (have hb3 : Below wr.heap.size wr w2 := ((bel_drewN (Below.refl _ _) nq).drew).trans (hb2.mono (by simp))); (have j0 : w2.cell? ⟨gx, ox, none⟩ = some (.string x.1) := (hb3.cell (p := ⟨gx, ox, none⟩) hgx').trans k0); (have j1 : w2.cell? ⟨gx, ox + 1, none⟩ = some (.int .i64 x.2) := (hb3.cell (p := ⟨gx, ox + 1, none⟩) hgx').trans k1); (have j2 : w2.cell? ⟨gy, oy, none⟩ = some (.string y.1) := (hb3.cell (p := ⟨gy, oy, none⟩) hgy').trans k2); (have j3 : w2.cell? ⟨gy, oy + 1, none⟩ = some (.int .i64 y.2) := (hb3.cell (p := ⟨gy, oy + 1, none⟩) hgy').trans k3); (obtain ⟨v2, w4, hrun, hacc2, hb4⟩ := run_push w2 W0.heap.size w2.heap.size rfl (by have := HBr.out.size; have := hb3.size; omega) _ acc (HO.out.later hb3).row y (by omega)); have Hrun := Lib.hid hrun; (have hb5 : Below W0.heap.size wr w4 := (hb3.mono HBr.out.size).trans hb4); (have i0 : w4.cell? ⟨gx, ox, none⟩ = some (.string x.1) := (hb5.cell (p := ⟨gx, ox, none⟩) hgx).trans k0); (have i1 : w4.cell? ⟨gx, ox + 1, none⟩ = some (.int .i64 x.2) := (hb5.cell (p := ⟨gx, ox + 1, none⟩) hgx).trans k1); (have i2 : w4.cell? ⟨gy, oy, none⟩ = some (.string y.1) := (hb5.cell (p := ⟨gy, oy, none⟩) hgy).trans k2); (have i3 : w4.cell? ⟨gy, oy + 1, none⟩ = some (.int .i64 y.2) := (hb5.cell (p := ⟨gy, oy + 1, none⟩) hgy).trans k3); clear hrun hb4 hb2 hb3)
              | (refine upon_append _ _ _ rfl rfl rfl Hrun.out ?_))
          go_wp2
          go_quiet (fail)
          go_wp2
          go_roundw
          case rel =>
            refine ⟨xs, ys, acc ++ [y], AX, AY, c1 - 1, c2 - 1, by rw [HNX.out], by rw [HNY.out], by first | exact ownsRow_later hacc2 (bel_drewN (Below.refl _ _) _) | exact hacc2, by first | exact bel_drewN (HBr.out.trans hb5) _ | exact HBr.out.trans hb5, by rw [← HNX.out]; omega, by rw [← HNY.out]; omega, ?_, ?_, hm2.out⟩
            · rw [← HNX.out]; first | exact (HTX.out.below hb5).drewN _ | exact HTX.out.below hb5
            · rw [← HNY.out]; first | exact (HTY.out.below hb5).drewN _ | exact HTY.out.below hb5
          case measure => simp [sliceLen]; omega
        · have hm2 : Hid (Mid a b (x :: xs) ys (acc ++ [y])) := by
            unfold Hid Mid; unfold Hid Mid at hmid; rw [← hmid, mrg_gt h]; simp
          have HC := fun W => Lib.hid (cmp_is x.1 y.1 1 (cmpK_gt (tot_str.asym h) h) W)
          clear h
          go_wp2
          go_quiet ((go_at_call 37; exact Calls.quiet_of_same (HC _).out))
          go_wp2
          obtain ⟨v2, w4, hrun, hacc2, hb4⟩ := run_push (wr.drewN nq).drew W0.heap.size wr.heap.size (by simp) (by have := HBr.out.size; simp; omega) _ acc (HO.out.later ((bel_drewN (Below.refl _ _) nq).drew)).row y (by omega)
          have Hrun := Lib.hid hrun
          have hb5 : Below W0.heap.size wr w4 := ((bel_drewN (Below.refl _ _) nq).drew).trans hb4
          have i2 : w4.cell? ⟨gy, oy, none⟩ = some (.string y.1) := (hb5.cell (p := ⟨gy, oy, none⟩) hgy).trans k2
          have i3 : w4.cell? ⟨gy, oy + 1, none⟩ = some (.int .i64 y.2) := (hb5.cell (p := ⟨gy, oy + 1, none⟩) hgy).trans k3
          clear hrun hb4 k0 k1
          go_region_held3 (fun W => W.cell? ⟨gy, oy, none⟩ = some (.string y.1) ∧ W.cell? ⟨gy, oy + 1, none⟩ = some (.int .i64 y.2)) (go_keep) (refine upon_append _ _ _ rfl rfl rfl Hrun.out ?_)
          go_wp2
          go_roundw
          case rel =>
            refine ⟨x :: xs, ys, acc ++ [y], some ⟨gx, ox, none⟩, AY, c1, c2 - 1, by rw [HNX.out]; rfl, by rw [HNY.out], hacc2, HBr.out.trans hb5, by rw [List.length_cons, ← HNX.out]; omega, by rw [← HNY.out]; omega, ?_, ?_, hm2.out⟩
            · rw [List.length_cons, ← HNX.out]; exact HRX.out.below hb5
            · rw [← HNY.out]; exact HTY.out.below hb5
          case measure => simp [sliceLen]
end SortS
end Go.Proofs.Ytolfockpiioncaa
