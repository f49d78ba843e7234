/- Proved: the law RegisterBoth answers true for every tree, every three texts, every three dots that can be handed in, and leaves its arguments as they were. Conditions: none. -/
import Derived.Test.YtnlojpolfkjkoaaGreatG00
import Derived.Test.YtnlojpolfkjkoaaGreatG170
import Derived.Test.YtnlojpolfkjkoaaGreatSetRef
import Derived.Test.YtnlojpolfkjkoaaGreatSetSort
import Derived.Test.YtnlojpolfkjkoaaGreatDltRef
import Derived.Test.YtnlojpolfkjkoaaGreatCauJoin
import Derived.Test.YtnlojpolfkjkoaaGreatCauAll
import Derived.Test.YtnlojpolfkjkoaaGreatCauOwnRef
import Derived.Test.YtnlojpolfkjkoaaGreatG150
import Derived.Test.YtnlojpolfkjkoaaGreatG90
open Go.ChangeShapes Go.WideShapes Go.ChangeAt Go.RowKit
namespace Go.Proofs.YtnlojpolfkjkoaaGreat
namespace lawRegisterBoth
open Tr Cx Cs Sp Rw Classical
theorem boxL (w : World) (Ae Ak : Option Addr) (ne nk ce ck : Nat) (t0 t1 t2 : ByteArray) (a n b m c j : Int) : ∃ (W : World) (p q s : Nat), Hid (W = (((w.alloc (.cells #[.slice Ae ne ce, .slice Ak nk ck] 25)).alloc (.cells #[.string t0, .string t1, .string t2] 48)).alloc (.cells #[.int .i64 a, .int .i64 n, .int .i64 b, .int .i64 m, .int .i64 c, .int .i64 j] 49))) ∧ Hid (p = w.heap.size) ∧ Hid (q = p + 1) ∧ Hid (s = q + 1) ∧ Hid (Kept [(⟨p, 0, none⟩, .slice Ae ne ce), (⟨p, 1, none⟩, .slice Ak nk ck), (⟨q, 0, none⟩, .string t0), (⟨q, 1, none⟩, .string t1), (⟨q, 2, none⟩, .string t2), (⟨s, 0, none⟩, .int .i64 a), (⟨s, 1, none⟩, .int .i64 n), (⟨s, 2, none⟩, .int .i64 b), (⟨s, 3, none⟩, .int .i64 m), (⟨s, 4, none⟩, .int .i64 c), (⟨s, 5, none⟩, .int .i64 j)] w W) := by
 refine ⟨_, _, _, _, rfl, rfl, rfl, rfl, ?_⟩; have h0 := Kept.nil_of (show Below w.heap.size w ((((w.alloc (.cells #[.slice Ae ne ce, .slice Ak nk ck] 25)).alloc (.cells #[.string t0, .string t1, .string t2] 48)).alloc (.cells #[.int .i64 a, .int .i64 n, .int .i64 b, .int .i64 m, .int .i64 c, .int .i64 j] 49))) from (((Below.refl _ _).alloc (Nat.le_refl _) _).alloc (by simp) _).alloc (by simp; omega) _)
 refine (((((((((((h0).cons_of ?_).cons_of ?_).cons_of ?_).cons_of ?_).cons_of ?_).cons_of ?_).cons_of ?_).cons_of ?_).cons_of ?_).cons_of ?_).cons_of ?_ <;> go_simp
set_option maxRecDepth 100000 in
set_option maxHeartbeats 4000000 in
theorem walk_any (t : T) (Ae Ak : Option Addr) (ne nk ce ck : Nat) (t0 t1 t2 : ByteArray) (a n b m c j : Int) (w : World) (hr : RdT w w.heap.size t ⟨Ae, ne, ce⟩ ⟨Ak, nk, ck⟩) (hl : LenT reachBytes t) :
  Calls Tryz.prog 6 #[.agg #[.slice Ae ne ce, .slice Ak nk ck], .agg #[.string t0, .string t1, .string t2], .agg #[.int .i64 a, .int .i64 n, .int .i64 b, .int .i64 m, .int .i64 c, .int .i64 j]] w fun e w' => e = .returned (.bool true) ∧ Below w.heap.size w w' := by
 obtain ⟨W, p, q, s, HW, HP, HQ, HS, HKc⟩ := boxL w Ae Ak ne nk ce ck t0 t1 t2 a n b m c j; have HR0 := Lib.hid hr; have R := Lib.hid (RdT.later hr HKc.out.below); have L := Lib.hid hl; clear hr hl; go_enter Tryz.func6, Tryz.ntmps6
 go_upto_region 1 with fail
 rw [← HW.out, ← HP.out]
 try rw [← HQ.out]
 try rw [← HS.out]
 go_cut [45] (fun s9 wx => ∃ c9 : Bool, s9 = .bool c9 ∧ Hid (c9 = false → nodes t ≤ 60 ∧ ¬ (a = b ∧ n = m) ∧ ¬ (a = c ∧ n = j) ∧ ¬ (b = c ∧ m = j)) ∧ Hid (Kept [(⟨p, 0, none⟩, .slice Ae ne ce), (⟨p, 1, none⟩, .slice Ak nk ck), (⟨q, 0, none⟩, .string t0), (⟨q, 1, none⟩, .string t1), (⟨q, 2, none⟩, .string t2), (⟨s, 0, none⟩, .int .i64 a), (⟨s, 1, none⟩, .int .i64 n), (⟨s, 2, none⟩, .int .i64 b), (⟨s, 3, none⟩, .int .i64 m), (⟨s, 4, none⟩, .int .i64 c), (⟨s, 5, none⟩, .int .i64 j)] w wx))
 case first =>
  have c0 := HKc.out.c0; have c1 := HKc.out.c1; have c2 := HKc.out.c2; have c3 := HKc.out.c3; have c4 := HKc.out.c4; have c5 := HKc.out.c5; have c6 := HKc.out.c6; have c7 := HKc.out.c7; have c8 := HKc.out.t8.c0; have c9 := HKc.out.t8.c1; have c10 := HKc.out.t8.c2; go_wp2_with fail; refine (awake13 W).mono ?_; rintro e v1 ⟨rfl, hb9⟩; have HKc := Lib.hid (HKc.out.later hb9); have R := Lib.hid (RdT.later R.out hb9); clear hb9; clear c0 c1 c2 c3 c4 c5 c6 c7 c8 c9 c10; have c0 := HKc.out.c0; have c1 := HKc.out.c1; have c2 := HKc.out.c2; have c3 := HKc.out.c3; have c4 := HKc.out.c4; have c5 := HKc.out.c5; have c6 := HKc.out.c6; have c7 := HKc.out.c7; have c8 := HKc.out.t8.c0; have c9 := HKc.out.t8.c1; have c10 := HKc.out.t8.c2; go_wp2_with fail; refine (small_tree t Ae Ak ne nk ce ck v1 L.out R.out).mono ?_; rintro e v2 ⟨b9, rfl, hsm, hb9⟩; have HKc := Lib.hid (HKc.out.later hb9); have R := Lib.hid (RdT.later R.out hb9)
  clear hb9; clear c0 c1 c2 c3 c4 c5 c6 c7 c8 c9 c10
  cases b9 with
  | false =>
   clear hsm; have c0 := HKc.out.c0; have c1 := HKc.out.c1; have c2 := HKc.out.c2; have c3 := HKc.out.c3; have c4 := HKc.out.c4; have c5 := HKc.out.c5; have c6 := HKc.out.c6; have c7 := HKc.out.c7; have c8 := HKc.out.t8.c0; have c9 := HKc.out.t8.c1; have c10 := HKc.out.t8.c2; go_wp2_with fail; go_meet; exact ⟨true, rfl, (fun h => by cases h), HKc.out⟩
  | true =>
   have N : Hid (nodes t ≤ 60) := hsm rfl; clear hsm; have c0 := HKc.out.c0; have c1 := HKc.out.c1; have c2 := HKc.out.c2; have c3 := HKc.out.c3; have c4 := HKc.out.c4; have c5 := HKc.out.c5; have c6 := HKc.out.c6; have c7 := HKc.out.c7; have c8 := HKc.out.t8.c0; have c9 := HKc.out.t8.c1; have c10 := HKc.out.t8.c2
   by_cases hab0 : a = b ∧ n = m
   ·have g1 : (a == b) = true := by simpa using hab0.1
    have g2 : (n == m) = true := by simpa using hab0.2
    clear hab0; go_wp2_with fail; go_meet; exact ⟨true, rfl, (fun h => by cases h), HKc.out⟩
   ·have HN0 : Hid (¬ (a = b ∧ n = m)) := hab0
    have hf : ((a == b) = false) ∨ ((a == b) = true ∧ (n == m) = false) := by
     by_cases h : a = b
     ·exact .inr ⟨by simpa using h, by simpa using fun h2 => hab0 ⟨h, h2⟩⟩
     ·exact .inl (by simpa using h)
    clear hab0
    rcases hf with fa0 | ⟨fa0, fb0⟩
    ·by_cases hab1 : a = c ∧ n = j
     ·have g1 : (a == c) = true := by simpa using hab1.1
      have g2 : (n == j) = true := by simpa using hab1.2
      clear hab1; go_wp2_with fail; go_meet; exact ⟨true, rfl, (fun h => by cases h), HKc.out⟩
     ·have HN1 : Hid (¬ (a = c ∧ n = j)) := hab1
      have hf : ((a == c) = false) ∨ ((a == c) = true ∧ (n == j) = false) := by
       by_cases h : a = c
       ·exact .inr ⟨by simpa using h, by simpa using fun h2 => hab1 ⟨h, h2⟩⟩
       ·exact .inl (by simpa using h)
      clear hab1
      rcases hf with fa1 | ⟨fa1, fb1⟩
      ·by_cases hab2 : b = c ∧ m = j
       ·have g1 : (b == c) = true := by simpa using hab2.1
        have g2 : (m == j) = true := by simpa using hab2.2
        clear hab2; go_wp2_with fail; go_meet; exact ⟨true, rfl, (fun h => by cases h), HKc.out⟩
       ·have HN2 : Hid (¬ (b = c ∧ m = j)) := hab2
        have hf : ((b == c) = false) ∨ ((b == c) = true ∧ (m == j) = false) := by
         by_cases h : b = c
         ·exact .inr ⟨by simpa using h, by simpa using fun h2 => hab2 ⟨h, h2⟩⟩
         ·exact .inl (by simpa using h)
        clear hab2
        rcases hf with fa2 | ⟨fa2, fb2⟩
        ·go_wp2_with fail
         go_meet; exact ⟨false, rfl, (fun _ => ⟨N.out, HN0.out, HN1.out, HN2.out⟩), HKc.out⟩
        ·go_wp2_with fail
         go_meet; exact ⟨false, rfl, (fun _ => ⟨N.out, HN0.out, HN1.out, HN2.out⟩), HKc.out⟩
      ·by_cases hab2 : b = c ∧ m = j
       ·have g1 : (b == c) = true := by simpa using hab2.1
        have g2 : (m == j) = true := by simpa using hab2.2
        clear hab2; go_wp2_with fail; go_meet; exact ⟨true, rfl, (fun h => by cases h), HKc.out⟩
       ·have HN2 : Hid (¬ (b = c ∧ m = j)) := hab2
        have hf : ((b == c) = false) ∨ ((b == c) = true ∧ (m == j) = false) := by
         by_cases h : b = c
         ·exact .inr ⟨by simpa using h, by simpa using fun h2 => hab2 ⟨h, h2⟩⟩
         ·exact .inl (by simpa using h)
        clear hab2
        rcases hf with fa2 | ⟨fa2, fb2⟩
        ·go_wp2_with fail
         go_meet; exact ⟨false, rfl, (fun _ => ⟨N.out, HN0.out, HN1.out, HN2.out⟩), HKc.out⟩
        ·go_wp2_with fail
         go_meet; exact ⟨false, rfl, (fun _ => ⟨N.out, HN0.out, HN1.out, HN2.out⟩), HKc.out⟩
    ·by_cases hab1 : a = c ∧ n = j
     ·have g1 : (a == c) = true := by simpa using hab1.1
      have g2 : (n == j) = true := by simpa using hab1.2
      clear hab1; go_wp2_with fail; go_meet; exact ⟨true, rfl, (fun h => by cases h), HKc.out⟩
     ·have HN1 : Hid (¬ (a = c ∧ n = j)) := hab1
      have hf : ((a == c) = false) ∨ ((a == c) = true ∧ (n == j) = false) := by
       by_cases h : a = c
       ·exact .inr ⟨by simpa using h, by simpa using fun h2 => hab1 ⟨h, h2⟩⟩
       ·exact .inl (by simpa using h)
      clear hab1
      rcases hf with fa1 | ⟨fa1, fb1⟩
      ·by_cases hab2 : b = c ∧ m = j
       ·have g1 : (b == c) = true := by simpa using hab2.1
        have g2 : (m == j) = true := by simpa using hab2.2
        clear hab2; go_wp2_with fail; go_meet; exact ⟨true, rfl, (fun h => by cases h), HKc.out⟩
       ·have HN2 : Hid (¬ (b = c ∧ m = j)) := hab2
        have hf : ((b == c) = false) ∨ ((b == c) = true ∧ (m == j) = false) := by
         by_cases h : b = c
         ·exact .inr ⟨by simpa using h, by simpa using fun h2 => hab2 ⟨h, h2⟩⟩
         ·exact .inl (by simpa using h)
        clear hab2
        rcases hf with fa2 | ⟨fa2, fb2⟩
        ·go_wp2_with fail
         go_meet; exact ⟨false, rfl, (fun _ => ⟨N.out, HN0.out, HN1.out, HN2.out⟩), HKc.out⟩
        ·go_wp2_with fail
         go_meet; exact ⟨false, rfl, (fun _ => ⟨N.out, HN0.out, HN1.out, HN2.out⟩), HKc.out⟩
      ·by_cases hab2 : b = c ∧ m = j
       ·have g1 : (b == c) = true := by simpa using hab2.1
        have g2 : (m == j) = true := by simpa using hab2.2
        clear hab2; go_wp2_with fail; go_meet; exact ⟨true, rfl, (fun h => by cases h), HKc.out⟩
       ·have HN2 : Hid (¬ (b = c ∧ m = j)) := hab2
        have hf : ((b == c) = false) ∨ ((b == c) = true ∧ (m == j) = false) := by
         by_cases h : b = c
         ·exact .inr ⟨by simpa using h, by simpa using fun h2 => hab2 ⟨h, h2⟩⟩
         ·exact .inl (by simpa using h)
        clear hab2
        rcases hf with fa2 | ⟨fa2, fb2⟩
        ·go_wp2_with fail
         go_meet; exact ⟨false, rfl, (fun _ => ⟨N.out, HN0.out, HN1.out, HN2.out⟩), HKc.out⟩
        ·go_wp2_with fail
         go_meet; exact ⟨false, rfl, (fun _ => ⟨N.out, HN0.out, HN1.out, HN2.out⟩), HKc.out⟩
 case rest =>
  obtain ⟨wc1, hwc1⟩ : ∃ W, W = wc := ⟨_, rfl⟩; subst hwc1; obtain ⟨c9, rfl, HGD, HKd⟩ := hcut; have R := Lib.hid (RdT.more HKd.out.below.size _ (RdT.below HR0.out HKd.out.below)); have HKc := HKd; clear HKd
  cases c9 with
  | true =>
   go_wp2_with fail; refine (awake13 _).mono ?_; rintro e v99 ⟨rfl, hb9⟩; have HKc := Lib.hid (HKc.out.later hb9); clear hb9; go_wp2_with fail; go_ret; exact ⟨by first | rfl | simp, HKc.out.below⟩
  | false =>
   have HGO := Lib.hid (HGD.out rfl); have N : Hid (nodes t ≤ 60) := HGO.out.1; have HNE0 : Hid (¬ (a = b ∧ n = m)) := HGO.out.2.1; have HNE1 : Hid (¬ (a = c ∧ n = j)) := HGO.out.2.2.1; have HNE2 : Hid (¬ (b = c ∧ m = j)) := HGO.out.2.2.2; clear HGD HGO; go_wp2_with fail
   go_loopw [47] (fun i wr => ∃ (k : Nat), k ≤ 3 ∧ i = .int .i64 k ∧ Hid ((0 < k → wB t t0 a n = true) ∧ (1 < k → wB t t1 b m = true) ∧ (2 < k → wB t t2 c j = true)) ∧ Hid (Kept [(⟨p, 0, none⟩, .slice Ae ne ce), (⟨p, 1, none⟩, .slice Ak nk ck), (⟨q, 0, none⟩, .string t0), (⟨q, 1, none⟩, .string t1), (⟨q, 2, none⟩, .string t2), (⟨s, 0, none⟩, .int .i64 a), (⟨s, 1, none⟩, .int .i64 n), (⟨s, 2, none⟩, .int .i64 b), (⟨s, 3, none⟩, .int .i64 m), (⟨s, 4, none⟩, .int .i64 c), (⟨s, 5, none⟩, .int .i64 j)] w wr)) (fun i _ => 3 - (intOf i).toNat)
   case atStart => exact ⟨0, by omega, rfl, ⟨fun h => absurd h (by omega), fun h => absurd h (by omega), fun h => absurd h (by omega)⟩, HKc.out⟩
   case round =>
    obtain ⟨k, hk3, rfl, HMM, HKd⟩ := hrel; obtain ⟨wo, hwo⟩ : ∃ W, W = wr := ⟨_, rfl⟩; subst hwo; have R := Lib.hid (RdT.more HKd.out.below.size _ (RdT.below HR0.out HKd.out.below)); have HKc := HKd; clear HKd
    by_cases hk : k < 3
    ·have hk012 : k = 0 ∨ k = 1 ∨ k = 2 := by omega
     rcases hk012 with rfl | rfl | rfl
     ·obtain ⟨y, hy9⟩ : ∃ y, wB t t0 a n = y := ⟨_, rfl⟩
      have HY := Lib.hid hy9; clear hy9; have c0 := HKc.out.c0; have c1 := HKc.out.c1; have c2 := HKc.out.c2; have c3 := HKc.out.c3; have c4 := HKc.out.c4; have c5 := HKc.out.c5; have c6 := HKc.out.c6; have c7 := HKc.out.c7; have c8 := HKc.out.t8.c0; have c9 := HKc.out.t8.c1; have c10 := HKc.out.t8.c2; go_wp2_with fail; clear c0 c1 c2 c3 c4 c5 c6 c7 c8 c9 c10
      cases y with
      | false =>
       refine wp_region_held_drew (S := fun W => W.cell? ⟨p, 0, none⟩ = some (.slice Ae ne ce) ∧ W.cell? ⟨p, 1, none⟩ = some (.slice Ak nk ck) ∧ W.cell? ⟨q, 0, none⟩ = some (.string t0) ∧ W.cell? ⟨q, 1, none⟩ = some (.string t1) ∧ W.cell? ⟨q, 2, none⟩ = some (.string t2) ∧ W.cell? ⟨s, 0, none⟩ = some (.int .i64 a) ∧ W.cell? ⟨s, 1, none⟩ = some (.int .i64 n) ∧ W.cell? ⟨s, 2, none⟩ = some (.int .i64 b) ∧ W.cell? ⟨s, 3, none⟩ = some (.int .i64 m) ∧ W.cell? ⟨s, 4, none⟩ = some (.int .i64 c) ∧ W.cell? ⟨s, 5, none⟩ = some (.int .i64 j)) (by kernel_rfl) (by have h9 := HKc.out.drew; exact ⟨h9.c0, h9.c1, h9.c2, h9.c3, h9.c4, h9.c5, h9.c6, h9.c7, h9.t8.c0, h9.t8.c1, h9.t8.c2⟩) (fun hHeld => ?_); obtain ⟨v11, hv11⟩ : ∃ v, v = wo.drew := ⟨_, rfl⟩
       have hb9 : Below wo.heap.size wo v11 := by rw [hv11]; exact (Below.refl _ _).drew
       have HKc := Lib.hid (HKc.out.later hb9); have R := Lib.hid (RdT.later R.out hb9); clear hb9; rw [← hv11] at hHeld ⊢; clear hv11; refine Tk 0 50 ?_; refine Tk 1 51 ?_; refine Tk 2 52 ?_; refine Tk 3 53 ?_; refine Tk 4 54 ?_; refine Tk 5 55 ?_; refine Tk 6 56 ?_; refine Tc 7 (fun K hK => ?_); go_simp; (go_at_call 10; refine (rmay_any t Ae Ak ne nk ce ck t0 a n v11 false HY.out L.out (by have := N.out; omega) R.out).mono ?_); rintro e v12 ⟨rfl, hb9⟩; have HKc := Lib.hid (HKc.out.later hb9); have R := Lib.hid (RdT.later R.out hb9); clear hb9; clear hHeld; refine Th hK ?_ (fun hHeld => ?_)
       ·exact ⟨HKc.out.c0, HKc.out.c1, HKc.out.c2, HKc.out.c3, HKc.out.c4, HKc.out.c5, HKc.out.c6, HKc.out.c7, HKc.out.t8.c0, HKc.out.t8.c1, HKc.out.t8.c2⟩
       clear hK K; refine Tk 8 58 ?_; refine wpAnyH_done (by kernel_rfl) ?_ _; clear hHeld; go_wp2_with fail; go_ret; exact ⟨by first | rfl | simp, HKc.out.below⟩
      | true =>
       refine wp_region_held_drew (S := fun W => W.cell? ⟨p, 0, none⟩ = some (.slice Ae ne ce) ∧ W.cell? ⟨p, 1, none⟩ = some (.slice Ak nk ck) ∧ W.cell? ⟨q, 0, none⟩ = some (.string t0) ∧ W.cell? ⟨q, 1, none⟩ = some (.string t1) ∧ W.cell? ⟨q, 2, none⟩ = some (.string t2) ∧ W.cell? ⟨s, 0, none⟩ = some (.int .i64 a) ∧ W.cell? ⟨s, 1, none⟩ = some (.int .i64 n) ∧ W.cell? ⟨s, 2, none⟩ = some (.int .i64 b) ∧ W.cell? ⟨s, 3, none⟩ = some (.int .i64 m) ∧ W.cell? ⟨s, 4, none⟩ = some (.int .i64 c) ∧ W.cell? ⟨s, 5, none⟩ = some (.int .i64 j)) (by kernel_rfl) (by have h9 := HKc.out.drew; exact ⟨h9.c0, h9.c1, h9.c2, h9.c3, h9.c4, h9.c5, h9.c6, h9.c7, h9.t8.c0, h9.t8.c1, h9.t8.c2⟩) (fun hHeld => ?_); obtain ⟨v11, hv11⟩ : ∃ v, v = wo.drew := ⟨_, rfl⟩
       have hb9 : Below wo.heap.size wo v11 := by rw [hv11]; exact (Below.refl _ _).drew
       have HKc := Lib.hid (HKc.out.later hb9); have R := Lib.hid (RdT.later R.out hb9); clear hb9; rw [← hv11] at hHeld ⊢; clear hv11; refine Tk 0 50 ?_; refine Tk 1 51 ?_; refine Tk 2 52 ?_; refine Tk 3 53 ?_; refine Tk 4 54 ?_; refine Tk 5 55 ?_; refine Tk 6 56 ?_; refine Tc 7 (fun K hK => ?_); go_simp; (go_at_call 10; refine (rmay_any t Ae Ak ne nk ce ck t0 a n v11 true HY.out L.out (by have := N.out; omega) R.out).mono ?_); rintro e v12 ⟨rfl, hb9⟩; have HKc := Lib.hid (HKc.out.later hb9); have R := Lib.hid (RdT.later R.out hb9); clear hb9; clear hHeld; refine Th hK ?_ (fun hHeld => ?_)
       ·exact ⟨HKc.out.c0, HKc.out.c1, HKc.out.c2, HKc.out.c3, HKc.out.c4, HKc.out.c5, HKc.out.c6, HKc.out.c7, HKc.out.t8.c0, HKc.out.t8.c1, HKc.out.t8.c2⟩
       clear hK K; refine Tk 8 58 ?_; refine wpAnyH_done (by kernel_rfl) ?_ _; clear hHeld; have HM2 : Hid ((0 < 1 → wB t t0 a n = true) ∧ (1 < 1 → wB t t1 b m = true) ∧ (2 < 1 → wB t t2 c j = true)) := ⟨fun _ => HY.out, fun h => absurd h (by omega), fun h => absurd h (by omega)⟩; go_wp2_with fail; go_roundw
       case rel => exact ⟨1, by omega, by go_num, HM2.out, HKc.out⟩
       case measure => simp [intOf]
     ·obtain ⟨y, hy9⟩ : ∃ y, wB t t1 b m = y := ⟨_, rfl⟩
      have HY := Lib.hid hy9; clear hy9; have c0 := HKc.out.c0; have c1 := HKc.out.c1; have c2 := HKc.out.c2; have c3 := HKc.out.c3; have c4 := HKc.out.c4; have c5 := HKc.out.c5; have c6 := HKc.out.c6; have c7 := HKc.out.c7; have c8 := HKc.out.t8.c0; have c9 := HKc.out.t8.c1; have c10 := HKc.out.t8.c2; go_wp2_with fail; clear c0 c1 c2 c3 c4 c5 c6 c7 c8 c9 c10
      cases y with
      | false =>
       refine wp_region_held_drew (S := fun W => W.cell? ⟨p, 0, none⟩ = some (.slice Ae ne ce) ∧ W.cell? ⟨p, 1, none⟩ = some (.slice Ak nk ck) ∧ W.cell? ⟨q, 0, none⟩ = some (.string t0) ∧ W.cell? ⟨q, 1, none⟩ = some (.string t1) ∧ W.cell? ⟨q, 2, none⟩ = some (.string t2) ∧ W.cell? ⟨s, 0, none⟩ = some (.int .i64 a) ∧ W.cell? ⟨s, 1, none⟩ = some (.int .i64 n) ∧ W.cell? ⟨s, 2, none⟩ = some (.int .i64 b) ∧ W.cell? ⟨s, 3, none⟩ = some (.int .i64 m) ∧ W.cell? ⟨s, 4, none⟩ = some (.int .i64 c) ∧ W.cell? ⟨s, 5, none⟩ = some (.int .i64 j)) (by kernel_rfl) (by have h9 := HKc.out.drew; exact ⟨h9.c0, h9.c1, h9.c2, h9.c3, h9.c4, h9.c5, h9.c6, h9.c7, h9.t8.c0, h9.t8.c1, h9.t8.c2⟩) (fun hHeld => ?_); obtain ⟨v111, hv111⟩ : ∃ v, v = wo.drew := ⟨_, rfl⟩
       have hb9 : Below wo.heap.size wo v111 := by rw [hv111]; exact (Below.refl _ _).drew
       have HKc := Lib.hid (HKc.out.later hb9); have R := Lib.hid (RdT.later R.out hb9); clear hb9; rw [← hv111] at hHeld ⊢; clear hv111; refine Tk 0 50 ?_; refine Tk 1 51 ?_; refine Tk 2 52 ?_; refine Tk 3 53 ?_; refine Tk 4 54 ?_; refine Tk 5 55 ?_; refine Tk 6 56 ?_; refine Tc 7 (fun K hK => ?_); go_simp; (go_at_call 10; refine (rmay_any t Ae Ak ne nk ce ck t1 b m v111 false HY.out L.out (by have := N.out; omega) R.out).mono ?_); rintro e v112 ⟨rfl, hb9⟩; have HKc := Lib.hid (HKc.out.later hb9); have R := Lib.hid (RdT.later R.out hb9); clear hb9; clear hHeld; refine Th hK ?_ (fun hHeld => ?_)
       ·exact ⟨HKc.out.c0, HKc.out.c1, HKc.out.c2, HKc.out.c3, HKc.out.c4, HKc.out.c5, HKc.out.c6, HKc.out.c7, HKc.out.t8.c0, HKc.out.t8.c1, HKc.out.t8.c2⟩
       clear hK K; refine Tk 8 58 ?_; refine wpAnyH_done (by kernel_rfl) ?_ _; clear hHeld; go_wp2_with fail; go_ret; exact ⟨by first | rfl | simp, HKc.out.below⟩
      | true =>
       refine wp_region_held_drew (S := fun W => W.cell? ⟨p, 0, none⟩ = some (.slice Ae ne ce) ∧ W.cell? ⟨p, 1, none⟩ = some (.slice Ak nk ck) ∧ W.cell? ⟨q, 0, none⟩ = some (.string t0) ∧ W.cell? ⟨q, 1, none⟩ = some (.string t1) ∧ W.cell? ⟨q, 2, none⟩ = some (.string t2) ∧ W.cell? ⟨s, 0, none⟩ = some (.int .i64 a) ∧ W.cell? ⟨s, 1, none⟩ = some (.int .i64 n) ∧ W.cell? ⟨s, 2, none⟩ = some (.int .i64 b) ∧ W.cell? ⟨s, 3, none⟩ = some (.int .i64 m) ∧ W.cell? ⟨s, 4, none⟩ = some (.int .i64 c) ∧ W.cell? ⟨s, 5, none⟩ = some (.int .i64 j)) (by kernel_rfl) (by have h9 := HKc.out.drew; exact ⟨h9.c0, h9.c1, h9.c2, h9.c3, h9.c4, h9.c5, h9.c6, h9.c7, h9.t8.c0, h9.t8.c1, h9.t8.c2⟩) (fun hHeld => ?_); obtain ⟨v111, hv111⟩ : ∃ v, v = wo.drew := ⟨_, rfl⟩
       have hb9 : Below wo.heap.size wo v111 := by rw [hv111]; exact (Below.refl _ _).drew
       have HKc := Lib.hid (HKc.out.later hb9); have R := Lib.hid (RdT.later R.out hb9); clear hb9; rw [← hv111] at hHeld ⊢; clear hv111; refine Tk 0 50 ?_; refine Tk 1 51 ?_; refine Tk 2 52 ?_; refine Tk 3 53 ?_; refine Tk 4 54 ?_; refine Tk 5 55 ?_; refine Tk 6 56 ?_; refine Tc 7 (fun K hK => ?_); go_simp; (go_at_call 10; refine (rmay_any t Ae Ak ne nk ce ck t1 b m v111 true HY.out L.out (by have := N.out; omega) R.out).mono ?_); rintro e v112 ⟨rfl, hb9⟩; have HKc := Lib.hid (HKc.out.later hb9); have R := Lib.hid (RdT.later R.out hb9); clear hb9; clear hHeld; refine Th hK ?_ (fun hHeld => ?_)
       ·exact ⟨HKc.out.c0, HKc.out.c1, HKc.out.c2, HKc.out.c3, HKc.out.c4, HKc.out.c5, HKc.out.c6, HKc.out.c7, HKc.out.t8.c0, HKc.out.t8.c1, HKc.out.t8.c2⟩
       clear hK K; refine Tk 8 58 ?_; refine wpAnyH_done (by kernel_rfl) ?_ _; clear hHeld; have HM2 : Hid ((0 < 2 → wB t t0 a n = true) ∧ (1 < 2 → wB t t1 b m = true) ∧ (2 < 2 → wB t t2 c j = true)) := ⟨fun _ => HMM.out.1 (by omega), fun h => HY.out, fun h => absurd h (by omega)⟩; go_wp2_with fail; go_roundw
       case rel => exact ⟨2, by omega, by go_num, HM2.out, HKc.out⟩
       case measure => simp [intOf]
     ·obtain ⟨y, hy9⟩ : ∃ y, wB t t2 c j = y := ⟨_, rfl⟩
      have HY := Lib.hid hy9; clear hy9; have c0 := HKc.out.c0; have c1 := HKc.out.c1; have c2 := HKc.out.c2; have c3 := HKc.out.c3; have c4 := HKc.out.c4; have c5 := HKc.out.c5; have c6 := HKc.out.c6; have c7 := HKc.out.c7; have c8 := HKc.out.t8.c0; have c9 := HKc.out.t8.c1; have c10 := HKc.out.t8.c2; go_wp2_with fail; clear c0 c1 c2 c3 c4 c5 c6 c7 c8 c9 c10
      cases y with
      | false =>
       refine wp_region_held_drew (S := fun W => W.cell? ⟨p, 0, none⟩ = some (.slice Ae ne ce) ∧ W.cell? ⟨p, 1, none⟩ = some (.slice Ak nk ck) ∧ W.cell? ⟨q, 0, none⟩ = some (.string t0) ∧ W.cell? ⟨q, 1, none⟩ = some (.string t1) ∧ W.cell? ⟨q, 2, none⟩ = some (.string t2) ∧ W.cell? ⟨s, 0, none⟩ = some (.int .i64 a) ∧ W.cell? ⟨s, 1, none⟩ = some (.int .i64 n) ∧ W.cell? ⟨s, 2, none⟩ = some (.int .i64 b) ∧ W.cell? ⟨s, 3, none⟩ = some (.int .i64 m) ∧ W.cell? ⟨s, 4, none⟩ = some (.int .i64 c) ∧ W.cell? ⟨s, 5, none⟩ = some (.int .i64 j)) (by kernel_rfl) (by have h9 := HKc.out.drew; exact ⟨h9.c0, h9.c1, h9.c2, h9.c3, h9.c4, h9.c5, h9.c6, h9.c7, h9.t8.c0, h9.t8.c1, h9.t8.c2⟩) (fun hHeld => ?_); obtain ⟨v211, hv211⟩ : ∃ v, v = wo.drew := ⟨_, rfl⟩
       have hb9 : Below wo.heap.size wo v211 := by rw [hv211]; exact (Below.refl _ _).drew
       have HKc := Lib.hid (HKc.out.later hb9); have R := Lib.hid (RdT.later R.out hb9); clear hb9; rw [← hv211] at hHeld ⊢; clear hv211; refine Tk 0 50 ?_; refine Tk 1 51 ?_; refine Tk 2 52 ?_; refine Tk 3 53 ?_; refine Tk 4 54 ?_; refine Tk 5 55 ?_; refine Tk 6 56 ?_; refine Tc 7 (fun K hK => ?_); go_simp; (go_at_call 10; refine (rmay_any t Ae Ak ne nk ce ck t2 c j v211 false HY.out L.out (by have := N.out; omega) R.out).mono ?_); rintro e v212 ⟨rfl, hb9⟩; have HKc := Lib.hid (HKc.out.later hb9); have R := Lib.hid (RdT.later R.out hb9); clear hb9; clear hHeld; refine Th hK ?_ (fun hHeld => ?_)
       ·exact ⟨HKc.out.c0, HKc.out.c1, HKc.out.c2, HKc.out.c3, HKc.out.c4, HKc.out.c5, HKc.out.c6, HKc.out.c7, HKc.out.t8.c0, HKc.out.t8.c1, HKc.out.t8.c2⟩
       clear hK K; refine Tk 8 58 ?_; refine wpAnyH_done (by kernel_rfl) ?_ _; clear hHeld; go_wp2_with fail; go_ret; exact ⟨by first | rfl | simp, HKc.out.below⟩
      | true =>
       refine wp_region_held_drew (S := fun W => W.cell? ⟨p, 0, none⟩ = some (.slice Ae ne ce) ∧ W.cell? ⟨p, 1, none⟩ = some (.slice Ak nk ck) ∧ W.cell? ⟨q, 0, none⟩ = some (.string t0) ∧ W.cell? ⟨q, 1, none⟩ = some (.string t1) ∧ W.cell? ⟨q, 2, none⟩ = some (.string t2) ∧ W.cell? ⟨s, 0, none⟩ = some (.int .i64 a) ∧ W.cell? ⟨s, 1, none⟩ = some (.int .i64 n) ∧ W.cell? ⟨s, 2, none⟩ = some (.int .i64 b) ∧ W.cell? ⟨s, 3, none⟩ = some (.int .i64 m) ∧ W.cell? ⟨s, 4, none⟩ = some (.int .i64 c) ∧ W.cell? ⟨s, 5, none⟩ = some (.int .i64 j)) (by kernel_rfl) (by have h9 := HKc.out.drew; exact ⟨h9.c0, h9.c1, h9.c2, h9.c3, h9.c4, h9.c5, h9.c6, h9.c7, h9.t8.c0, h9.t8.c1, h9.t8.c2⟩) (fun hHeld => ?_); obtain ⟨v211, hv211⟩ : ∃ v, v = wo.drew := ⟨_, rfl⟩
       have hb9 : Below wo.heap.size wo v211 := by rw [hv211]; exact (Below.refl _ _).drew
       have HKc := Lib.hid (HKc.out.later hb9); have R := Lib.hid (RdT.later R.out hb9); clear hb9; rw [← hv211] at hHeld ⊢; clear hv211; refine Tk 0 50 ?_; refine Tk 1 51 ?_; refine Tk 2 52 ?_; refine Tk 3 53 ?_; refine Tk 4 54 ?_; refine Tk 5 55 ?_; refine Tk 6 56 ?_; refine Tc 7 (fun K hK => ?_); go_simp; (go_at_call 10; refine (rmay_any t Ae Ak ne nk ce ck t2 c j v211 true HY.out L.out (by have := N.out; omega) R.out).mono ?_); rintro e v212 ⟨rfl, hb9⟩; have HKc := Lib.hid (HKc.out.later hb9); have R := Lib.hid (RdT.later R.out hb9); clear hb9; clear hHeld; refine Th hK ?_ (fun hHeld => ?_)
       ·exact ⟨HKc.out.c0, HKc.out.c1, HKc.out.c2, HKc.out.c3, HKc.out.c4, HKc.out.c5, HKc.out.c6, HKc.out.c7, HKc.out.t8.c0, HKc.out.t8.c1, HKc.out.t8.c2⟩
       clear hK K; refine Tk 8 58 ?_; refine wpAnyH_done (by kernel_rfl) ?_ _; clear hHeld; have HM2 : Hid ((0 < 3 → wB t t0 a n = true) ∧ (1 < 3 → wB t t1 b m = true) ∧ (2 < 3 → wB t t2 c j = true)) := ⟨fun _ => HMM.out.1 (by omega), fun h => HMM.out.2.1 (by omega), fun h => HY.out⟩; go_wp2_with fail; go_roundw
       case rel => exact ⟨3, by omega, by go_num, HM2.out, HKc.out⟩
       case measure => simp [intOf]
    ·obtain rfl : k = 3 := by omega
     have HM0 : Hid (wB t t0 a n = true) := HMM.out.1 (by omega); have HM1 : Hid (wB t t1 b m = true) := HMM.out.2.1 (by omega); have HM2 : Hid (wB t t2 c j = true) := HMM.out.2.2 (by omega); have HCK0 : Hid (checkB t a n = true) := (wB_iff.1 HM0.out).1; have HCK1 : Hid (checkB t b m = true) := (wB_iff.1 HM1.out).1; have HCK2 : Hid (checkB t c j = true) := (wB_iff.1 HM2.out).1; have HT : Hid (RightT 5 t) := (check_iff.1 HCK0.out).1; have HD0 : Hid (Dt.rightB a n = true) := (check_iff.1 HCK0.out).2.1; have HD1 : Hid (Dt.rightB b m = true) := (check_iff.1 HCK1.out).2.1; have HD2 : Hid (Dt.rightB c j = true) := (check_iff.1 HCK2.out).2.1; have HE0 : Hid (RightE ⟨a, n, t0, 0⟩) := text_e HD0.out (wB_iff.1 HM0.out).2; have HE1 : Hid (RightE ⟨b, m, t1, 0⟩) := text_e HD1.out (wB_iff.1 HM1.out).2; have HE2 : Hid (RightE ⟨c, j, t2, 0⟩) := text_e HD2.out (wB_iff.1 HM2.out).2; clear HMM; obtain ⟨u, hu1, hu2⟩ := some_of HT.out L.out (by have := N.out; omega) R.out
     obtain ⟨m9, hm9⟩ : ∃ m9, u.length = m9 := ⟨_, rfl⟩; have HU : Hid (OfC (dl t) u ∧ u.length = m9 ∧ m9 ≤ 240) := ⟨hu1, hm9, by have := N.out; omega⟩; clear hu1 hu2 hm9; obtain ⟨u8, hu1, hu2⟩ := some_of (right_own HT.out) (LenT.few (by have := own_nodes t; have := N.out; omega)) (by have := own_nodes t; have := N.out; omega) (own_rd R.out); obtain ⟨m8, hm9⟩ : ∃ m9, u8.length = m9 := ⟨_, rfl⟩; have H8 : Hid (OfC (ownD t) u8 ∧ u8.length = m8 ∧ m8 ≤ 240) := ⟨by rw [ownD_dl] at hu1; exact hu1, hm9, by have := own_nodes t; have := N.out; omega⟩; clear hu1 hu2 hm9; have JT : Hid (RK (t, u)) := known_right HT.out HU.out.1; have c0 := HKc.out.c0; have c1 := HKc.out.c1; have c2 := HKc.out.c2; have c3 := HKc.out.c3; have c4 := HKc.out.c4; have c5 := HKc.out.c5; have c6 := HKc.out.c6; have c7 := HKc.out.c7; have c8 := HKc.out.t8.c0; have c9 := HKc.out.t8.c1; have c10 := HKc.out.t8.c2; go_wp2_with fail
     refine (rwrite_any t Ae Ak ne nk ce ck t0 a n wo L.out (by have := N.out; omega) R.out).mono ?_; rintro e v1 ⟨kx, zx, Xe, xe1, xe2, Xk, xk1, xk2, Xc, xc1, xc2, rfl, how, hz, hb9⟩; have HKc := Lib.hid (HKc.out.later hb9); have R := Lib.hid (RdT.later R.out hb9); clear hb9; clear c0 c1 c2 c3 c4 c5 c6 c7 c8 c9 c10; have RX := Lib.hid (RdP.of_own how.out); have ZX := Lib.hid hz.out; clear how hz; obtain ⟨rfl, hk1, hna, u2, hu2, hpv⟩ := ZX.out.1 (HM0.out); have KX : Hid (kx.1 = oneT ⟨a, n, t0, 0⟩) := hk1
     have BX : Hid (xc1 ≤ 244) := by have := N.out; unfold Hid; omega
     have VX : Hid (PutC uniF u8 (oneC a n) kx.2) := by unfold Hid; rw [← hu2.eq H8.out.1]; exact hpv
     clear hk1 hna hu2 hpv
     have JX : Hid (RK kx) := by
      have h : RK (oneT ⟨a, n, t0, 0⟩, kx.2) := right_one (right_oneT HE0.out) VX.out.right (uni_self H8.out.1.right HD0.out VX.out); rw [← KX.out] at h; exact h
     obtain ⟨g, hg⟩ : ∃ g, g = v1.heap.size := ⟨_, rfl⟩; obtain ⟨v2, hv2⟩ : ∃ W, W = v1.alloc (.cells #[.slice Xe xe1 xe2, .slice Xk xk1 xk2, .slice Xc xc1 xc2] 33) := ⟨_, rfl⟩
     have hb9 : Below v1.heap.size v1 v2 := by rw [hv2]; exact Dt.box_below _ _ _
     have b0 : v2.cell? ⟨g, 0, none⟩ = some (.slice Xe xe1 xe2) := by rw [hv2, hg]; go_simp
     have b1 : v2.cell? ⟨g, 1, none⟩ = some (.slice Xk xk1 xk2) := by rw [hv2, hg]; go_simp
     have b2 : v2.cell? ⟨g, 2, none⟩ = some (.slice Xc xc1 xc2) := by rw [hv2, hg]; go_simp
     have HKc := Lib.hid (HKc.out.later hb9); have R := Lib.hid (RdT.later R.out hb9); have RX := Lib.hid (RX.out.later hb9); clear hb9; have HKc := Lib.hid (((HKc.out.cons_of b2).cons_of b1).cons_of b0); have Hg := Lib.hid hg; have Hv2 := Lib.hid hv2; clear hg hv2 b0 b1 b2; have c0 := HKc.out.c0; have c1 := HKc.out.c1; have c2 := HKc.out.c2; have c3 := HKc.out.c3; have c4 := HKc.out.c4; have c5 := HKc.out.c5; have c6 := HKc.out.c6; have c7 := HKc.out.c7; have c8 := HKc.out.t8.c0; have c9 := HKc.out.t8.c1; have c10 := HKc.out.t8.c2; have c11 := HKc.out.t8.c3; have c12 := HKc.out.t8.c4; have c13 := HKc.out.t8.c5; rw [Hv2.out] at c0 c1 c2 c3 c4 c5 c6 c7 c8 c9 c10 c11 c12 c13; rw [Hg.out] at c0 c1 c2; go_wp2_with fail; rw [← Hg.out, ← Hv2.out]; refine (rwrite_any t Ae Ak ne nk ce ck t1 b m v2 L.out (by have := N.out; omega) R.out).mono ?_; rintro e v3 ⟨ky, zy, Ye, ye1, ye2, Yk, yk1, yk2, Yc, yc1, yc2, rfl, how, hz, hb9⟩
     have HKc := Lib.hid (HKc.out.later hb9); have R := Lib.hid (RdT.later R.out hb9); have RX := Lib.hid (RX.out.later hb9); clear hb9; clear c0 c1 c2 c3 c4 c5 c6 c7 c8 c9 c10 c11 c12 c13; have RY := Lib.hid (RdP.of_own how.out); have ZY := Lib.hid hz.out; clear how hz; obtain ⟨rfl, hk1, hna, u2, hu2, hpv⟩ := ZY.out.1 (HM1.out); have KY : Hid (ky.1 = oneT ⟨b, m, t1, 0⟩) := hk1
     have BY : Hid (yc1 ≤ 244) := by have := N.out; unfold Hid; omega
     have VY : Hid (PutC uniF u8 (oneC b m) ky.2) := by unfold Hid; rw [← hu2.eq H8.out.1]; exact hpv
     clear hk1 hna hu2 hpv
     have JY : Hid (RK ky) := by
      have h : RK (oneT ⟨b, m, t1, 0⟩, ky.2) := right_one (right_oneT HE1.out) VY.out.right (uni_self H8.out.1.right HD1.out VY.out); rw [← KY.out] at h; exact h
     obtain ⟨h, hh⟩ : ∃ g, g = v3.heap.size := ⟨_, rfl⟩; obtain ⟨v4, hv4⟩ : ∃ W, W = v3.alloc (.cells #[.slice Ye ye1 ye2, .slice Yk yk1 yk2, .slice Yc yc1 yc2] 33) := ⟨_, rfl⟩
     have hb9 : Below v3.heap.size v3 v4 := by rw [hv4]; exact Dt.box_below _ _ _
     have b0 : v4.cell? ⟨h, 0, none⟩ = some (.slice Ye ye1 ye2) := by rw [hv4, hh]; go_simp
     have b1 : v4.cell? ⟨h, 1, none⟩ = some (.slice Yk yk1 yk2) := by rw [hv4, hh]; go_simp
     have b2 : v4.cell? ⟨h, 2, none⟩ = some (.slice Yc yc1 yc2) := by rw [hv4, hh]; go_simp
     have HKc := Lib.hid (HKc.out.later hb9); have R := Lib.hid (RdT.later R.out hb9); have RX := Lib.hid (RX.out.later hb9); have RY := Lib.hid (RY.out.later hb9); clear hb9; have HKc := Lib.hid (((HKc.out.cons_of b2).cons_of b1).cons_of b0); have Hh := Lib.hid hh; have Hv4 := Lib.hid hv4; clear hh hv4 b0 b1 b2
     have HSUM : ∀ (B9 : Option Addr) (d9 : Nat), Hid (sumN [⟨(t, u), ⟨Ae, ne, ce⟩, ⟨Ak, nk, ck⟩, ⟨B9, m9, d9⟩⟩, ⟨kx, ⟨Xe, xe1, xe2⟩, ⟨Xk, xk1, xk2⟩, ⟨Xc, xc1, xc2⟩⟩, ⟨ky, ⟨Ye, ye1, ye2⟩, ⟨Yk, yk1, yk2⟩, ⟨Yc, yc1, yc2⟩⟩] ≤ 64 ∧ sumC [⟨(t, u), ⟨Ae, ne, ce⟩, ⟨Ak, nk, ck⟩, ⟨B9, m9, d9⟩⟩, ⟨kx, ⟨Xe, xe1, xe2⟩, ⟨Xk, xk1, xk2⟩, ⟨Xc, xc1, xc2⟩⟩, ⟨ky, ⟨Ye, ye1, ye2⟩, ⟨Yk, yk1, yk2⟩, ⟨Yc, yc1, yc2⟩⟩] ≤ 1000) := fun B9 d9 => by
      have h1 := N.out; have h2 := HU.out.2.2; have hbx := BX.out; have hnx : nodes kx.1 ≤ 2 := (by rw [KX.out, nodes_one]; omega); have hby := BY.out; have hny : nodes ky.1 ≤ 2 := (by rw [KY.out, nodes_one]; omega); unfold Hid; simp only [sumN, sumC, List.map_cons, List.map_nil, List.sum_cons, List.sum_nil]; omega
     have c0 := HKc.out.c0; have c1 := HKc.out.c1; have c2 := HKc.out.c2; have c3 := HKc.out.c3; have c4 := HKc.out.c4; have c5 := HKc.out.c5; have c6 := HKc.out.c6; have c7 := HKc.out.c7; have c8 := HKc.out.t8.c0; have c9 := HKc.out.t8.c1; have c10 := HKc.out.t8.c2; have c11 := HKc.out.t8.c3; have c12 := HKc.out.t8.c4; have c13 := HKc.out.t8.c5; have c14 := HKc.out.t8.c6; have c15 := HKc.out.t8.c7; have c16 := HKc.out.t8.t8.c0; rw [Hv4.out] at c0 c1 c2 c3 c4 c5 c6 c7 c8 c9 c10 c11 c12 c13 c14 c15 c16; rw [Hh.out] at c0 c1 c2; go_wp2_with fail; rw [← Hh.out, ← Hv4.out]; clear c0 c1 c2 c3 c4 c5 c6 c7 c8 c9 c10 c11 c12 c13 c14 c15 c16
     go_cut [12, 13] (fun s9 e9 wx => ∃ (g9 : Nat) (p9 : CP), s9 = .pointer (some ⟨g9, 0, none⟩) ∧ e9 = .int .i64 0 ∧ Hid (MidJ v4 g9 p9 wx) ∧ Hid (AllJ [(t, u), kx, ky] p9.k ∧ nodes p9.k.1 ≤ 64 ∧ p9.c.n ≤ 1000))
     case first =>
      refine wp_region_held_drew (S := fun W => W.cell? ⟨h, 0, none⟩ = some (.slice Ye ye1 ye2) ∧ W.cell? ⟨h, 1, none⟩ = some (.slice Yk yk1 yk2) ∧ W.cell? ⟨h, 2, none⟩ = some (.slice Yc yc1 yc2) ∧ W.cell? ⟨g, 0, none⟩ = some (.slice Xe xe1 xe2) ∧ W.cell? ⟨g, 1, none⟩ = some (.slice Xk xk1 xk2) ∧ W.cell? ⟨g, 2, none⟩ = some (.slice Xc xc1 xc2) ∧ W.cell? ⟨p, 0, none⟩ = some (.slice Ae ne ce) ∧ W.cell? ⟨p, 1, none⟩ = some (.slice Ak nk ck) ∧ W.cell? ⟨q, 0, none⟩ = some (.string t0) ∧ W.cell? ⟨q, 1, none⟩ = some (.string t1) ∧ W.cell? ⟨q, 2, none⟩ = some (.string t2) ∧ W.cell? ⟨s, 0, none⟩ = some (.int .i64 a) ∧ W.cell? ⟨s, 1, none⟩ = some (.int .i64 n) ∧ W.cell? ⟨s, 2, none⟩ = some (.int .i64 b) ∧ W.cell? ⟨s, 3, none⟩ = some (.int .i64 m) ∧ W.cell? ⟨s, 4, none⟩ = some (.int .i64 c) ∧ W.cell? ⟨s, 5, none⟩ = some (.int .i64 j)) (by kernel_rfl) (by have h9 := HKc.out.drew; exact ⟨h9.c0, h9.c1, h9.c2, h9.c3, h9.c4, h9.c5, h9.c6, h9.c7, h9.t8.c0, h9.t8.c1, h9.t8.c2, h9.t8.c3, h9.t8.c4, h9.t8.c5, h9.t8.c6, h9.t8.c7, h9.t8.t8.c0⟩) (fun hHeld => ?_)
      obtain ⟨v5, hv5⟩ : ∃ v, v = v4.drew := ⟨_, rfl⟩
      have hb9 : Below v4.heap.size v4 v5 := by rw [hv5]; exact (Below.refl _ _).drew
      have HKc := Lib.hid (HKc.out.later hb9); have R := Lib.hid (RdT.later R.out hb9); have RX := Lib.hid (RX.out.later hb9); have RY := Lib.hid (RY.out.later hb9); clear hb9; have HBV9 : Hid (v4.drew = v5) := hv5.symm; rw [← hv5] at hHeld ⊢; clear hv5
      have HBV : Hid (Below v4.heap.size v4 v5) := by unfold Hid; rw [← HBV9.out]; exact (Below.refl _ _).drew
      clear HBV9; refine Tk 0 79 ?_; refine Tk 2 81 ?_; refine Tk 3 82 ?_; refine wpAnyH_ready (rs := [1, 9]) (by kernel_rfl) (by simp) ?_; refine AllReadyH.cons (o := ⟨some 80, _, _, _, _, _⟩) rfl (fun K hK => ?_) (AllReadyH.cons (o := ⟨some 12, _, _, _, _, _⟩) rfl (fun K hK => ?_) (AllReadyH.nil))
      ·go_simp
       (go_at_call 19; refine (refknown_any t Ae Ak ne nk ce ck u m9 v5 HT.out (by have := N.out; omega) R.out HU.out.1 HU.out.2.1 (by have := HU.out.2.2; omega)).mono ?_); rintro e v6 ⟨B9, d9, rfl, hro, hb9⟩; have RK9 : Hid (RdP v6 ⟨(t, u), ⟨Ae, ne, ce⟩, ⟨Ak, nk, ck⟩, ⟨B9, m9, d9⟩⟩) := ⟨RdT.later R.out hb9, HU.out.2.1, hro.rd⟩; clear hro; have HKc := Lib.hid (HKc.out.later hb9); have R := Lib.hid (RdT.later R.out hb9); have RX := Lib.hid (RX.out.later hb9); have RY := Lib.hid (RY.out.later hb9); have HBV := Lib.hid (HBV.out.trans (hb9.mono HBV.out.size)); clear hb9; have HSUM := HSUM B9 d9; clear hHeld; refine Th hK ?_ (fun hHeld => ?_)
       ·exact ⟨HKc.out.c0, HKc.out.c1, HKc.out.c2, HKc.out.c3, HKc.out.c4, HKc.out.c5, HKc.out.c6, HKc.out.c7, HKc.out.t8.c0, HKc.out.t8.c1, HKc.out.t8.c2, HKc.out.t8.c3, HKc.out.t8.c4, HKc.out.t8.c5, HKc.out.t8.c6, HKc.out.t8.c7, HKc.out.t8.t8.c0⟩
       clear hK K; refine wpAnyH_ready (rs := [4, 9]) (by kernel_rfl) (by simp) ?_; refine AllReadyH.cons (o := ⟨some 83, _, _, _, _, _⟩) rfl (fun K hK => ?_) (AllReadyH.cons (o := ⟨some 12, _, _, _, _, _⟩) rfl (fun K hK => ?_) (AllReadyH.nil))
       ·go_simp
        clear hHeld; refine Th hK ?_ (fun hHeld => ?_)
        ·exact ⟨(HKc.out.alloc _).c0, (HKc.out.alloc _).c1, (HKc.out.alloc _).c2, (HKc.out.alloc _).c3, (HKc.out.alloc _).c4, (HKc.out.alloc _).c5, (HKc.out.alloc _).c6, (HKc.out.alloc _).c7, (HKc.out.alloc _).t8.c0, (HKc.out.alloc _).t8.c1, (HKc.out.alloc _).t8.c2, (HKc.out.alloc _).t8.c3, (HKc.out.alloc _).t8.c4, (HKc.out.alloc _).t8.c5, (HKc.out.alloc _).t8.c6, (HKc.out.alloc _).t8.c7, (HKc.out.alloc _).t8.t8.c0⟩
        clear hK K; obtain ⟨gr, hgr⟩ : ∃ g, g = v6.heap.size := ⟨_, rfl⟩; obtain ⟨v7, hv7⟩ : ∃ W, W = v6.alloc (.cells #[.slice Ae ne ce, .slice Ak nk ck, .slice B9 m9 d9, .slice Xe xe1 xe2, .slice Xk xk1 xk2, .slice Xc xc1 xc2, .slice Ye ye1 ye2, .slice Yk yk1 yk2, .slice Yc yc1 yc2] 33) := ⟨_, rfl⟩
        have hb9 : Below v6.heap.size v6 v7 := by rw [hv7]; exact Dt.box_below _ _ _
        have hrow := rd_rowP v6 [⟨(t, u), ⟨Ae, ne, ce⟩, ⟨Ak, nk, ck⟩, ⟨B9, m9, d9⟩⟩, ⟨kx, ⟨Xe, xe1, xe2⟩, ⟨Xk, xk1, xk2⟩, ⟨Xc, xc1, xc2⟩⟩, ⟨ky, ⟨Ye, ye1, ye2⟩, ⟨Yk, yk1, yk2⟩, ⟨Yc, yc1, yc2⟩⟩] #[.slice Ae ne ce, .slice Ak nk ck, .slice B9 m9 d9, .slice Xe xe1 xe2, .slice Xk xk1 xk2, .slice Xc xc1 xc2, .slice Ye ye1 ye2, .slice Yk yk1 yk2, .slice Yc yc1 yc2] 3 rfl rfl; rw [← hv7, ← hgr] at hrow; have HKc := Lib.hid (HKc.out.later hb9); have R := Lib.hid (RdT.later R.out hb9); have RX := Lib.hid (RX.out.later hb9); have RY := Lib.hid (RY.out.later hb9); have HBV := Lib.hid (HBV.out.trans (hb9.mono HBV.out.size)); have RK9 := Lib.hid (RK9.out.later hb9)
        have RW : Hid (RowP v7 (some ⟨gr, 0, none⟩) 3 3 [⟨(t, u), ⟨Ae, ne, ce⟩, ⟨Ak, nk, ck⟩, ⟨B9, m9, d9⟩⟩, ⟨kx, ⟨Xe, xe1, xe2⟩, ⟨Xk, xk1, xk2⟩, ⟨Xc, xc1, xc2⟩⟩, ⟨ky, ⟨Ye, ye1, ye2⟩, ⟨Yk, yk1, yk2⟩, ⟨Yc, yc1, yc2⟩⟩]) := ⟨hrow.more (by rw [hv7, hgr]; simp), rfl, fun p hp => by
         simp at hp
         rcases hp with rfl | rfl | rfl
         ·exact RK9.out
         ·exact RX.out
         ·exact RY.out⟩
        (try rw [← hv7] at hHeld); rw [← hv7]; rw [← hgr]; clear hgr hv7 hb9 hrow; refine wpAnyH_ready (rs := [5, 9]) (by kernel_rfl) (by simp) ?_; refine AllReadyH.cons (o := ⟨some 84, _, _, _, _, _⟩) rfl (fun K hK => ?_) (AllReadyH.cons (o := ⟨some 12, _, _, _, _, _⟩) rfl (fun K hK => ?_) (AllReadyH.nil))
        ·go_simp
         (go_at_call 20; refine (joinAllE_sum 3 [⟨(t, u), ⟨Ae, ne, ce⟩, ⟨Ak, nk, ck⟩, ⟨B9, m9, d9⟩⟩, ⟨kx, ⟨Xe, xe1, xe2⟩, ⟨Xk, xk1, xk2⟩, ⟨Xc, xc1, xc2⟩⟩, ⟨ky, ⟨Ye, ye1, ye2⟩, ⟨Yk, yk1, yk2⟩, ⟨Yc, yc1, yc2⟩⟩] (some ⟨gr, 0, none⟩) 3 v7 (by omega) RW.out ⟨Nat.le_trans HSUM.out.1 (by omega), HSUM.out.2⟩).mono ?_); rintro e v8 ⟨kf, z9, hj, _, Fe, fe1, fe2, Fk, fk1, fk2, Fc, fc1, fc2, rfl, how, hb9⟩
         obtain ⟨rfl, hall, hnn, hnc⟩ := hj (fun p hp => by
          simp at hp
          rcases hp with rfl | rfl | rfl
          ·exact JT.out
          ·exact JX.out
          ·exact JY.out)
         have HP : Hid (AllJ [(t, u), kx, ky] kf ∧ nodes kf.1 ≤ 64 ∧ fc1 ≤ 1000) := ⟨hall, Nat.le_trans hnn HSUM.out.1, by rw [← how.len]; exact Nat.le_trans hnc HSUM.out.2⟩; have HN : Hid (NoC v8 (fun _ => True) ⟨kf, ⟨Fe, fe1, fe2⟩, ⟨Fk, fk1, fk2⟩, ⟨Fc, fc1, fc2⟩⟩) := NoC.of_own how (fun b hb _ => trivial); clear hj hall hnn hnc how; have HKc := Lib.hid (HKc.out.later hb9); have R := Lib.hid (RdT.later R.out hb9); have RX := Lib.hid (RX.out.later hb9); have RY := Lib.hid (RY.out.later hb9); have HBV := Lib.hid (HBV.out.trans (hb9.mono HBV.out.size)); have RK9 := Lib.hid (RK9.out.later hb9); have RW := Lib.hid (RW.out.later hb9); clear hb9; clear hHeld; refine Th hK ?_ (fun hHeld => ?_)
         ·exact ⟨HKc.out.c0, HKc.out.c1, HKc.out.c2, HKc.out.c3, HKc.out.c4, HKc.out.c5, HKc.out.c6, HKc.out.c7, HKc.out.t8.c0, HKc.out.t8.c1, HKc.out.t8.c2, HKc.out.t8.c3, HKc.out.t8.c4, HKc.out.t8.c5, HKc.out.t8.c6, HKc.out.t8.c7, HKc.out.t8.t8.c0⟩
         clear hK K; refine Tk 6 78 ?_; refine Tk 7 85 ?_; refine Tk 8 86 ?_; refine Tc 9 (fun K hK => ?_); go_simp; clear hHeld; refine Th hK ?_ (fun hHeld => ?_)
         ·exact ⟨(HKc.out.alloc _).c0, (HKc.out.alloc _).c1, (HKc.out.alloc _).c2, (HKc.out.alloc _).c3, (HKc.out.alloc _).c4, (HKc.out.alloc _).c5, (HKc.out.alloc _).c6, (HKc.out.alloc _).c7, (HKc.out.alloc _).t8.c0, (HKc.out.alloc _).t8.c1, (HKc.out.alloc _).t8.c2, (HKc.out.alloc _).t8.c3, (HKc.out.alloc _).t8.c4, (HKc.out.alloc _).t8.c5, (HKc.out.alloc _).t8.c6, (HKc.out.alloc _).t8.c7, (HKc.out.alloc _).t8.t8.c0⟩
         clear hK K; obtain ⟨gf, hgf⟩ : ∃ g, g = v8.heap.size := ⟨_, rfl⟩; obtain ⟨v9, hv9⟩ : ∃ W, W = v8.alloc (.cells #[.slice none 0 0, .slice none 0 0, .slice none 0 0] 33) := ⟨_, rfl⟩
         have hb9 : Below v8.heap.size v8 v9 := by rw [hv9]; exact Dt.box_below _ _ _
         have hvg : v4.heap.size ≤ gf := by rw [hgf]; exact HBV.out.size
         have hwg : w.heap.size ≤ gf := by rw [hgf]; exact HKc.out.below.size
         have hnh : h ≠ gf := by have h := World.block_lt_of_cell? v8 _ HKc.out.c0; dsimp only at h; omega
         have hng : g ≠ gf := by have h := World.block_lt_of_cell? v8 _ HKc.out.c3; dsimp only at h; omega
         have hnp : p ≠ gf := by have h := World.block_lt_of_cell? v8 _ HKc.out.c6; dsimp only at h; omega
         have hnq : q ≠ gf := by have h := World.block_lt_of_cell? v8 _ HKc.out.t8.c0; dsimp only at h; omega
         have hns : s ≠ gf := by have h := World.block_lt_of_cell? v8 _ HKc.out.t8.c3; dsimp only at h; omega
         have b0 : v9.cell? ⟨gf, 0, none⟩ = some (.slice none 0 0) := by rw [hv9, hgf]; go_simp
         have b1 : v9.cell? ⟨gf, 1, none⟩ = some (.slice none 0 0) := by rw [hv9, hgf]; go_simp
         have b2 : v9.cell? ⟨gf, 2, none⟩ = some (.slice none 0 0) := by rw [hv9, hgf]; go_simp
         have HN := Lib.hid (HN.out.mono (ok' := fun b => b ≠ gf) (fun b _ hlt => by omega)); have HKc := Lib.hid (HKc.out.later hb9); have R := Lib.hid (RdT.later R.out hb9); have RX := Lib.hid (RX.out.later hb9); have RY := Lib.hid (RY.out.later hb9); have HBV := Lib.hid (HBV.out.trans (hb9.mono HBV.out.size)); have RK9 := Lib.hid (RK9.out.later hb9); have RW := Lib.hid (RW.out.later hb9); have HN := Lib.hid (HN.out.later hb9); have HZ : Hid (Kept [(⟨gf, 0, none⟩, .slice none 0 0), (⟨gf, 1, none⟩, .slice none 0 0), (⟨gf, 2, none⟩, .slice none 0 0)] v4 v9) := (((Kept.nil_of HBV.out).cons_of b2).cons_of b1).cons_of b0; have HF : Hid (Free gf v9) := ⟨by rw [hv9, hgf]; simp, fun j => by rw [hv9, hgf]; go_simp⟩; have hlt9 : gf < v9.heap.size := HF.out.1; (try rw [← hv9] at hHeld); rw [← hv9]; rw [← hgf]; clear hgf hv9 hb9 b0 b1 b2; have z0 := HZ.out.c0; have z1 := HZ.out.c1; have z2 := HZ.out.c2
         have m0 := HF.out.2 0; have m1 := HF.out.2 1; have m2 := HF.out.2 2; refine Tc 10 (fun K hK => ?_); go_simp; refine Th hK ?_ (fun hHeld2 => ?_)
         ·(try dsimp only)
          have h9 := HKc.out
          have h9 := h9.set (a := ⟨gf, 0, none⟩) hwg (fun x hx => by simp at hx; rcases hx with rfl | rfl | rfl | rfl | rfl | rfl | rfl | rfl | rfl | rfl | rfl | rfl | rfl | rfl | rfl | rfl | rfl <;> (dsimp only; omega)) (.slice Fe fe1 fe2)
          have h9 := h9.set (a := ⟨gf, 1, none⟩) hwg (fun x hx => by simp at hx; rcases hx with rfl | rfl | rfl | rfl | rfl | rfl | rfl | rfl | rfl | rfl | rfl | rfl | rfl | rfl | rfl | rfl | rfl <;> (dsimp only; omega)) (.slice Fk fk1 fk2)
          have h9 := h9.set (a := ⟨gf, 2, none⟩) hwg (fun x hx => by simp at hx; rcases hx with rfl | rfl | rfl | rfl | rfl | rfl | rfl | rfl | rfl | rfl | rfl | rfl | rfl | rfl | rfl | rfl | rfl <;> (dsimp only; omega)) (.slice Fc fc1 fc2)
          exact ⟨h9.c0, h9.c1, h9.c2, h9.c3, h9.c4, h9.c5, h9.c6, h9.c7, h9.t8.c0, h9.t8.c1, h9.t8.c2, h9.t8.c3, h9.t8.c4, h9.t8.c5, h9.t8.c6, h9.t8.c7, h9.t8.t8.c0⟩
         clear hK K hHeld; have hHeld := hHeld2; clear hHeld2; refine Tk 11 13 ?_; refine wpAnyH_done (by kernel_rfl) ?_ _; clear hHeld
         have HMID : Hid (MidJ v4 gf ⟨kf, ⟨Fe, fe1, fe2⟩, ⟨Fk, fk1, fk2⟩, ⟨Fc, fc1, fc2⟩⟩ (((v9.setCell ⟨gf, 0, none⟩ (.slice Fe fe1 fe2)).setCell ⟨gf, 1, none⟩ (.slice Fk fk1 fk2)).setCell ⟨gf, 2, none⟩ (.slice Fc fc1 fc2))) := by
          obtain ⟨W9, hW9⟩ : ∃ W, W = (((v9.setCell ⟨gf, 0, none⟩ (.slice Fe fe1 fe2)).setCell ⟨gf, 1, none⟩ (.slice Fk fk1 fk2)).setCell ⟨gf, 2, none⟩ (.slice Fc fc1 fc2)) := ⟨_, rfl⟩; rw [← hW9]
          have hb : Below v4.heap.size v4 W9 := by
           rw [hW9]; exact (((HBV.out.setCell (p := ⟨gf, 0, none⟩) hvg _).setCell (p := ⟨gf, 1, none⟩) hvg _).setCell (p := ⟨gf, 2, none⟩) hvg _)
          refine ⟨(HN.out.keep (by rw [hW9, cells3]; exact Nat.le_refl _) (fun b hb _ => by rw [hW9]; exact cells3_at b hb)).rd, ?_⟩
          refine (((Kept.nil_of hb).cons_of ?_).cons_of ?_).cons_of ?_ <;> (rw [hW9]; go_simp)
         clear z0 z1 z2 m0 m1 m2; go_wp2_with fail; go_meet; exact ⟨gf, ⟨kf, ⟨Fe, fe1, fe2⟩, ⟨Fk, fk1, fk2⟩, ⟨Fc, fc1, fc2⟩⟩, rfl, rfl, HMID.out, HP.out⟩
        ·go_simp
         clear hHeld; refine Th hK ?_ (fun hHeld => ?_)
         ·exact ⟨(HKc.out.alloc _).c0, (HKc.out.alloc _).c1, (HKc.out.alloc _).c2, (HKc.out.alloc _).c3, (HKc.out.alloc _).c4, (HKc.out.alloc _).c5, (HKc.out.alloc _).c6, (HKc.out.alloc _).c7, (HKc.out.alloc _).t8.c0, (HKc.out.alloc _).t8.c1, (HKc.out.alloc _).t8.c2, (HKc.out.alloc _).t8.c3, (HKc.out.alloc _).t8.c4, (HKc.out.alloc _).t8.c5, (HKc.out.alloc _).t8.c6, (HKc.out.alloc _).t8.c7, (HKc.out.alloc _).t8.t8.c0⟩
         clear hK K; obtain ⟨gf, hgf⟩ : ∃ g, g = v7.heap.size := ⟨_, rfl⟩; obtain ⟨v8, hv8⟩ : ∃ W, W = v7.alloc (.cells #[.slice none 0 0, .slice none 0 0, .slice none 0 0] 33) := ⟨_, rfl⟩
         have hb9 : Below v7.heap.size v7 v8 := by rw [hv8]; exact Dt.box_below _ _ _
         have hvg : v4.heap.size ≤ gf := by rw [hgf]; exact HBV.out.size
         have hwg : w.heap.size ≤ gf := by rw [hgf]; exact HKc.out.below.size
         have hnh : h ≠ gf := by have h := World.block_lt_of_cell? v7 _ HKc.out.c0; dsimp only at h; omega
         have hng : g ≠ gf := by have h := World.block_lt_of_cell? v7 _ HKc.out.c3; dsimp only at h; omega
         have hnp : p ≠ gf := by have h := World.block_lt_of_cell? v7 _ HKc.out.c6; dsimp only at h; omega
         have hnq : q ≠ gf := by have h := World.block_lt_of_cell? v7 _ HKc.out.t8.c0; dsimp only at h; omega
         have hns : s ≠ gf := by have h := World.block_lt_of_cell? v7 _ HKc.out.t8.c3; dsimp only at h; omega
         have b0 : v8.cell? ⟨gf, 0, none⟩ = some (.slice none 0 0) := by rw [hv8, hgf]; go_simp
         have b1 : v8.cell? ⟨gf, 1, none⟩ = some (.slice none 0 0) := by rw [hv8, hgf]; go_simp
         have b2 : v8.cell? ⟨gf, 2, none⟩ = some (.slice none 0 0) := by rw [hv8, hgf]; go_simp
         have HKc := Lib.hid (HKc.out.later hb9); have R := Lib.hid (RdT.later R.out hb9); have RX := Lib.hid (RX.out.later hb9); have RY := Lib.hid (RY.out.later hb9); have HBV := Lib.hid (HBV.out.trans (hb9.mono HBV.out.size)); have RK9 := Lib.hid (RK9.out.later hb9); have RW := Lib.hid (RW.out.later hb9); have HZ : Hid (Kept [(⟨gf, 0, none⟩, .slice none 0 0), (⟨gf, 1, none⟩, .slice none 0 0), (⟨gf, 2, none⟩, .slice none 0 0)] v4 v8) := (((Kept.nil_of HBV.out).cons_of b2).cons_of b1).cons_of b0; have HF : Hid (Free gf v8) := ⟨by rw [hv8, hgf]; simp, fun j => by rw [hv8, hgf]; go_simp⟩; have hlt9 : gf < v8.heap.size := HF.out.1; (try rw [← hv8] at hHeld); rw [← hv8]; rw [← hgf]; clear hgf hv8 hb9 b0 b1 b2; refine Tc 5 (fun K hK => ?_); go_simp; (go_at_call 20; refine (joinAllE_sum 3 [⟨(t, u), ⟨Ae, ne, ce⟩, ⟨Ak, nk, ck⟩, ⟨B9, m9, d9⟩⟩, ⟨kx, ⟨Xe, xe1, xe2⟩, ⟨Xk, xk1, xk2⟩, ⟨Xc, xc1, xc2⟩⟩, ⟨ky, ⟨Ye, ye1, ye2⟩, ⟨Yk, yk1, yk2⟩, ⟨Yc, yc1, yc2⟩⟩] (some ⟨gr, 0, none⟩) 3 v8 (by omega) RW.out ⟨Nat.le_trans HSUM.out.1 (by omega), HSUM.out.2⟩).mono ?_)
         rintro e v9 ⟨kf, z9, hj, _, Fe, fe1, fe2, Fk, fk1, fk2, Fc, fc1, fc2, rfl, how, hb9⟩
         obtain ⟨rfl, hall, hnn, hnc⟩ := hj (fun p hp => by
          simp at hp
          rcases hp with rfl | rfl | rfl
          ·exact JT.out
          ·exact JX.out
          ·exact JY.out)
         have HP : Hid (AllJ [(t, u), kx, ky] kf ∧ nodes kf.1 ≤ 64 ∧ fc1 ≤ 1000) := ⟨hall, Nat.le_trans hnn HSUM.out.1, by rw [← how.len]; exact Nat.le_trans hnc HSUM.out.2⟩; have HN : Hid (NoC v9 (fun b => b ≠ gf) ⟨kf, ⟨Fe, fe1, fe2⟩, ⟨Fk, fk1, fk2⟩, ⟨Fc, fc1, fc2⟩⟩) := NoC.of_own how (fun b hb _ => by have h := HF.out.1; omega); clear hj hall hnn hnc how; have HKc := Lib.hid (HKc.out.later hb9); have R := Lib.hid (RdT.later R.out hb9); have RX := Lib.hid (RX.out.later hb9); have RY := Lib.hid (RY.out.later hb9); have HBV := Lib.hid (HBV.out.trans (hb9.mono HBV.out.size)); have RK9 := Lib.hid (RK9.out.later hb9); have RW := Lib.hid (RW.out.later hb9); have HZ := Lib.hid (HZ.out.later hb9); have HF := Lib.hid (HF.out.later hb9); clear hb9; have z0 := HZ.out.c0; have z1 := HZ.out.c1; have z2 := HZ.out.c2; have m0 := HF.out.2 0; have m1 := HF.out.2 1; have m2 := HF.out.2 2; clear hHeld; refine Th hK ?_ (fun hHeld => ?_)
         ·exact ⟨HKc.out.c0, HKc.out.c1, HKc.out.c2, HKc.out.c3, HKc.out.c4, HKc.out.c5, HKc.out.c6, HKc.out.c7, HKc.out.t8.c0, HKc.out.t8.c1, HKc.out.t8.c2, HKc.out.t8.c3, HKc.out.t8.c4, HKc.out.t8.c5, HKc.out.t8.c6, HKc.out.t8.c7, HKc.out.t8.t8.c0⟩
         clear hK K; refine Tk 6 78 ?_; refine Tk 7 85 ?_; refine Tk 8 86 ?_; refine Tc 10 (fun K hK => ?_); go_simp; refine Th hK ?_ (fun hHeld2 => ?_)
         ·(try dsimp only)
          have h9 := HKc.out
          have h9 := h9.set (a := ⟨gf, 0, none⟩) hwg (fun x hx => by simp at hx; rcases hx with rfl | rfl | rfl | rfl | rfl | rfl | rfl | rfl | rfl | rfl | rfl | rfl | rfl | rfl | rfl | rfl | rfl <;> (dsimp only; omega)) (.slice Fe fe1 fe2)
          have h9 := h9.set (a := ⟨gf, 1, none⟩) hwg (fun x hx => by simp at hx; rcases hx with rfl | rfl | rfl | rfl | rfl | rfl | rfl | rfl | rfl | rfl | rfl | rfl | rfl | rfl | rfl | rfl | rfl <;> (dsimp only; omega)) (.slice Fk fk1 fk2)
          have h9 := h9.set (a := ⟨gf, 2, none⟩) hwg (fun x hx => by simp at hx; rcases hx with rfl | rfl | rfl | rfl | rfl | rfl | rfl | rfl | rfl | rfl | rfl | rfl | rfl | rfl | rfl | rfl | rfl <;> (dsimp only; omega)) (.slice Fc fc1 fc2)
          exact ⟨h9.c0, h9.c1, h9.c2, h9.c3, h9.c4, h9.c5, h9.c6, h9.c7, h9.t8.c0, h9.t8.c1, h9.t8.c2, h9.t8.c3, h9.t8.c4, h9.t8.c5, h9.t8.c6, h9.t8.c7, h9.t8.t8.c0⟩
         clear hK K hHeld; have hHeld := hHeld2; clear hHeld2; refine Tk 11 13 ?_; refine wpAnyH_done (by kernel_rfl) ?_ _; clear hHeld
         have HMID : Hid (MidJ v4 gf ⟨kf, ⟨Fe, fe1, fe2⟩, ⟨Fk, fk1, fk2⟩, ⟨Fc, fc1, fc2⟩⟩ (((v9.setCell ⟨gf, 0, none⟩ (.slice Fe fe1 fe2)).setCell ⟨gf, 1, none⟩ (.slice Fk fk1 fk2)).setCell ⟨gf, 2, none⟩ (.slice Fc fc1 fc2))) := by
          obtain ⟨W9, hW9⟩ : ∃ W, W = (((v9.setCell ⟨gf, 0, none⟩ (.slice Fe fe1 fe2)).setCell ⟨gf, 1, none⟩ (.slice Fk fk1 fk2)).setCell ⟨gf, 2, none⟩ (.slice Fc fc1 fc2)) := ⟨_, rfl⟩; rw [← hW9]
          have hb : Below v4.heap.size v4 W9 := by
           rw [hW9]; exact (((HBV.out.setCell (p := ⟨gf, 0, none⟩) hvg _).setCell (p := ⟨gf, 1, none⟩) hvg _).setCell (p := ⟨gf, 2, none⟩) hvg _)
          refine ⟨(HN.out.keep (by rw [hW9, cells3]; exact Nat.le_refl _) (fun b hb _ => by rw [hW9]; exact cells3_at b hb)).rd, ?_⟩
          refine (((Kept.nil_of hb).cons_of ?_).cons_of ?_).cons_of ?_ <;> (rw [hW9]; go_simp)
         clear z0 z1 z2 m0 m1 m2; go_wp2_with fail; go_meet; exact ⟨gf, ⟨kf, ⟨Fe, fe1, fe2⟩, ⟨Fk, fk1, fk2⟩, ⟨Fc, fc1, fc2⟩⟩, rfl, rfl, HMID.out, HP.out⟩
       ·go_simp
        clear hHeld; refine Th hK ?_ (fun hHeld => ?_)
        ·exact ⟨(HKc.out.alloc _).c0, (HKc.out.alloc _).c1, (HKc.out.alloc _).c2, (HKc.out.alloc _).c3, (HKc.out.alloc _).c4, (HKc.out.alloc _).c5, (HKc.out.alloc _).c6, (HKc.out.alloc _).c7, (HKc.out.alloc _).t8.c0, (HKc.out.alloc _).t8.c1, (HKc.out.alloc _).t8.c2, (HKc.out.alloc _).t8.c3, (HKc.out.alloc _).t8.c4, (HKc.out.alloc _).t8.c5, (HKc.out.alloc _).t8.c6, (HKc.out.alloc _).t8.c7, (HKc.out.alloc _).t8.t8.c0⟩
        clear hK K; obtain ⟨gf, hgf⟩ : ∃ g, g = v6.heap.size := ⟨_, rfl⟩; obtain ⟨v7, hv7⟩ : ∃ W, W = v6.alloc (.cells #[.slice none 0 0, .slice none 0 0, .slice none 0 0] 33) := ⟨_, rfl⟩
        have hb9 : Below v6.heap.size v6 v7 := by rw [hv7]; exact Dt.box_below _ _ _
        have hvg : v4.heap.size ≤ gf := by rw [hgf]; exact HBV.out.size
        have hwg : w.heap.size ≤ gf := by rw [hgf]; exact HKc.out.below.size
        have hnh : h ≠ gf := by have h := World.block_lt_of_cell? v6 _ HKc.out.c0; dsimp only at h; omega
        have hng : g ≠ gf := by have h := World.block_lt_of_cell? v6 _ HKc.out.c3; dsimp only at h; omega
        have hnp : p ≠ gf := by have h := World.block_lt_of_cell? v6 _ HKc.out.c6; dsimp only at h; omega
        have hnq : q ≠ gf := by have h := World.block_lt_of_cell? v6 _ HKc.out.t8.c0; dsimp only at h; omega
        have hns : s ≠ gf := by have h := World.block_lt_of_cell? v6 _ HKc.out.t8.c3; dsimp only at h; omega
        have b0 : v7.cell? ⟨gf, 0, none⟩ = some (.slice none 0 0) := by rw [hv7, hgf]; go_simp
        have b1 : v7.cell? ⟨gf, 1, none⟩ = some (.slice none 0 0) := by rw [hv7, hgf]; go_simp
        have b2 : v7.cell? ⟨gf, 2, none⟩ = some (.slice none 0 0) := by rw [hv7, hgf]; go_simp
        have HKc := Lib.hid (HKc.out.later hb9); have R := Lib.hid (RdT.later R.out hb9); have RX := Lib.hid (RX.out.later hb9); have RY := Lib.hid (RY.out.later hb9); have HBV := Lib.hid (HBV.out.trans (hb9.mono HBV.out.size)); have RK9 := Lib.hid (RK9.out.later hb9); have HZ : Hid (Kept [(⟨gf, 0, none⟩, .slice none 0 0), (⟨gf, 1, none⟩, .slice none 0 0), (⟨gf, 2, none⟩, .slice none 0 0)] v4 v7) := (((Kept.nil_of HBV.out).cons_of b2).cons_of b1).cons_of b0; have HF : Hid (Free gf v7) := ⟨by rw [hv7, hgf]; simp, fun j => by rw [hv7, hgf]; go_simp⟩; have hlt9 : gf < v7.heap.size := HF.out.1; (try rw [← hv7] at hHeld); rw [← hv7]; rw [← hgf]; clear hgf hv7 hb9 b0 b1 b2; refine Tc 4 (fun K hK => ?_); go_simp; clear hHeld; refine Th hK ?_ (fun hHeld => ?_)
        ·exact ⟨(HKc.out.alloc _).c0, (HKc.out.alloc _).c1, (HKc.out.alloc _).c2, (HKc.out.alloc _).c3, (HKc.out.alloc _).c4, (HKc.out.alloc _).c5, (HKc.out.alloc _).c6, (HKc.out.alloc _).c7, (HKc.out.alloc _).t8.c0, (HKc.out.alloc _).t8.c1, (HKc.out.alloc _).t8.c2, (HKc.out.alloc _).t8.c3, (HKc.out.alloc _).t8.c4, (HKc.out.alloc _).t8.c5, (HKc.out.alloc _).t8.c6, (HKc.out.alloc _).t8.c7, (HKc.out.alloc _).t8.t8.c0⟩
        clear hK K; obtain ⟨gr, hgr⟩ : ∃ g, g = v7.heap.size := ⟨_, rfl⟩; obtain ⟨v8, hv8⟩ : ∃ W, W = v7.alloc (.cells #[.slice Ae ne ce, .slice Ak nk ck, .slice B9 m9 d9, .slice Xe xe1 xe2, .slice Xk xk1 xk2, .slice Xc xc1 xc2, .slice Ye ye1 ye2, .slice Yk yk1 yk2, .slice Yc yc1 yc2] 33) := ⟨_, rfl⟩
        have hb9 : Below v7.heap.size v7 v8 := by rw [hv8]; exact Dt.box_below _ _ _
        have hrow := rd_rowP v7 [⟨(t, u), ⟨Ae, ne, ce⟩, ⟨Ak, nk, ck⟩, ⟨B9, m9, d9⟩⟩, ⟨kx, ⟨Xe, xe1, xe2⟩, ⟨Xk, xk1, xk2⟩, ⟨Xc, xc1, xc2⟩⟩, ⟨ky, ⟨Ye, ye1, ye2⟩, ⟨Yk, yk1, yk2⟩, ⟨Yc, yc1, yc2⟩⟩] #[.slice Ae ne ce, .slice Ak nk ck, .slice B9 m9 d9, .slice Xe xe1 xe2, .slice Xk xk1 xk2, .slice Xc xc1 xc2, .slice Ye ye1 ye2, .slice Yk yk1 yk2, .slice Yc yc1 yc2] 3 rfl rfl; rw [← hv8, ← hgr] at hrow; have HKc := Lib.hid (HKc.out.later hb9); have R := Lib.hid (RdT.later R.out hb9); have RX := Lib.hid (RX.out.later hb9); have RY := Lib.hid (RY.out.later hb9); have HBV := Lib.hid (HBV.out.trans (hb9.mono HBV.out.size)); have RK9 := Lib.hid (RK9.out.later hb9); have HZ := Lib.hid (HZ.out.later hb9); have HF := Lib.hid (HF.out.later hb9)
        have RW : Hid (RowP v8 (some ⟨gr, 0, none⟩) 3 3 [⟨(t, u), ⟨Ae, ne, ce⟩, ⟨Ak, nk, ck⟩, ⟨B9, m9, d9⟩⟩, ⟨kx, ⟨Xe, xe1, xe2⟩, ⟨Xk, xk1, xk2⟩, ⟨Xc, xc1, xc2⟩⟩, ⟨ky, ⟨Ye, ye1, ye2⟩, ⟨Yk, yk1, yk2⟩, ⟨Yc, yc1, yc2⟩⟩]) := ⟨hrow.more (by rw [hv8, hgr]; simp), rfl, fun p hp => by
         simp at hp
         rcases hp with rfl | rfl | rfl
         ·exact RK9.out
         ·exact RX.out
         ·exact RY.out⟩
        (try rw [← hv8] at hHeld); rw [← hv8]; rw [← hgr]; clear hgr hv8 hb9 hrow; refine Tc 5 (fun K hK => ?_); go_simp; (go_at_call 20; refine (joinAllE_sum 3 [⟨(t, u), ⟨Ae, ne, ce⟩, ⟨Ak, nk, ck⟩, ⟨B9, m9, d9⟩⟩, ⟨kx, ⟨Xe, xe1, xe2⟩, ⟨Xk, xk1, xk2⟩, ⟨Xc, xc1, xc2⟩⟩, ⟨ky, ⟨Ye, ye1, ye2⟩, ⟨Yk, yk1, yk2⟩, ⟨Yc, yc1, yc2⟩⟩] (some ⟨gr, 0, none⟩) 3 v8 (by omega) RW.out ⟨Nat.le_trans HSUM.out.1 (by omega), HSUM.out.2⟩).mono ?_); rintro e v9 ⟨kf, z9, hj, _, Fe, fe1, fe2, Fk, fk1, fk2, Fc, fc1, fc2, rfl, how, hb9⟩
        obtain ⟨rfl, hall, hnn, hnc⟩ := hj (fun p hp => by
         simp at hp
         rcases hp with rfl | rfl | rfl
         ·exact JT.out
         ·exact JX.out
         ·exact JY.out)
        have HP : Hid (AllJ [(t, u), kx, ky] kf ∧ nodes kf.1 ≤ 64 ∧ fc1 ≤ 1000) := ⟨hall, Nat.le_trans hnn HSUM.out.1, by rw [← how.len]; exact Nat.le_trans hnc HSUM.out.2⟩; have HN : Hid (NoC v9 (fun b => b ≠ gf) ⟨kf, ⟨Fe, fe1, fe2⟩, ⟨Fk, fk1, fk2⟩, ⟨Fc, fc1, fc2⟩⟩) := NoC.of_own how (fun b hb _ => by have h := HF.out.1; omega); clear hj hall hnn hnc how; have HKc := Lib.hid (HKc.out.later hb9); have R := Lib.hid (RdT.later R.out hb9); have RX := Lib.hid (RX.out.later hb9); have RY := Lib.hid (RY.out.later hb9); have HBV := Lib.hid (HBV.out.trans (hb9.mono HBV.out.size)); have RK9 := Lib.hid (RK9.out.later hb9); have HZ := Lib.hid (HZ.out.later hb9); have HF := Lib.hid (HF.out.later hb9); have RW := Lib.hid (RW.out.later hb9); clear hb9; have z0 := HZ.out.c0; have z1 := HZ.out.c1; have z2 := HZ.out.c2; have m0 := HF.out.2 0; have m1 := HF.out.2 1; have m2 := HF.out.2 2; clear hHeld; refine Th hK ?_ (fun hHeld => ?_)
        ·exact ⟨HKc.out.c0, HKc.out.c1, HKc.out.c2, HKc.out.c3, HKc.out.c4, HKc.out.c5, HKc.out.c6, HKc.out.c7, HKc.out.t8.c0, HKc.out.t8.c1, HKc.out.t8.c2, HKc.out.t8.c3, HKc.out.t8.c4, HKc.out.t8.c5, HKc.out.t8.c6, HKc.out.t8.c7, HKc.out.t8.t8.c0⟩
        clear hK K; refine Tk 6 78 ?_; refine Tk 7 85 ?_; refine Tk 8 86 ?_; refine Tc 10 (fun K hK => ?_); go_simp; refine Th hK ?_ (fun hHeld2 => ?_)
        ·(try dsimp only)
         have h9 := HKc.out
         have h9 := h9.set (a := ⟨gf, 0, none⟩) hwg (fun x hx => by simp at hx; rcases hx with rfl | rfl | rfl | rfl | rfl | rfl | rfl | rfl | rfl | rfl | rfl | rfl | rfl | rfl | rfl | rfl | rfl <;> (dsimp only; omega)) (.slice Fe fe1 fe2)
         have h9 := h9.set (a := ⟨gf, 1, none⟩) hwg (fun x hx => by simp at hx; rcases hx with rfl | rfl | rfl | rfl | rfl | rfl | rfl | rfl | rfl | rfl | rfl | rfl | rfl | rfl | rfl | rfl | rfl <;> (dsimp only; omega)) (.slice Fk fk1 fk2)
         have h9 := h9.set (a := ⟨gf, 2, none⟩) hwg (fun x hx => by simp at hx; rcases hx with rfl | rfl | rfl | rfl | rfl | rfl | rfl | rfl | rfl | rfl | rfl | rfl | rfl | rfl | rfl | rfl | rfl <;> (dsimp only; omega)) (.slice Fc fc1 fc2)
         exact ⟨h9.c0, h9.c1, h9.c2, h9.c3, h9.c4, h9.c5, h9.c6, h9.c7, h9.t8.c0, h9.t8.c1, h9.t8.c2, h9.t8.c3, h9.t8.c4, h9.t8.c5, h9.t8.c6, h9.t8.c7, h9.t8.t8.c0⟩
        clear hK K hHeld; have hHeld := hHeld2; clear hHeld2; refine Tk 11 13 ?_; refine wpAnyH_done (by kernel_rfl) ?_ _; clear hHeld
        have HMID : Hid (MidJ v4 gf ⟨kf, ⟨Fe, fe1, fe2⟩, ⟨Fk, fk1, fk2⟩, ⟨Fc, fc1, fc2⟩⟩ (((v9.setCell ⟨gf, 0, none⟩ (.slice Fe fe1 fe2)).setCell ⟨gf, 1, none⟩ (.slice Fk fk1 fk2)).setCell ⟨gf, 2, none⟩ (.slice Fc fc1 fc2))) := by
         obtain ⟨W9, hW9⟩ : ∃ W, W = (((v9.setCell ⟨gf, 0, none⟩ (.slice Fe fe1 fe2)).setCell ⟨gf, 1, none⟩ (.slice Fk fk1 fk2)).setCell ⟨gf, 2, none⟩ (.slice Fc fc1 fc2)) := ⟨_, rfl⟩; rw [← hW9]
         have hb : Below v4.heap.size v4 W9 := by
          rw [hW9]; exact (((HBV.out.setCell (p := ⟨gf, 0, none⟩) hvg _).setCell (p := ⟨gf, 1, none⟩) hvg _).setCell (p := ⟨gf, 2, none⟩) hvg _)
         refine ⟨(HN.out.keep (by rw [hW9, cells3]; exact Nat.le_refl _) (fun b hb _ => by rw [hW9]; exact cells3_at b hb)).rd, ?_⟩
         refine (((Kept.nil_of hb).cons_of ?_).cons_of ?_).cons_of ?_ <;> (rw [hW9]; go_simp)
        clear z0 z1 z2 m0 m1 m2; go_wp2_with fail; go_meet; exact ⟨gf, ⟨kf, ⟨Fe, fe1, fe2⟩, ⟨Fk, fk1, fk2⟩, ⟨Fc, fc1, fc2⟩⟩, rfl, rfl, HMID.out, HP.out⟩
      ·go_simp
       clear hHeld; refine Th hK ?_ (fun hHeld => ?_)
       ·exact ⟨(HKc.out.alloc _).c0, (HKc.out.alloc _).c1, (HKc.out.alloc _).c2, (HKc.out.alloc _).c3, (HKc.out.alloc _).c4, (HKc.out.alloc _).c5, (HKc.out.alloc _).c6, (HKc.out.alloc _).c7, (HKc.out.alloc _).t8.c0, (HKc.out.alloc _).t8.c1, (HKc.out.alloc _).t8.c2, (HKc.out.alloc _).t8.c3, (HKc.out.alloc _).t8.c4, (HKc.out.alloc _).t8.c5, (HKc.out.alloc _).t8.c6, (HKc.out.alloc _).t8.c7, (HKc.out.alloc _).t8.t8.c0⟩
       clear hK K; obtain ⟨gf, hgf⟩ : ∃ g, g = v5.heap.size := ⟨_, rfl⟩; obtain ⟨v6, hv6⟩ : ∃ W, W = v5.alloc (.cells #[.slice none 0 0, .slice none 0 0, .slice none 0 0] 33) := ⟨_, rfl⟩
       have hb9 : Below v5.heap.size v5 v6 := by rw [hv6]; exact Dt.box_below _ _ _
       have hvg : v4.heap.size ≤ gf := by rw [hgf]; exact HBV.out.size
       have hwg : w.heap.size ≤ gf := by rw [hgf]; exact HKc.out.below.size
       have hnh : h ≠ gf := by have h := World.block_lt_of_cell? v5 _ HKc.out.c0; dsimp only at h; omega
       have hng : g ≠ gf := by have h := World.block_lt_of_cell? v5 _ HKc.out.c3; dsimp only at h; omega
       have hnp : p ≠ gf := by have h := World.block_lt_of_cell? v5 _ HKc.out.c6; dsimp only at h; omega
       have hnq : q ≠ gf := by have h := World.block_lt_of_cell? v5 _ HKc.out.t8.c0; dsimp only at h; omega
       have hns : s ≠ gf := by have h := World.block_lt_of_cell? v5 _ HKc.out.t8.c3; dsimp only at h; omega
       have b0 : v6.cell? ⟨gf, 0, none⟩ = some (.slice none 0 0) := by rw [hv6, hgf]; go_simp
       have b1 : v6.cell? ⟨gf, 1, none⟩ = some (.slice none 0 0) := by rw [hv6, hgf]; go_simp
       have b2 : v6.cell? ⟨gf, 2, none⟩ = some (.slice none 0 0) := by rw [hv6, hgf]; go_simp
       have HKc := Lib.hid (HKc.out.later hb9); have R := Lib.hid (RdT.later R.out hb9); have RX := Lib.hid (RX.out.later hb9); have RY := Lib.hid (RY.out.later hb9); have HBV := Lib.hid (HBV.out.trans (hb9.mono HBV.out.size)); have HZ : Hid (Kept [(⟨gf, 0, none⟩, .slice none 0 0), (⟨gf, 1, none⟩, .slice none 0 0), (⟨gf, 2, none⟩, .slice none 0 0)] v4 v6) := (((Kept.nil_of HBV.out).cons_of b2).cons_of b1).cons_of b0; have HF : Hid (Free gf v6) := ⟨by rw [hv6, hgf]; simp, fun j => by rw [hv6, hgf]; go_simp⟩; have hlt9 : gf < v6.heap.size := HF.out.1; (try rw [← hv6] at hHeld); rw [← hv6]; rw [← hgf]; clear hgf hv6 hb9 b0 b1 b2; refine Tc 1 (fun K hK => ?_); go_simp; (go_at_call 19; refine (refknown_any t Ae Ak ne nk ce ck u m9 v6 HT.out (by have := N.out; omega) R.out HU.out.1 HU.out.2.1 (by have := HU.out.2.2; omega)).mono ?_); rintro e v7 ⟨B9, d9, rfl, hro, hb9⟩
       have RK9 : Hid (RdP v7 ⟨(t, u), ⟨Ae, ne, ce⟩, ⟨Ak, nk, ck⟩, ⟨B9, m9, d9⟩⟩) := ⟨RdT.later R.out hb9, HU.out.2.1, hro.rd⟩; clear hro; have HKc := Lib.hid (HKc.out.later hb9); have R := Lib.hid (RdT.later R.out hb9); have RX := Lib.hid (RX.out.later hb9); have RY := Lib.hid (RY.out.later hb9); have HBV := Lib.hid (HBV.out.trans (hb9.mono HBV.out.size)); have HZ := Lib.hid (HZ.out.later hb9); have HF := Lib.hid (HF.out.later hb9); clear hb9; have HSUM := HSUM B9 d9; clear hHeld; refine Th hK ?_ (fun hHeld => ?_)
       ·exact ⟨HKc.out.c0, HKc.out.c1, HKc.out.c2, HKc.out.c3, HKc.out.c4, HKc.out.c5, HKc.out.c6, HKc.out.c7, HKc.out.t8.c0, HKc.out.t8.c1, HKc.out.t8.c2, HKc.out.t8.c3, HKc.out.t8.c4, HKc.out.t8.c5, HKc.out.t8.c6, HKc.out.t8.c7, HKc.out.t8.t8.c0⟩
       clear hK K; refine Tc 4 (fun K hK => ?_); go_simp; clear hHeld; refine Th hK ?_ (fun hHeld => ?_)
       ·exact ⟨(HKc.out.alloc _).c0, (HKc.out.alloc _).c1, (HKc.out.alloc _).c2, (HKc.out.alloc _).c3, (HKc.out.alloc _).c4, (HKc.out.alloc _).c5, (HKc.out.alloc _).c6, (HKc.out.alloc _).c7, (HKc.out.alloc _).t8.c0, (HKc.out.alloc _).t8.c1, (HKc.out.alloc _).t8.c2, (HKc.out.alloc _).t8.c3, (HKc.out.alloc _).t8.c4, (HKc.out.alloc _).t8.c5, (HKc.out.alloc _).t8.c6, (HKc.out.alloc _).t8.c7, (HKc.out.alloc _).t8.t8.c0⟩
       clear hK K; obtain ⟨gr, hgr⟩ : ∃ g, g = v7.heap.size := ⟨_, rfl⟩; obtain ⟨v8, hv8⟩ : ∃ W, W = v7.alloc (.cells #[.slice Ae ne ce, .slice Ak nk ck, .slice B9 m9 d9, .slice Xe xe1 xe2, .slice Xk xk1 xk2, .slice Xc xc1 xc2, .slice Ye ye1 ye2, .slice Yk yk1 yk2, .slice Yc yc1 yc2] 33) := ⟨_, rfl⟩
       have hb9 : Below v7.heap.size v7 v8 := by rw [hv8]; exact Dt.box_below _ _ _
       have hrow := rd_rowP v7 [⟨(t, u), ⟨Ae, ne, ce⟩, ⟨Ak, nk, ck⟩, ⟨B9, m9, d9⟩⟩, ⟨kx, ⟨Xe, xe1, xe2⟩, ⟨Xk, xk1, xk2⟩, ⟨Xc, xc1, xc2⟩⟩, ⟨ky, ⟨Ye, ye1, ye2⟩, ⟨Yk, yk1, yk2⟩, ⟨Yc, yc1, yc2⟩⟩] #[.slice Ae ne ce, .slice Ak nk ck, .slice B9 m9 d9, .slice Xe xe1 xe2, .slice Xk xk1 xk2, .slice Xc xc1 xc2, .slice Ye ye1 ye2, .slice Yk yk1 yk2, .slice Yc yc1 yc2] 3 rfl rfl; rw [← hv8, ← hgr] at hrow; have HKc := Lib.hid (HKc.out.later hb9); have R := Lib.hid (RdT.later R.out hb9); have RX := Lib.hid (RX.out.later hb9); have RY := Lib.hid (RY.out.later hb9); have HBV := Lib.hid (HBV.out.trans (hb9.mono HBV.out.size)); have HZ := Lib.hid (HZ.out.later hb9); have HF := Lib.hid (HF.out.later hb9); have RK9 := Lib.hid (RK9.out.later hb9)
       have RW : Hid (RowP v8 (some ⟨gr, 0, none⟩) 3 3 [⟨(t, u), ⟨Ae, ne, ce⟩, ⟨Ak, nk, ck⟩, ⟨B9, m9, d9⟩⟩, ⟨kx, ⟨Xe, xe1, xe2⟩, ⟨Xk, xk1, xk2⟩, ⟨Xc, xc1, xc2⟩⟩, ⟨ky, ⟨Ye, ye1, ye2⟩, ⟨Yk, yk1, yk2⟩, ⟨Yc, yc1, yc2⟩⟩]) := ⟨hrow.more (by rw [hv8, hgr]; simp), rfl, fun p hp => by
        simp at hp
        rcases hp with rfl | rfl | rfl
        ·exact RK9.out
        ·exact RX.out
        ·exact RY.out⟩
       (try rw [← hv8] at hHeld); rw [← hv8]; rw [← hgr]; clear hgr hv8 hb9 hrow; refine Tc 5 (fun K hK => ?_); go_simp; (go_at_call 20; refine (joinAllE_sum 3 [⟨(t, u), ⟨Ae, ne, ce⟩, ⟨Ak, nk, ck⟩, ⟨B9, m9, d9⟩⟩, ⟨kx, ⟨Xe, xe1, xe2⟩, ⟨Xk, xk1, xk2⟩, ⟨Xc, xc1, xc2⟩⟩, ⟨ky, ⟨Ye, ye1, ye2⟩, ⟨Yk, yk1, yk2⟩, ⟨Yc, yc1, yc2⟩⟩] (some ⟨gr, 0, none⟩) 3 v8 (by omega) RW.out ⟨Nat.le_trans HSUM.out.1 (by omega), HSUM.out.2⟩).mono ?_); rintro e v9 ⟨kf, z9, hj, _, Fe, fe1, fe2, Fk, fk1, fk2, Fc, fc1, fc2, rfl, how, hb9⟩
       obtain ⟨rfl, hall, hnn, hnc⟩ := hj (fun p hp => by
        simp at hp
        rcases hp with rfl | rfl | rfl
        ·exact JT.out
        ·exact JX.out
        ·exact JY.out)
       have HP : Hid (AllJ [(t, u), kx, ky] kf ∧ nodes kf.1 ≤ 64 ∧ fc1 ≤ 1000) := ⟨hall, Nat.le_trans hnn HSUM.out.1, by rw [← how.len]; exact Nat.le_trans hnc HSUM.out.2⟩; have HN : Hid (NoC v9 (fun b => b ≠ gf) ⟨kf, ⟨Fe, fe1, fe2⟩, ⟨Fk, fk1, fk2⟩, ⟨Fc, fc1, fc2⟩⟩) := NoC.of_own how (fun b hb _ => by have h := HF.out.1; omega); clear hj hall hnn hnc how; have HKc := Lib.hid (HKc.out.later hb9); have R := Lib.hid (RdT.later R.out hb9); have RX := Lib.hid (RX.out.later hb9); have RY := Lib.hid (RY.out.later hb9); have HBV := Lib.hid (HBV.out.trans (hb9.mono HBV.out.size)); have HZ := Lib.hid (HZ.out.later hb9); have HF := Lib.hid (HF.out.later hb9); have RK9 := Lib.hid (RK9.out.later hb9); have RW := Lib.hid (RW.out.later hb9); clear hb9; have z0 := HZ.out.c0; have z1 := HZ.out.c1; have z2 := HZ.out.c2; have m0 := HF.out.2 0; have m1 := HF.out.2 1; have m2 := HF.out.2 2; clear hHeld; refine Th hK ?_ (fun hHeld => ?_)
       ·exact ⟨HKc.out.c0, HKc.out.c1, HKc.out.c2, HKc.out.c3, HKc.out.c4, HKc.out.c5, HKc.out.c6, HKc.out.c7, HKc.out.t8.c0, HKc.out.t8.c1, HKc.out.t8.c2, HKc.out.t8.c3, HKc.out.t8.c4, HKc.out.t8.c5, HKc.out.t8.c6, HKc.out.t8.c7, HKc.out.t8.t8.c0⟩
       clear hK K; refine Tk 6 78 ?_; refine Tk 7 85 ?_; refine Tk 8 86 ?_; refine Tc 10 (fun K hK => ?_); go_simp; refine Th hK ?_ (fun hHeld2 => ?_)
       ·(try dsimp only)
        have h9 := HKc.out
        have h9 := h9.set (a := ⟨gf, 0, none⟩) hwg (fun x hx => by simp at hx; rcases hx with rfl | rfl | rfl | rfl | rfl | rfl | rfl | rfl | rfl | rfl | rfl | rfl | rfl | rfl | rfl | rfl | rfl <;> (dsimp only; omega)) (.slice Fe fe1 fe2)
        have h9 := h9.set (a := ⟨gf, 1, none⟩) hwg (fun x hx => by simp at hx; rcases hx with rfl | rfl | rfl | rfl | rfl | rfl | rfl | rfl | rfl | rfl | rfl | rfl | rfl | rfl | rfl | rfl | rfl <;> (dsimp only; omega)) (.slice Fk fk1 fk2)
        have h9 := h9.set (a := ⟨gf, 2, none⟩) hwg (fun x hx => by simp at hx; rcases hx with rfl | rfl | rfl | rfl | rfl | rfl | rfl | rfl | rfl | rfl | rfl | rfl | rfl | rfl | rfl | rfl | rfl <;> (dsimp only; omega)) (.slice Fc fc1 fc2)
        exact ⟨h9.c0, h9.c1, h9.c2, h9.c3, h9.c4, h9.c5, h9.c6, h9.c7, h9.t8.c0, h9.t8.c1, h9.t8.c2, h9.t8.c3, h9.t8.c4, h9.t8.c5, h9.t8.c6, h9.t8.c7, h9.t8.t8.c0⟩
       clear hK K hHeld; have hHeld := hHeld2; clear hHeld2; refine Tk 11 13 ?_; refine wpAnyH_done (by kernel_rfl) ?_ _; clear hHeld
       have HMID : Hid (MidJ v4 gf ⟨kf, ⟨Fe, fe1, fe2⟩, ⟨Fk, fk1, fk2⟩, ⟨Fc, fc1, fc2⟩⟩ (((v9.setCell ⟨gf, 0, none⟩ (.slice Fe fe1 fe2)).setCell ⟨gf, 1, none⟩ (.slice Fk fk1 fk2)).setCell ⟨gf, 2, none⟩ (.slice Fc fc1 fc2))) := by
        obtain ⟨W9, hW9⟩ : ∃ W, W = (((v9.setCell ⟨gf, 0, none⟩ (.slice Fe fe1 fe2)).setCell ⟨gf, 1, none⟩ (.slice Fk fk1 fk2)).setCell ⟨gf, 2, none⟩ (.slice Fc fc1 fc2)) := ⟨_, rfl⟩; rw [← hW9]
        have hb : Below v4.heap.size v4 W9 := by
         rw [hW9]; exact (((HBV.out.setCell (p := ⟨gf, 0, none⟩) hvg _).setCell (p := ⟨gf, 1, none⟩) hvg _).setCell (p := ⟨gf, 2, none⟩) hvg _)
        refine ⟨(HN.out.keep (by rw [hW9, cells3]; exact Nat.le_refl _) (fun b hb _ => by rw [hW9]; exact cells3_at b hb)).rd, ?_⟩
        refine (((Kept.nil_of hb).cons_of ?_).cons_of ?_).cons_of ?_ <;> (rw [hW9]; go_simp)
       clear z0 z1 z2 m0 m1 m2; go_wp2_with fail; go_meet; exact ⟨gf, ⟨kf, ⟨Fe, fe1, fe2⟩, ⟨Fk, fk1, fk2⟩, ⟨Fc, fc1, fc2⟩⟩, rfl, rfl, HMID.out, HP.out⟩
     case rest =>
      obtain ⟨wcgf, hwcgf⟩ : ∃ W, W = wc := ⟨_, rfl⟩; subst hwcgf; obtain ⟨gf, ⟨kf, ⟨Fe, fe1, fe2⟩, ⟨Fk, fk1, fk2⟩, ⟨Fc, fc1, fc2⟩⟩, rfl, rfl, hmid, hprop⟩ := hcut; obtain ⟨hrp, hkp⟩ := hmid.out; have hb9 := hkp.below; have HKc := Lib.hid (HKc.out.later hb9); have R := Lib.hid (RdT.later R.out hb9); have RX := Lib.hid (RX.out.later hb9); have RY := Lib.hid (RY.out.later hb9); clear hb9; have RF := Lib.hid hrp; have PF : Hid (AllJ [(t, u), kx, ky] kf ∧ nodes kf.1 ≤ 64 ∧ fc1 ≤ 1000) := hprop.out; have HKc : Hid (Kept [(⟨gf, 0, none⟩, .slice Fe fe1 fe2), (⟨gf, 1, none⟩, .slice Fk fk1 fk2), (⟨gf, 2, none⟩, .slice Fc fc1 fc2), (⟨h, 0, none⟩, .slice Ye ye1 ye2), (⟨h, 1, none⟩, .slice Yk yk1 yk2), (⟨h, 2, none⟩, .slice Yc yc1 yc2), (⟨g, 0, none⟩, .slice Xe xe1 xe2), (⟨g, 1, none⟩, .slice Xk xk1 xk2), (⟨g, 2, none⟩, .slice Xc xc1 xc2), (⟨p, 0, none⟩, .slice Ae ne ce), (⟨p, 1, none⟩, .slice Ak nk ck), (⟨q, 0, none⟩, .string t0), (⟨q, 1, none⟩, .string t1), (⟨q, 2, none⟩, .string t2), (⟨s, 0, none⟩, .int .i64 a), (⟨s, 1, none⟩, .int .i64 n), (⟨s, 2, none⟩, .int .i64 b), (⟨s, 3, none⟩, .int .i64 m), (⟨s, 4, none⟩, .int .i64 c), (⟨s, 5, none⟩, .int .i64 j)] w wcgf) := (((HKc.out.cons_of hkp.c2).cons_of hkp.c1).cons_of hkp.c0)
      clear hmid hprop hrp hkp; clear HSUM
      have HSUM : ∀ (B9 : Option Addr) (d9 : Nat), Hid (sumN [⟨ky, ⟨Ye, ye1, ye2⟩, ⟨Yk, yk1, yk2⟩, ⟨Yc, yc1, yc2⟩⟩, ⟨kx, ⟨Xe, xe1, xe2⟩, ⟨Xk, xk1, xk2⟩, ⟨Xc, xc1, xc2⟩⟩, ⟨(t, u), ⟨Ae, ne, ce⟩, ⟨Ak, nk, ck⟩, ⟨B9, m9, d9⟩⟩] ≤ 64 ∧ sumC [⟨ky, ⟨Ye, ye1, ye2⟩, ⟨Yk, yk1, yk2⟩, ⟨Yc, yc1, yc2⟩⟩, ⟨kx, ⟨Xe, xe1, xe2⟩, ⟨Xk, xk1, xk2⟩, ⟨Xc, xc1, xc2⟩⟩, ⟨(t, u), ⟨Ae, ne, ce⟩, ⟨Ak, nk, ck⟩, ⟨B9, m9, d9⟩⟩] ≤ 1000) := fun B9 d9 => by
       have h1 := N.out; have h2 := HU.out.2.2; have hbx := BX.out; have hnx : nodes kx.1 ≤ 2 := (by rw [KX.out, nodes_one]; omega); have hby := BY.out; have hny : nodes ky.1 ≤ 2 := (by rw [KY.out, nodes_one]; omega); unfold Hid; simp only [sumN, sumC, List.map_cons, List.map_nil, List.sum_cons, List.sum_nil]; omega
      have c0 := HKc.out.c0; have c1 := HKc.out.c1; have c2 := HKc.out.c2; have c3 := HKc.out.c3; have c4 := HKc.out.c4; have c5 := HKc.out.c5; have c6 := HKc.out.c6; have c7 := HKc.out.c7; have c8 := HKc.out.t8.c0; have c9 := HKc.out.t8.c1; have c10 := HKc.out.t8.c2; have c11 := HKc.out.t8.c3; have c12 := HKc.out.t8.c4; have c13 := HKc.out.t8.c5; have c14 := HKc.out.t8.c6; have c15 := HKc.out.t8.c7; have c16 := HKc.out.t8.t8.c0; have c17 := HKc.out.t8.t8.c1; have c18 := HKc.out.t8.t8.c2; have c19 := HKc.out.t8.t8.c3; go_wp2_with fail; clear c0 c1 c2 c3 c4 c5 c6 c7 c8 c9 c10 c11 c12 c13 c14 c15 c16 c17 c18 c19
      go_cut [14, 15] (fun s9 e9 wx => ∃ (g9 : Nat) (p9 : CP), s9 = .pointer (some ⟨g9, 0, none⟩) ∧ e9 = .int .i64 0 ∧ Hid (MidJ wcgf g9 p9 wx) ∧ Hid (AllJ [ky, kx, (t, u)] p9.k ∧ nodes p9.k.1 ≤ 64 ∧ p9.c.n ≤ 1000))
      case first =>
       refine wp_region_held_drew (S := fun W => W.cell? ⟨gf, 0, none⟩ = some (.slice Fe fe1 fe2) ∧ W.cell? ⟨gf, 1, none⟩ = some (.slice Fk fk1 fk2) ∧ W.cell? ⟨gf, 2, none⟩ = some (.slice Fc fc1 fc2) ∧ W.cell? ⟨h, 0, none⟩ = some (.slice Ye ye1 ye2) ∧ W.cell? ⟨h, 1, none⟩ = some (.slice Yk yk1 yk2) ∧ W.cell? ⟨h, 2, none⟩ = some (.slice Yc yc1 yc2) ∧ W.cell? ⟨g, 0, none⟩ = some (.slice Xe xe1 xe2) ∧ W.cell? ⟨g, 1, none⟩ = some (.slice Xk xk1 xk2) ∧ W.cell? ⟨g, 2, none⟩ = some (.slice Xc xc1 xc2) ∧ W.cell? ⟨p, 0, none⟩ = some (.slice Ae ne ce) ∧ W.cell? ⟨p, 1, none⟩ = some (.slice Ak nk ck) ∧ W.cell? ⟨q, 0, none⟩ = some (.string t0) ∧ W.cell? ⟨q, 1, none⟩ = some (.string t1) ∧ W.cell? ⟨q, 2, none⟩ = some (.string t2) ∧ W.cell? ⟨s, 0, none⟩ = some (.int .i64 a) ∧ W.cell? ⟨s, 1, none⟩ = some (.int .i64 n) ∧ W.cell? ⟨s, 2, none⟩ = some (.int .i64 b) ∧ W.cell? ⟨s, 3, none⟩ = some (.int .i64 m) ∧ W.cell? ⟨s, 4, none⟩ = some (.int .i64 c) ∧ W.cell? ⟨s, 5, none⟩ = some (.int .i64 j)) (by kernel_rfl) (by have h9 := HKc.out.drew; exact ⟨h9.c0, h9.c1, h9.c2, h9.c3, h9.c4, h9.c5, h9.c6, h9.c7, h9.t8.c0, h9.t8.c1, h9.t8.c2, h9.t8.c3, h9.t8.c4, h9.t8.c5, h9.t8.c6, h9.t8.c7, h9.t8.t8.c0, h9.t8.t8.c1, h9.t8.t8.c2, h9.t8.t8.c3⟩) (fun hHeld => ?_)
       obtain ⟨v5, hv5⟩ : ∃ v, v = wcgf.drew := ⟨_, rfl⟩
       have hb9 : Below wcgf.heap.size wcgf v5 := by rw [hv5]; exact (Below.refl _ _).drew
       have HKc := Lib.hid (HKc.out.later hb9); have R := Lib.hid (RdT.later R.out hb9); have RX := Lib.hid (RX.out.later hb9); have RY := Lib.hid (RY.out.later hb9); have RF := Lib.hid (RF.out.later hb9); clear hb9; have HBV9 : Hid (wcgf.drew = v5) := hv5.symm; rw [← hv5] at hHeld ⊢; clear hv5
       have HBV : Hid (Below wcgf.heap.size wcgf v5) := by unfold Hid; rw [← HBV9.out]; exact (Below.refl _ _).drew
       clear HBV9; refine Tk 0 88 ?_; refine Tk 1 89 ?_; refine Tk 2 90 ?_; refine wpAnyH_ready (rs := [3, 9]) (by kernel_rfl) (by simp) ?_; refine AllReadyH.cons (o := ⟨some 91, _, _, _, _, _⟩) rfl (fun K hK => ?_) (AllReadyH.cons (o := ⟨some 14, _, _, _, _, _⟩) rfl (fun K hK => ?_) (AllReadyH.nil))
       ·go_simp
        (go_at_call 19; refine (refknown_any t Ae Ak ne nk ce ck u m9 v5 HT.out (by have := N.out; omega) R.out HU.out.1 HU.out.2.1 (by have := HU.out.2.2; omega)).mono ?_); rintro e v6 ⟨B9, d9, rfl, hro, hb9⟩; have RK9 : Hid (RdP v6 ⟨(t, u), ⟨Ae, ne, ce⟩, ⟨Ak, nk, ck⟩, ⟨B9, m9, d9⟩⟩) := ⟨RdT.later R.out hb9, HU.out.2.1, hro.rd⟩; clear hro; have HKc := Lib.hid (HKc.out.later hb9); have R := Lib.hid (RdT.later R.out hb9); have RX := Lib.hid (RX.out.later hb9); have RY := Lib.hid (RY.out.later hb9); have RF := Lib.hid (RF.out.later hb9); have HBV := Lib.hid (HBV.out.trans (hb9.mono HBV.out.size)); clear hb9; have HSUM := HSUM B9 d9; clear hHeld; refine Th hK ?_ (fun hHeld => ?_)
        ·exact ⟨HKc.out.c0, HKc.out.c1, HKc.out.c2, HKc.out.c3, HKc.out.c4, HKc.out.c5, HKc.out.c6, HKc.out.c7, HKc.out.t8.c0, HKc.out.t8.c1, HKc.out.t8.c2, HKc.out.t8.c3, HKc.out.t8.c4, HKc.out.t8.c5, HKc.out.t8.c6, HKc.out.t8.c7, HKc.out.t8.t8.c0, HKc.out.t8.t8.c1, HKc.out.t8.t8.c2, HKc.out.t8.t8.c3⟩
        clear hK K; refine wpAnyH_ready (rs := [4, 9]) (by kernel_rfl) (by simp) ?_; refine AllReadyH.cons (o := ⟨some 92, _, _, _, _, _⟩) rfl (fun K hK => ?_) (AllReadyH.cons (o := ⟨some 14, _, _, _, _, _⟩) rfl (fun K hK => ?_) (AllReadyH.nil))
        ·go_simp
         clear hHeld; refine Th hK ?_ (fun hHeld => ?_)
         ·exact ⟨(HKc.out.alloc _).c0, (HKc.out.alloc _).c1, (HKc.out.alloc _).c2, (HKc.out.alloc _).c3, (HKc.out.alloc _).c4, (HKc.out.alloc _).c5, (HKc.out.alloc _).c6, (HKc.out.alloc _).c7, (HKc.out.alloc _).t8.c0, (HKc.out.alloc _).t8.c1, (HKc.out.alloc _).t8.c2, (HKc.out.alloc _).t8.c3, (HKc.out.alloc _).t8.c4, (HKc.out.alloc _).t8.c5, (HKc.out.alloc _).t8.c6, (HKc.out.alloc _).t8.c7, (HKc.out.alloc _).t8.t8.c0, (HKc.out.alloc _).t8.t8.c1, (HKc.out.alloc _).t8.t8.c2, (HKc.out.alloc _).t8.t8.c3⟩
         clear hK K; obtain ⟨gr, hgr⟩ : ∃ g, g = v6.heap.size := ⟨_, rfl⟩; obtain ⟨v7, hv7⟩ : ∃ W, W = v6.alloc (.cells #[.slice Ye ye1 ye2, .slice Yk yk1 yk2, .slice Yc yc1 yc2, .slice Xe xe1 xe2, .slice Xk xk1 xk2, .slice Xc xc1 xc2, .slice Ae ne ce, .slice Ak nk ck, .slice B9 m9 d9] 33) := ⟨_, rfl⟩
         have hb9 : Below v6.heap.size v6 v7 := by rw [hv7]; exact Dt.box_below _ _ _
         have hrow := rd_rowP v6 [⟨ky, ⟨Ye, ye1, ye2⟩, ⟨Yk, yk1, yk2⟩, ⟨Yc, yc1, yc2⟩⟩, ⟨kx, ⟨Xe, xe1, xe2⟩, ⟨Xk, xk1, xk2⟩, ⟨Xc, xc1, xc2⟩⟩, ⟨(t, u), ⟨Ae, ne, ce⟩, ⟨Ak, nk, ck⟩, ⟨B9, m9, d9⟩⟩] #[.slice Ye ye1 ye2, .slice Yk yk1 yk2, .slice Yc yc1 yc2, .slice Xe xe1 xe2, .slice Xk xk1 xk2, .slice Xc xc1 xc2, .slice Ae ne ce, .slice Ak nk ck, .slice B9 m9 d9] 3 rfl rfl; rw [← hv7, ← hgr] at hrow; have HKc := Lib.hid (HKc.out.later hb9); have R := Lib.hid (RdT.later R.out hb9); have RX := Lib.hid (RX.out.later hb9); have RY := Lib.hid (RY.out.later hb9); have RF := Lib.hid (RF.out.later hb9); have HBV := Lib.hid (HBV.out.trans (hb9.mono HBV.out.size)); have RK9 := Lib.hid (RK9.out.later hb9)
         have RW : Hid (RowP v7 (some ⟨gr, 0, none⟩) 3 3 [⟨ky, ⟨Ye, ye1, ye2⟩, ⟨Yk, yk1, yk2⟩, ⟨Yc, yc1, yc2⟩⟩, ⟨kx, ⟨Xe, xe1, xe2⟩, ⟨Xk, xk1, xk2⟩, ⟨Xc, xc1, xc2⟩⟩, ⟨(t, u), ⟨Ae, ne, ce⟩, ⟨Ak, nk, ck⟩, ⟨B9, m9, d9⟩⟩]) := ⟨hrow.more (by rw [hv7, hgr]; simp), rfl, fun p hp => by
          simp at hp
          rcases hp with rfl | rfl | rfl
          ·exact RY.out
          ·exact RX.out
          ·exact RK9.out⟩
         (try rw [← hv7] at hHeld); rw [← hv7]; rw [← hgr]; clear hgr hv7 hb9 hrow; refine wpAnyH_ready (rs := [5, 9]) (by kernel_rfl) (by simp) ?_; refine AllReadyH.cons (o := ⟨some 93, _, _, _, _, _⟩) rfl (fun K hK => ?_) (AllReadyH.cons (o := ⟨some 14, _, _, _, _, _⟩) rfl (fun K hK => ?_) (AllReadyH.nil))
         ·go_simp
          (go_at_call 20; refine (joinAllE_sum 3 [⟨ky, ⟨Ye, ye1, ye2⟩, ⟨Yk, yk1, yk2⟩, ⟨Yc, yc1, yc2⟩⟩, ⟨kx, ⟨Xe, xe1, xe2⟩, ⟨Xk, xk1, xk2⟩, ⟨Xc, xc1, xc2⟩⟩, ⟨(t, u), ⟨Ae, ne, ce⟩, ⟨Ak, nk, ck⟩, ⟨B9, m9, d9⟩⟩] (some ⟨gr, 0, none⟩) 3 v7 (by omega) RW.out ⟨Nat.le_trans HSUM.out.1 (by omega), HSUM.out.2⟩).mono ?_); rintro e v8 ⟨kg, z9, hj, _, Ge, ge1, ge2, Gk, gk1, gk2, Gc, gc1, gc2, rfl, how, hb9⟩
          obtain ⟨rfl, hall, hnn, hnc⟩ := hj (fun p hp => by
           simp at hp
           rcases hp with rfl | rfl | rfl
           ·exact JY.out
           ·exact JX.out
           ·exact JT.out)
          have HP : Hid (AllJ [ky, kx, (t, u)] kg ∧ nodes kg.1 ≤ 64 ∧ gc1 ≤ 1000) := ⟨hall, Nat.le_trans hnn HSUM.out.1, by rw [← how.len]; exact Nat.le_trans hnc HSUM.out.2⟩; have HN : Hid (NoC v8 (fun _ => True) ⟨kg, ⟨Ge, ge1, ge2⟩, ⟨Gk, gk1, gk2⟩, ⟨Gc, gc1, gc2⟩⟩) := NoC.of_own how (fun b hb _ => trivial); clear hj hall hnn hnc how; have HKc := Lib.hid (HKc.out.later hb9); have R := Lib.hid (RdT.later R.out hb9); have RX := Lib.hid (RX.out.later hb9); have RY := Lib.hid (RY.out.later hb9); have RF := Lib.hid (RF.out.later hb9); have HBV := Lib.hid (HBV.out.trans (hb9.mono HBV.out.size)); have RK9 := Lib.hid (RK9.out.later hb9); have RW := Lib.hid (RW.out.later hb9); clear hb9; clear hHeld; refine Th hK ?_ (fun hHeld => ?_)
          ·exact ⟨HKc.out.c0, HKc.out.c1, HKc.out.c2, HKc.out.c3, HKc.out.c4, HKc.out.c5, HKc.out.c6, HKc.out.c7, HKc.out.t8.c0, HKc.out.t8.c1, HKc.out.t8.c2, HKc.out.t8.c3, HKc.out.t8.c4, HKc.out.t8.c5, HKc.out.t8.c6, HKc.out.t8.c7, HKc.out.t8.t8.c0, HKc.out.t8.t8.c1, HKc.out.t8.t8.c2, HKc.out.t8.t8.c3⟩
          clear hK K; refine Tk 6 87 ?_; refine Tk 7 94 ?_; refine Tk 8 95 ?_; refine Tc 9 (fun K hK => ?_); go_simp; clear hHeld; refine Th hK ?_ (fun hHeld => ?_)
          ·exact ⟨(HKc.out.alloc _).c0, (HKc.out.alloc _).c1, (HKc.out.alloc _).c2, (HKc.out.alloc _).c3, (HKc.out.alloc _).c4, (HKc.out.alloc _).c5, (HKc.out.alloc _).c6, (HKc.out.alloc _).c7, (HKc.out.alloc _).t8.c0, (HKc.out.alloc _).t8.c1, (HKc.out.alloc _).t8.c2, (HKc.out.alloc _).t8.c3, (HKc.out.alloc _).t8.c4, (HKc.out.alloc _).t8.c5, (HKc.out.alloc _).t8.c6, (HKc.out.alloc _).t8.c7, (HKc.out.alloc _).t8.t8.c0, (HKc.out.alloc _).t8.t8.c1, (HKc.out.alloc _).t8.t8.c2, (HKc.out.alloc _).t8.t8.c3⟩
          clear hK K; obtain ⟨gh, hgh⟩ : ∃ g, g = v8.heap.size := ⟨_, rfl⟩; obtain ⟨v9, hv9⟩ : ∃ W, W = v8.alloc (.cells #[.slice none 0 0, .slice none 0 0, .slice none 0 0] 33) := ⟨_, rfl⟩
          have hb9 : Below v8.heap.size v8 v9 := by rw [hv9]; exact Dt.box_below _ _ _
          have hvg : wcgf.heap.size ≤ gh := by rw [hgh]; exact HBV.out.size
          have hwg : w.heap.size ≤ gh := by rw [hgh]; exact HKc.out.below.size
          have hngf : gf ≠ gh := by have h := World.block_lt_of_cell? v8 _ HKc.out.c0; dsimp only at h; omega
          have hnh : h ≠ gh := by have h := World.block_lt_of_cell? v8 _ HKc.out.c3; dsimp only at h; omega
          have hng : g ≠ gh := by have h := World.block_lt_of_cell? v8 _ HKc.out.c6; dsimp only at h; omega
          have hnp : p ≠ gh := by have h := World.block_lt_of_cell? v8 _ HKc.out.t8.c1; dsimp only at h; omega
          have hnq : q ≠ gh := by have h := World.block_lt_of_cell? v8 _ HKc.out.t8.c3; dsimp only at h; omega
          have hns : s ≠ gh := by have h := World.block_lt_of_cell? v8 _ HKc.out.t8.c6; dsimp only at h; omega
          have b0 : v9.cell? ⟨gh, 0, none⟩ = some (.slice none 0 0) := by rw [hv9, hgh]; go_simp
          have b1 : v9.cell? ⟨gh, 1, none⟩ = some (.slice none 0 0) := by rw [hv9, hgh]; go_simp
          have b2 : v9.cell? ⟨gh, 2, none⟩ = some (.slice none 0 0) := by rw [hv9, hgh]; go_simp
          have HN := Lib.hid (HN.out.mono (ok' := fun b => b ≠ gh) (fun b _ hlt => by omega)); have HKc := Lib.hid (HKc.out.later hb9); have R := Lib.hid (RdT.later R.out hb9); have RX := Lib.hid (RX.out.later hb9); have RY := Lib.hid (RY.out.later hb9); have RF := Lib.hid (RF.out.later hb9); have HBV := Lib.hid (HBV.out.trans (hb9.mono HBV.out.size)); have RK9 := Lib.hid (RK9.out.later hb9); have RW := Lib.hid (RW.out.later hb9); have HN := Lib.hid (HN.out.later hb9); have HZ : Hid (Kept [(⟨gh, 0, none⟩, .slice none 0 0), (⟨gh, 1, none⟩, .slice none 0 0), (⟨gh, 2, none⟩, .slice none 0 0)] wcgf v9) := (((Kept.nil_of HBV.out).cons_of b2).cons_of b1).cons_of b0; have HF : Hid (Free gh v9) := ⟨by rw [hv9, hgh]; simp, fun j => by rw [hv9, hgh]; go_simp⟩; have hlt9 : gh < v9.heap.size := HF.out.1; (try rw [← hv9] at hHeld); rw [← hv9]; rw [← hgh]; clear hgh hv9 hb9 b0 b1 b2; have z0 := HZ.out.c0
          have z1 := HZ.out.c1; have z2 := HZ.out.c2; have m0 := HF.out.2 0; have m1 := HF.out.2 1; have m2 := HF.out.2 2; refine Tc 10 (fun K hK => ?_); go_simp; refine Th hK ?_ (fun hHeld2 => ?_)
          ·(try dsimp only)
           have h9 := HKc.out
           have h9 := h9.set (a := ⟨gh, 0, none⟩) hwg (fun x hx => by simp at hx; rcases hx with rfl | rfl | rfl | rfl | rfl | rfl | rfl | rfl | rfl | rfl | rfl | rfl | rfl | rfl | rfl | rfl | rfl | rfl | rfl | rfl <;> (dsimp only; omega)) (.slice Ge ge1 ge2)
           have h9 := h9.set (a := ⟨gh, 1, none⟩) hwg (fun x hx => by simp at hx; rcases hx with rfl | rfl | rfl | rfl | rfl | rfl | rfl | rfl | rfl | rfl | rfl | rfl | rfl | rfl | rfl | rfl | rfl | rfl | rfl | rfl <;> (dsimp only; omega)) (.slice Gk gk1 gk2)
           have h9 := h9.set (a := ⟨gh, 2, none⟩) hwg (fun x hx => by simp at hx; rcases hx with rfl | rfl | rfl | rfl | rfl | rfl | rfl | rfl | rfl | rfl | rfl | rfl | rfl | rfl | rfl | rfl | rfl | rfl | rfl | rfl <;> (dsimp only; omega)) (.slice Gc gc1 gc2)
           exact ⟨h9.c0, h9.c1, h9.c2, h9.c3, h9.c4, h9.c5, h9.c6, h9.c7, h9.t8.c0, h9.t8.c1, h9.t8.c2, h9.t8.c3, h9.t8.c4, h9.t8.c5, h9.t8.c6, h9.t8.c7, h9.t8.t8.c0, h9.t8.t8.c1, h9.t8.t8.c2, h9.t8.t8.c3⟩
          clear hK K hHeld; have hHeld := hHeld2; clear hHeld2; refine Tk 11 15 ?_; refine wpAnyH_done (by kernel_rfl) ?_ _; clear hHeld
          have HMID : Hid (MidJ wcgf gh ⟨kg, ⟨Ge, ge1, ge2⟩, ⟨Gk, gk1, gk2⟩, ⟨Gc, gc1, gc2⟩⟩ (((v9.setCell ⟨gh, 0, none⟩ (.slice Ge ge1 ge2)).setCell ⟨gh, 1, none⟩ (.slice Gk gk1 gk2)).setCell ⟨gh, 2, none⟩ (.slice Gc gc1 gc2))) := by
           obtain ⟨W9, hW9⟩ : ∃ W, W = (((v9.setCell ⟨gh, 0, none⟩ (.slice Ge ge1 ge2)).setCell ⟨gh, 1, none⟩ (.slice Gk gk1 gk2)).setCell ⟨gh, 2, none⟩ (.slice Gc gc1 gc2)) := ⟨_, rfl⟩; rw [← hW9]
           have hb : Below wcgf.heap.size wcgf W9 := by
            rw [hW9]; exact (((HBV.out.setCell (p := ⟨gh, 0, none⟩) hvg _).setCell (p := ⟨gh, 1, none⟩) hvg _).setCell (p := ⟨gh, 2, none⟩) hvg _)
           refine ⟨(HN.out.keep (by rw [hW9, cells3]; exact Nat.le_refl _) (fun b hb _ => by rw [hW9]; exact cells3_at b hb)).rd, ?_⟩
           refine (((Kept.nil_of hb).cons_of ?_).cons_of ?_).cons_of ?_ <;> (rw [hW9]; go_simp)
          clear z0 z1 z2 m0 m1 m2; go_wp2_with fail; go_meet; exact ⟨gh, ⟨kg, ⟨Ge, ge1, ge2⟩, ⟨Gk, gk1, gk2⟩, ⟨Gc, gc1, gc2⟩⟩, rfl, rfl, HMID.out, HP.out⟩
         ·go_simp
          clear hHeld; refine Th hK ?_ (fun hHeld => ?_)
          ·exact ⟨(HKc.out.alloc _).c0, (HKc.out.alloc _).c1, (HKc.out.alloc _).c2, (HKc.out.alloc _).c3, (HKc.out.alloc _).c4, (HKc.out.alloc _).c5, (HKc.out.alloc _).c6, (HKc.out.alloc _).c7, (HKc.out.alloc _).t8.c0, (HKc.out.alloc _).t8.c1, (HKc.out.alloc _).t8.c2, (HKc.out.alloc _).t8.c3, (HKc.out.alloc _).t8.c4, (HKc.out.alloc _).t8.c5, (HKc.out.alloc _).t8.c6, (HKc.out.alloc _).t8.c7, (HKc.out.alloc _).t8.t8.c0, (HKc.out.alloc _).t8.t8.c1, (HKc.out.alloc _).t8.t8.c2, (HKc.out.alloc _).t8.t8.c3⟩
          clear hK K; obtain ⟨gh, hgh⟩ : ∃ g, g = v7.heap.size := ⟨_, rfl⟩; obtain ⟨v8, hv8⟩ : ∃ W, W = v7.alloc (.cells #[.slice none 0 0, .slice none 0 0, .slice none 0 0] 33) := ⟨_, rfl⟩
          have hb9 : Below v7.heap.size v7 v8 := by rw [hv8]; exact Dt.box_below _ _ _
          have hvg : wcgf.heap.size ≤ gh := by rw [hgh]; exact HBV.out.size
          have hwg : w.heap.size ≤ gh := by rw [hgh]; exact HKc.out.below.size
          have hngf : gf ≠ gh := by have h := World.block_lt_of_cell? v7 _ HKc.out.c0; dsimp only at h; omega
          have hnh : h ≠ gh := by have h := World.block_lt_of_cell? v7 _ HKc.out.c3; dsimp only at h; omega
          have hng : g ≠ gh := by have h := World.block_lt_of_cell? v7 _ HKc.out.c6; dsimp only at h; omega
          have hnp : p ≠ gh := by have h := World.block_lt_of_cell? v7 _ HKc.out.t8.c1; dsimp only at h; omega
          have hnq : q ≠ gh := by have h := World.block_lt_of_cell? v7 _ HKc.out.t8.c3; dsimp only at h; omega
          have hns : s ≠ gh := by have h := World.block_lt_of_cell? v7 _ HKc.out.t8.c6; dsimp only at h; omega
          have b0 : v8.cell? ⟨gh, 0, none⟩ = some (.slice none 0 0) := by rw [hv8, hgh]; go_simp
          have b1 : v8.cell? ⟨gh, 1, none⟩ = some (.slice none 0 0) := by rw [hv8, hgh]; go_simp
          have b2 : v8.cell? ⟨gh, 2, none⟩ = some (.slice none 0 0) := by rw [hv8, hgh]; go_simp
          have HKc := Lib.hid (HKc.out.later hb9); have R := Lib.hid (RdT.later R.out hb9); have RX := Lib.hid (RX.out.later hb9); have RY := Lib.hid (RY.out.later hb9); have RF := Lib.hid (RF.out.later hb9); have HBV := Lib.hid (HBV.out.trans (hb9.mono HBV.out.size)); have RK9 := Lib.hid (RK9.out.later hb9); have RW := Lib.hid (RW.out.later hb9); have HZ : Hid (Kept [(⟨gh, 0, none⟩, .slice none 0 0), (⟨gh, 1, none⟩, .slice none 0 0), (⟨gh, 2, none⟩, .slice none 0 0)] wcgf v8) := (((Kept.nil_of HBV.out).cons_of b2).cons_of b1).cons_of b0; have HF : Hid (Free gh v8) := ⟨by rw [hv8, hgh]; simp, fun j => by rw [hv8, hgh]; go_simp⟩; have hlt9 : gh < v8.heap.size := HF.out.1; (try rw [← hv8] at hHeld); rw [← hv8]; rw [← hgh]; clear hgh hv8 hb9 b0 b1 b2; refine Tc 5 (fun K hK => ?_); go_simp; (go_at_call 20; refine (joinAllE_sum 3 [⟨ky, ⟨Ye, ye1, ye2⟩, ⟨Yk, yk1, yk2⟩, ⟨Yc, yc1, yc2⟩⟩, ⟨kx, ⟨Xe, xe1, xe2⟩, ⟨Xk, xk1, xk2⟩, ⟨Xc, xc1, xc2⟩⟩, ⟨(t, u), ⟨Ae, ne, ce⟩, ⟨Ak, nk, ck⟩, ⟨B9, m9, d9⟩⟩] (some ⟨gr, 0, none⟩) 3 v8 (by omega) RW.out ⟨Nat.le_trans HSUM.out.1 (by omega), HSUM.out.2⟩).mono ?_)
          rintro e v9 ⟨kg, z9, hj, _, Ge, ge1, ge2, Gk, gk1, gk2, Gc, gc1, gc2, rfl, how, hb9⟩
          obtain ⟨rfl, hall, hnn, hnc⟩ := hj (fun p hp => by
           simp at hp
           rcases hp with rfl | rfl | rfl
           ·exact JY.out
           ·exact JX.out
           ·exact JT.out)
          have HP : Hid (AllJ [ky, kx, (t, u)] kg ∧ nodes kg.1 ≤ 64 ∧ gc1 ≤ 1000) := ⟨hall, Nat.le_trans hnn HSUM.out.1, by rw [← how.len]; exact Nat.le_trans hnc HSUM.out.2⟩; have HN : Hid (NoC v9 (fun b => b ≠ gh) ⟨kg, ⟨Ge, ge1, ge2⟩, ⟨Gk, gk1, gk2⟩, ⟨Gc, gc1, gc2⟩⟩) := NoC.of_own how (fun b hb _ => by have h := HF.out.1; omega); clear hj hall hnn hnc how; have HKc := Lib.hid (HKc.out.later hb9); have R := Lib.hid (RdT.later R.out hb9); have RX := Lib.hid (RX.out.later hb9); have RY := Lib.hid (RY.out.later hb9); have RF := Lib.hid (RF.out.later hb9); have HBV := Lib.hid (HBV.out.trans (hb9.mono HBV.out.size)); have RK9 := Lib.hid (RK9.out.later hb9); have RW := Lib.hid (RW.out.later hb9); have HZ := Lib.hid (HZ.out.later hb9); have HF := Lib.hid (HF.out.later hb9); clear hb9; have z0 := HZ.out.c0; have z1 := HZ.out.c1; have z2 := HZ.out.c2; have m0 := HF.out.2 0; have m1 := HF.out.2 1
          have m2 := HF.out.2 2; clear hHeld; refine Th hK ?_ (fun hHeld => ?_)
          ·exact ⟨HKc.out.c0, HKc.out.c1, HKc.out.c2, HKc.out.c3, HKc.out.c4, HKc.out.c5, HKc.out.c6, HKc.out.c7, HKc.out.t8.c0, HKc.out.t8.c1, HKc.out.t8.c2, HKc.out.t8.c3, HKc.out.t8.c4, HKc.out.t8.c5, HKc.out.t8.c6, HKc.out.t8.c7, HKc.out.t8.t8.c0, HKc.out.t8.t8.c1, HKc.out.t8.t8.c2, HKc.out.t8.t8.c3⟩
          clear hK K; refine Tk 6 87 ?_; refine Tk 7 94 ?_; refine Tk 8 95 ?_; refine Tc 10 (fun K hK => ?_); go_simp; refine Th hK ?_ (fun hHeld2 => ?_)
          ·(try dsimp only)
           have h9 := HKc.out
           have h9 := h9.set (a := ⟨gh, 0, none⟩) hwg (fun x hx => by simp at hx; rcases hx with rfl | rfl | rfl | rfl | rfl | rfl | rfl | rfl | rfl | rfl | rfl | rfl | rfl | rfl | rfl | rfl | rfl | rfl | rfl | rfl <;> (dsimp only; omega)) (.slice Ge ge1 ge2)
           have h9 := h9.set (a := ⟨gh, 1, none⟩) hwg (fun x hx => by simp at hx; rcases hx with rfl | rfl | rfl | rfl | rfl | rfl | rfl | rfl | rfl | rfl | rfl | rfl | rfl | rfl | rfl | rfl | rfl | rfl | rfl | rfl <;> (dsimp only; omega)) (.slice Gk gk1 gk2)
           have h9 := h9.set (a := ⟨gh, 2, none⟩) hwg (fun x hx => by simp at hx; rcases hx with rfl | rfl | rfl | rfl | rfl | rfl | rfl | rfl | rfl | rfl | rfl | rfl | rfl | rfl | rfl | rfl | rfl | rfl | rfl | rfl <;> (dsimp only; omega)) (.slice Gc gc1 gc2)
           exact ⟨h9.c0, h9.c1, h9.c2, h9.c3, h9.c4, h9.c5, h9.c6, h9.c7, h9.t8.c0, h9.t8.c1, h9.t8.c2, h9.t8.c3, h9.t8.c4, h9.t8.c5, h9.t8.c6, h9.t8.c7, h9.t8.t8.c0, h9.t8.t8.c1, h9.t8.t8.c2, h9.t8.t8.c3⟩
          clear hK K hHeld; have hHeld := hHeld2; clear hHeld2; refine Tk 11 15 ?_; refine wpAnyH_done (by kernel_rfl) ?_ _; clear hHeld
          have HMID : Hid (MidJ wcgf gh ⟨kg, ⟨Ge, ge1, ge2⟩, ⟨Gk, gk1, gk2⟩, ⟨Gc, gc1, gc2⟩⟩ (((v9.setCell ⟨gh, 0, none⟩ (.slice Ge ge1 ge2)).setCell ⟨gh, 1, none⟩ (.slice Gk gk1 gk2)).setCell ⟨gh, 2, none⟩ (.slice Gc gc1 gc2))) := by
           obtain ⟨W9, hW9⟩ : ∃ W, W = (((v9.setCell ⟨gh, 0, none⟩ (.slice Ge ge1 ge2)).setCell ⟨gh, 1, none⟩ (.slice Gk gk1 gk2)).setCell ⟨gh, 2, none⟩ (.slice Gc gc1 gc2)) := ⟨_, rfl⟩; rw [← hW9]
           have hb : Below wcgf.heap.size wcgf W9 := by
            rw [hW9]; exact (((HBV.out.setCell (p := ⟨gh, 0, none⟩) hvg _).setCell (p := ⟨gh, 1, none⟩) hvg _).setCell (p := ⟨gh, 2, none⟩) hvg _)
           refine ⟨(HN.out.keep (by rw [hW9, cells3]; exact Nat.le_refl _) (fun b hb _ => by rw [hW9]; exact cells3_at b hb)).rd, ?_⟩
           refine (((Kept.nil_of hb).cons_of ?_).cons_of ?_).cons_of ?_ <;> (rw [hW9]; go_simp)
          clear z0 z1 z2 m0 m1 m2; go_wp2_with fail; go_meet; exact ⟨gh, ⟨kg, ⟨Ge, ge1, ge2⟩, ⟨Gk, gk1, gk2⟩, ⟨Gc, gc1, gc2⟩⟩, rfl, rfl, HMID.out, HP.out⟩
        ·go_simp
         clear hHeld; refine Th hK ?_ (fun hHeld => ?_)
         ·exact ⟨(HKc.out.alloc _).c0, (HKc.out.alloc _).c1, (HKc.out.alloc _).c2, (HKc.out.alloc _).c3, (HKc.out.alloc _).c4, (HKc.out.alloc _).c5, (HKc.out.alloc _).c6, (HKc.out.alloc _).c7, (HKc.out.alloc _).t8.c0, (HKc.out.alloc _).t8.c1, (HKc.out.alloc _).t8.c2, (HKc.out.alloc _).t8.c3, (HKc.out.alloc _).t8.c4, (HKc.out.alloc _).t8.c5, (HKc.out.alloc _).t8.c6, (HKc.out.alloc _).t8.c7, (HKc.out.alloc _).t8.t8.c0, (HKc.out.alloc _).t8.t8.c1, (HKc.out.alloc _).t8.t8.c2, (HKc.out.alloc _).t8.t8.c3⟩
         clear hK K; obtain ⟨gh, hgh⟩ : ∃ g, g = v6.heap.size := ⟨_, rfl⟩; obtain ⟨v7, hv7⟩ : ∃ W, W = v6.alloc (.cells #[.slice none 0 0, .slice none 0 0, .slice none 0 0] 33) := ⟨_, rfl⟩
         have hb9 : Below v6.heap.size v6 v7 := by rw [hv7]; exact Dt.box_below _ _ _
         have hvg : wcgf.heap.size ≤ gh := by rw [hgh]; exact HBV.out.size
         have hwg : w.heap.size ≤ gh := by rw [hgh]; exact HKc.out.below.size
         have hngf : gf ≠ gh := by have h := World.block_lt_of_cell? v6 _ HKc.out.c0; dsimp only at h; omega
         have hnh : h ≠ gh := by have h := World.block_lt_of_cell? v6 _ HKc.out.c3; dsimp only at h; omega
         have hng : g ≠ gh := by have h := World.block_lt_of_cell? v6 _ HKc.out.c6; dsimp only at h; omega
         have hnp : p ≠ gh := by have h := World.block_lt_of_cell? v6 _ HKc.out.t8.c1; dsimp only at h; omega
         have hnq : q ≠ gh := by have h := World.block_lt_of_cell? v6 _ HKc.out.t8.c3; dsimp only at h; omega
         have hns : s ≠ gh := by have h := World.block_lt_of_cell? v6 _ HKc.out.t8.c6; dsimp only at h; omega
         have b0 : v7.cell? ⟨gh, 0, none⟩ = some (.slice none 0 0) := by rw [hv7, hgh]; go_simp
         have b1 : v7.cell? ⟨gh, 1, none⟩ = some (.slice none 0 0) := by rw [hv7, hgh]; go_simp
         have b2 : v7.cell? ⟨gh, 2, none⟩ = some (.slice none 0 0) := by rw [hv7, hgh]; go_simp
         have HKc := Lib.hid (HKc.out.later hb9); have R := Lib.hid (RdT.later R.out hb9); have RX := Lib.hid (RX.out.later hb9); have RY := Lib.hid (RY.out.later hb9); have RF := Lib.hid (RF.out.later hb9); have HBV := Lib.hid (HBV.out.trans (hb9.mono HBV.out.size)); have RK9 := Lib.hid (RK9.out.later hb9); have HZ : Hid (Kept [(⟨gh, 0, none⟩, .slice none 0 0), (⟨gh, 1, none⟩, .slice none 0 0), (⟨gh, 2, none⟩, .slice none 0 0)] wcgf v7) := (((Kept.nil_of HBV.out).cons_of b2).cons_of b1).cons_of b0; have HF : Hid (Free gh v7) := ⟨by rw [hv7, hgh]; simp, fun j => by rw [hv7, hgh]; go_simp⟩; have hlt9 : gh < v7.heap.size := HF.out.1; (try rw [← hv7] at hHeld); rw [← hv7]; rw [← hgh]; clear hgh hv7 hb9 b0 b1 b2; refine Tc 4 (fun K hK => ?_); go_simp; clear hHeld; refine Th hK ?_ (fun hHeld => ?_)
         ·exact ⟨(HKc.out.alloc _).c0, (HKc.out.alloc _).c1, (HKc.out.alloc _).c2, (HKc.out.alloc _).c3, (HKc.out.alloc _).c4, (HKc.out.alloc _).c5, (HKc.out.alloc _).c6, (HKc.out.alloc _).c7, (HKc.out.alloc _).t8.c0, (HKc.out.alloc _).t8.c1, (HKc.out.alloc _).t8.c2, (HKc.out.alloc _).t8.c3, (HKc.out.alloc _).t8.c4, (HKc.out.alloc _).t8.c5, (HKc.out.alloc _).t8.c6, (HKc.out.alloc _).t8.c7, (HKc.out.alloc _).t8.t8.c0, (HKc.out.alloc _).t8.t8.c1, (HKc.out.alloc _).t8.t8.c2, (HKc.out.alloc _).t8.t8.c3⟩
         clear hK K; obtain ⟨gr, hgr⟩ : ∃ g, g = v7.heap.size := ⟨_, rfl⟩; obtain ⟨v8, hv8⟩ : ∃ W, W = v7.alloc (.cells #[.slice Ye ye1 ye2, .slice Yk yk1 yk2, .slice Yc yc1 yc2, .slice Xe xe1 xe2, .slice Xk xk1 xk2, .slice Xc xc1 xc2, .slice Ae ne ce, .slice Ak nk ck, .slice B9 m9 d9] 33) := ⟨_, rfl⟩
         have hb9 : Below v7.heap.size v7 v8 := by rw [hv8]; exact Dt.box_below _ _ _
         have hrow := rd_rowP v7 [⟨ky, ⟨Ye, ye1, ye2⟩, ⟨Yk, yk1, yk2⟩, ⟨Yc, yc1, yc2⟩⟩, ⟨kx, ⟨Xe, xe1, xe2⟩, ⟨Xk, xk1, xk2⟩, ⟨Xc, xc1, xc2⟩⟩, ⟨(t, u), ⟨Ae, ne, ce⟩, ⟨Ak, nk, ck⟩, ⟨B9, m9, d9⟩⟩] #[.slice Ye ye1 ye2, .slice Yk yk1 yk2, .slice Yc yc1 yc2, .slice Xe xe1 xe2, .slice Xk xk1 xk2, .slice Xc xc1 xc2, .slice Ae ne ce, .slice Ak nk ck, .slice B9 m9 d9] 3 rfl rfl; rw [← hv8, ← hgr] at hrow; have HKc := Lib.hid (HKc.out.later hb9); have R := Lib.hid (RdT.later R.out hb9); have RX := Lib.hid (RX.out.later hb9); have RY := Lib.hid (RY.out.later hb9); have RF := Lib.hid (RF.out.later hb9); have HBV := Lib.hid (HBV.out.trans (hb9.mono HBV.out.size)); have RK9 := Lib.hid (RK9.out.later hb9); have HZ := Lib.hid (HZ.out.later hb9); have HF := Lib.hid (HF.out.later hb9)
         have RW : Hid (RowP v8 (some ⟨gr, 0, none⟩) 3 3 [⟨ky, ⟨Ye, ye1, ye2⟩, ⟨Yk, yk1, yk2⟩, ⟨Yc, yc1, yc2⟩⟩, ⟨kx, ⟨Xe, xe1, xe2⟩, ⟨Xk, xk1, xk2⟩, ⟨Xc, xc1, xc2⟩⟩, ⟨(t, u), ⟨Ae, ne, ce⟩, ⟨Ak, nk, ck⟩, ⟨B9, m9, d9⟩⟩]) := ⟨hrow.more (by rw [hv8, hgr]; simp), rfl, fun p hp => by
          simp at hp
          rcases hp with rfl | rfl | rfl
          ·exact RY.out
          ·exact RX.out
          ·exact RK9.out⟩
         (try rw [← hv8] at hHeld); rw [← hv8]; rw [← hgr]; clear hgr hv8 hb9 hrow; refine Tc 5 (fun K hK => ?_); go_simp; (go_at_call 20; refine (joinAllE_sum 3 [⟨ky, ⟨Ye, ye1, ye2⟩, ⟨Yk, yk1, yk2⟩, ⟨Yc, yc1, yc2⟩⟩, ⟨kx, ⟨Xe, xe1, xe2⟩, ⟨Xk, xk1, xk2⟩, ⟨Xc, xc1, xc2⟩⟩, ⟨(t, u), ⟨Ae, ne, ce⟩, ⟨Ak, nk, ck⟩, ⟨B9, m9, d9⟩⟩] (some ⟨gr, 0, none⟩) 3 v8 (by omega) RW.out ⟨Nat.le_trans HSUM.out.1 (by omega), HSUM.out.2⟩).mono ?_); rintro e v9 ⟨kg, z9, hj, _, Ge, ge1, ge2, Gk, gk1, gk2, Gc, gc1, gc2, rfl, how, hb9⟩
         obtain ⟨rfl, hall, hnn, hnc⟩ := hj (fun p hp => by
          simp at hp
          rcases hp with rfl | rfl | rfl
          ·exact JY.out
          ·exact JX.out
          ·exact JT.out)
         have HP : Hid (AllJ [ky, kx, (t, u)] kg ∧ nodes kg.1 ≤ 64 ∧ gc1 ≤ 1000) := ⟨hall, Nat.le_trans hnn HSUM.out.1, by rw [← how.len]; exact Nat.le_trans hnc HSUM.out.2⟩; have HN : Hid (NoC v9 (fun b => b ≠ gh) ⟨kg, ⟨Ge, ge1, ge2⟩, ⟨Gk, gk1, gk2⟩, ⟨Gc, gc1, gc2⟩⟩) := NoC.of_own how (fun b hb _ => by have h := HF.out.1; omega); clear hj hall hnn hnc how; have HKc := Lib.hid (HKc.out.later hb9); have R := Lib.hid (RdT.later R.out hb9); have RX := Lib.hid (RX.out.later hb9); have RY := Lib.hid (RY.out.later hb9); have RF := Lib.hid (RF.out.later hb9); have HBV := Lib.hid (HBV.out.trans (hb9.mono HBV.out.size)); have RK9 := Lib.hid (RK9.out.later hb9); have HZ := Lib.hid (HZ.out.later hb9); have HF := Lib.hid (HF.out.later hb9); have RW := Lib.hid (RW.out.later hb9); clear hb9; have z0 := HZ.out.c0; have z1 := HZ.out.c1; have z2 := HZ.out.c2; have m0 := HF.out.2 0; have m1 := HF.out.2 1; have m2 := HF.out.2 2
         clear hHeld; refine Th hK ?_ (fun hHeld => ?_)
         ·exact ⟨HKc.out.c0, HKc.out.c1, HKc.out.c2, HKc.out.c3, HKc.out.c4, HKc.out.c5, HKc.out.c6, HKc.out.c7, HKc.out.t8.c0, HKc.out.t8.c1, HKc.out.t8.c2, HKc.out.t8.c3, HKc.out.t8.c4, HKc.out.t8.c5, HKc.out.t8.c6, HKc.out.t8.c7, HKc.out.t8.t8.c0, HKc.out.t8.t8.c1, HKc.out.t8.t8.c2, HKc.out.t8.t8.c3⟩
         clear hK K; refine Tk 6 87 ?_; refine Tk 7 94 ?_; refine Tk 8 95 ?_; refine Tc 10 (fun K hK => ?_); go_simp; refine Th hK ?_ (fun hHeld2 => ?_)
         ·(try dsimp only)
          have h9 := HKc.out
          have h9 := h9.set (a := ⟨gh, 0, none⟩) hwg (fun x hx => by simp at hx; rcases hx with rfl | rfl | rfl | rfl | rfl | rfl | rfl | rfl | rfl | rfl | rfl | rfl | rfl | rfl | rfl | rfl | rfl | rfl | rfl | rfl <;> (dsimp only; omega)) (.slice Ge ge1 ge2)
          have h9 := h9.set (a := ⟨gh, 1, none⟩) hwg (fun x hx => by simp at hx; rcases hx with rfl | rfl | rfl | rfl | rfl | rfl | rfl | rfl | rfl | rfl | rfl | rfl | rfl | rfl | rfl | rfl | rfl | rfl | rfl | rfl <;> (dsimp only; omega)) (.slice Gk gk1 gk2)
          have h9 := h9.set (a := ⟨gh, 2, none⟩) hwg (fun x hx => by simp at hx; rcases hx with rfl | rfl | rfl | rfl | rfl | rfl | rfl | rfl | rfl | rfl | rfl | rfl | rfl | rfl | rfl | rfl | rfl | rfl | rfl | rfl <;> (dsimp only; omega)) (.slice Gc gc1 gc2)
          exact ⟨h9.c0, h9.c1, h9.c2, h9.c3, h9.c4, h9.c5, h9.c6, h9.c7, h9.t8.c0, h9.t8.c1, h9.t8.c2, h9.t8.c3, h9.t8.c4, h9.t8.c5, h9.t8.c6, h9.t8.c7, h9.t8.t8.c0, h9.t8.t8.c1, h9.t8.t8.c2, h9.t8.t8.c3⟩
         clear hK K hHeld; have hHeld := hHeld2; clear hHeld2; refine Tk 11 15 ?_; refine wpAnyH_done (by kernel_rfl) ?_ _; clear hHeld
         have HMID : Hid (MidJ wcgf gh ⟨kg, ⟨Ge, ge1, ge2⟩, ⟨Gk, gk1, gk2⟩, ⟨Gc, gc1, gc2⟩⟩ (((v9.setCell ⟨gh, 0, none⟩ (.slice Ge ge1 ge2)).setCell ⟨gh, 1, none⟩ (.slice Gk gk1 gk2)).setCell ⟨gh, 2, none⟩ (.slice Gc gc1 gc2))) := by
          obtain ⟨W9, hW9⟩ : ∃ W, W = (((v9.setCell ⟨gh, 0, none⟩ (.slice Ge ge1 ge2)).setCell ⟨gh, 1, none⟩ (.slice Gk gk1 gk2)).setCell ⟨gh, 2, none⟩ (.slice Gc gc1 gc2)) := ⟨_, rfl⟩; rw [← hW9]
          have hb : Below wcgf.heap.size wcgf W9 := by
           rw [hW9]; exact (((HBV.out.setCell (p := ⟨gh, 0, none⟩) hvg _).setCell (p := ⟨gh, 1, none⟩) hvg _).setCell (p := ⟨gh, 2, none⟩) hvg _)
          refine ⟨(HN.out.keep (by rw [hW9, cells3]; exact Nat.le_refl _) (fun b hb _ => by rw [hW9]; exact cells3_at b hb)).rd, ?_⟩
          refine (((Kept.nil_of hb).cons_of ?_).cons_of ?_).cons_of ?_ <;> (rw [hW9]; go_simp)
         clear z0 z1 z2 m0 m1 m2; go_wp2_with fail; go_meet; exact ⟨gh, ⟨kg, ⟨Ge, ge1, ge2⟩, ⟨Gk, gk1, gk2⟩, ⟨Gc, gc1, gc2⟩⟩, rfl, rfl, HMID.out, HP.out⟩
       ·go_simp
        clear hHeld; refine Th hK ?_ (fun hHeld => ?_)
        ·exact ⟨(HKc.out.alloc _).c0, (HKc.out.alloc _).c1, (HKc.out.alloc _).c2, (HKc.out.alloc _).c3, (HKc.out.alloc _).c4, (HKc.out.alloc _).c5, (HKc.out.alloc _).c6, (HKc.out.alloc _).c7, (HKc.out.alloc _).t8.c0, (HKc.out.alloc _).t8.c1, (HKc.out.alloc _).t8.c2, (HKc.out.alloc _).t8.c3, (HKc.out.alloc _).t8.c4, (HKc.out.alloc _).t8.c5, (HKc.out.alloc _).t8.c6, (HKc.out.alloc _).t8.c7, (HKc.out.alloc _).t8.t8.c0, (HKc.out.alloc _).t8.t8.c1, (HKc.out.alloc _).t8.t8.c2, (HKc.out.alloc _).t8.t8.c3⟩
        clear hK K; obtain ⟨gh, hgh⟩ : ∃ g, g = v5.heap.size := ⟨_, rfl⟩; obtain ⟨v6, hv6⟩ : ∃ W, W = v5.alloc (.cells #[.slice none 0 0, .slice none 0 0, .slice none 0 0] 33) := ⟨_, rfl⟩
        have hb9 : Below v5.heap.size v5 v6 := by rw [hv6]; exact Dt.box_below _ _ _
        have hvg : wcgf.heap.size ≤ gh := by rw [hgh]; exact HBV.out.size
        have hwg : w.heap.size ≤ gh := by rw [hgh]; exact HKc.out.below.size
        have hngf : gf ≠ gh := by have h := World.block_lt_of_cell? v5 _ HKc.out.c0; dsimp only at h; omega
        have hnh : h ≠ gh := by have h := World.block_lt_of_cell? v5 _ HKc.out.c3; dsimp only at h; omega
        have hng : g ≠ gh := by have h := World.block_lt_of_cell? v5 _ HKc.out.c6; dsimp only at h; omega
        have hnp : p ≠ gh := by have h := World.block_lt_of_cell? v5 _ HKc.out.t8.c1; dsimp only at h; omega
        have hnq : q ≠ gh := by have h := World.block_lt_of_cell? v5 _ HKc.out.t8.c3; dsimp only at h; omega
        have hns : s ≠ gh := by have h := World.block_lt_of_cell? v5 _ HKc.out.t8.c6; dsimp only at h; omega
        have b0 : v6.cell? ⟨gh, 0, none⟩ = some (.slice none 0 0) := by rw [hv6, hgh]; go_simp
        have b1 : v6.cell? ⟨gh, 1, none⟩ = some (.slice none 0 0) := by rw [hv6, hgh]; go_simp
        have b2 : v6.cell? ⟨gh, 2, none⟩ = some (.slice none 0 0) := by rw [hv6, hgh]; go_simp
        have HKc := Lib.hid (HKc.out.later hb9); have R := Lib.hid (RdT.later R.out hb9); have RX := Lib.hid (RX.out.later hb9); have RY := Lib.hid (RY.out.later hb9); have RF := Lib.hid (RF.out.later hb9); have HBV := Lib.hid (HBV.out.trans (hb9.mono HBV.out.size)); have HZ : Hid (Kept [(⟨gh, 0, none⟩, .slice none 0 0), (⟨gh, 1, none⟩, .slice none 0 0), (⟨gh, 2, none⟩, .slice none 0 0)] wcgf v6) := (((Kept.nil_of HBV.out).cons_of b2).cons_of b1).cons_of b0; have HF : Hid (Free gh v6) := ⟨by rw [hv6, hgh]; simp, fun j => by rw [hv6, hgh]; go_simp⟩; have hlt9 : gh < v6.heap.size := HF.out.1; (try rw [← hv6] at hHeld); rw [← hv6]; rw [← hgh]; clear hgh hv6 hb9 b0 b1 b2; refine Tc 3 (fun K hK => ?_); go_simp; (go_at_call 19; refine (refknown_any t Ae Ak ne nk ce ck u m9 v6 HT.out (by have := N.out; omega) R.out HU.out.1 HU.out.2.1 (by have := HU.out.2.2; omega)).mono ?_)
        rintro e v7 ⟨B9, d9, rfl, hro, hb9⟩; have RK9 : Hid (RdP v7 ⟨(t, u), ⟨Ae, ne, ce⟩, ⟨Ak, nk, ck⟩, ⟨B9, m9, d9⟩⟩) := ⟨RdT.later R.out hb9, HU.out.2.1, hro.rd⟩; clear hro; have HKc := Lib.hid (HKc.out.later hb9); have R := Lib.hid (RdT.later R.out hb9); have RX := Lib.hid (RX.out.later hb9); have RY := Lib.hid (RY.out.later hb9); have RF := Lib.hid (RF.out.later hb9); have HBV := Lib.hid (HBV.out.trans (hb9.mono HBV.out.size)); have HZ := Lib.hid (HZ.out.later hb9); have HF := Lib.hid (HF.out.later hb9); clear hb9; have HSUM := HSUM B9 d9; clear hHeld; refine Th hK ?_ (fun hHeld => ?_)
        ·exact ⟨HKc.out.c0, HKc.out.c1, HKc.out.c2, HKc.out.c3, HKc.out.c4, HKc.out.c5, HKc.out.c6, HKc.out.c7, HKc.out.t8.c0, HKc.out.t8.c1, HKc.out.t8.c2, HKc.out.t8.c3, HKc.out.t8.c4, HKc.out.t8.c5, HKc.out.t8.c6, HKc.out.t8.c7, HKc.out.t8.t8.c0, HKc.out.t8.t8.c1, HKc.out.t8.t8.c2, HKc.out.t8.t8.c3⟩
        clear hK K; refine Tc 4 (fun K hK => ?_); go_simp; clear hHeld; refine Th hK ?_ (fun hHeld => ?_)
        ·exact ⟨(HKc.out.alloc _).c0, (HKc.out.alloc _).c1, (HKc.out.alloc _).c2, (HKc.out.alloc _).c3, (HKc.out.alloc _).c4, (HKc.out.alloc _).c5, (HKc.out.alloc _).c6, (HKc.out.alloc _).c7, (HKc.out.alloc _).t8.c0, (HKc.out.alloc _).t8.c1, (HKc.out.alloc _).t8.c2, (HKc.out.alloc _).t8.c3, (HKc.out.alloc _).t8.c4, (HKc.out.alloc _).t8.c5, (HKc.out.alloc _).t8.c6, (HKc.out.alloc _).t8.c7, (HKc.out.alloc _).t8.t8.c0, (HKc.out.alloc _).t8.t8.c1, (HKc.out.alloc _).t8.t8.c2, (HKc.out.alloc _).t8.t8.c3⟩
        clear hK K; obtain ⟨gr, hgr⟩ : ∃ g, g = v7.heap.size := ⟨_, rfl⟩; obtain ⟨v8, hv8⟩ : ∃ W, W = v7.alloc (.cells #[.slice Ye ye1 ye2, .slice Yk yk1 yk2, .slice Yc yc1 yc2, .slice Xe xe1 xe2, .slice Xk xk1 xk2, .slice Xc xc1 xc2, .slice Ae ne ce, .slice Ak nk ck, .slice B9 m9 d9] 33) := ⟨_, rfl⟩
        have hb9 : Below v7.heap.size v7 v8 := by rw [hv8]; exact Dt.box_below _ _ _
        have hrow := rd_rowP v7 [⟨ky, ⟨Ye, ye1, ye2⟩, ⟨Yk, yk1, yk2⟩, ⟨Yc, yc1, yc2⟩⟩, ⟨kx, ⟨Xe, xe1, xe2⟩, ⟨Xk, xk1, xk2⟩, ⟨Xc, xc1, xc2⟩⟩, ⟨(t, u), ⟨Ae, ne, ce⟩, ⟨Ak, nk, ck⟩, ⟨B9, m9, d9⟩⟩] #[.slice Ye ye1 ye2, .slice Yk yk1 yk2, .slice Yc yc1 yc2, .slice Xe xe1 xe2, .slice Xk xk1 xk2, .slice Xc xc1 xc2, .slice Ae ne ce, .slice Ak nk ck, .slice B9 m9 d9] 3 rfl rfl; rw [← hv8, ← hgr] at hrow; have HKc := Lib.hid (HKc.out.later hb9); have R := Lib.hid (RdT.later R.out hb9); have RX := Lib.hid (RX.out.later hb9); have RY := Lib.hid (RY.out.later hb9); have RF := Lib.hid (RF.out.later hb9); have HBV := Lib.hid (HBV.out.trans (hb9.mono HBV.out.size)); have HZ := Lib.hid (HZ.out.later hb9); have HF := Lib.hid (HF.out.later hb9); have RK9 := Lib.hid (RK9.out.later hb9)
        have RW : Hid (RowP v8 (some ⟨gr, 0, none⟩) 3 3 [⟨ky, ⟨Ye, ye1, ye2⟩, ⟨Yk, yk1, yk2⟩, ⟨Yc, yc1, yc2⟩⟩, ⟨kx, ⟨Xe, xe1, xe2⟩, ⟨Xk, xk1, xk2⟩, ⟨Xc, xc1, xc2⟩⟩, ⟨(t, u), ⟨Ae, ne, ce⟩, ⟨Ak, nk, ck⟩, ⟨B9, m9, d9⟩⟩]) := ⟨hrow.more (by rw [hv8, hgr]; simp), rfl, fun p hp => by
         simp at hp
         rcases hp with rfl | rfl | rfl
         ·exact RY.out
         ·exact RX.out
         ·exact RK9.out⟩
        (try rw [← hv8] at hHeld); rw [← hv8]; rw [← hgr]; clear hgr hv8 hb9 hrow; refine Tc 5 (fun K hK => ?_); go_simp; (go_at_call 20; refine (joinAllE_sum 3 [⟨ky, ⟨Ye, ye1, ye2⟩, ⟨Yk, yk1, yk2⟩, ⟨Yc, yc1, yc2⟩⟩, ⟨kx, ⟨Xe, xe1, xe2⟩, ⟨Xk, xk1, xk2⟩, ⟨Xc, xc1, xc2⟩⟩, ⟨(t, u), ⟨Ae, ne, ce⟩, ⟨Ak, nk, ck⟩, ⟨B9, m9, d9⟩⟩] (some ⟨gr, 0, none⟩) 3 v8 (by omega) RW.out ⟨Nat.le_trans HSUM.out.1 (by omega), HSUM.out.2⟩).mono ?_); rintro e v9 ⟨kg, z9, hj, _, Ge, ge1, ge2, Gk, gk1, gk2, Gc, gc1, gc2, rfl, how, hb9⟩
        obtain ⟨rfl, hall, hnn, hnc⟩ := hj (fun p hp => by
         simp at hp
         rcases hp with rfl | rfl | rfl
         ·exact JY.out
         ·exact JX.out
         ·exact JT.out)
        have HP : Hid (AllJ [ky, kx, (t, u)] kg ∧ nodes kg.1 ≤ 64 ∧ gc1 ≤ 1000) := ⟨hall, Nat.le_trans hnn HSUM.out.1, by rw [← how.len]; exact Nat.le_trans hnc HSUM.out.2⟩; have HN : Hid (NoC v9 (fun b => b ≠ gh) ⟨kg, ⟨Ge, ge1, ge2⟩, ⟨Gk, gk1, gk2⟩, ⟨Gc, gc1, gc2⟩⟩) := NoC.of_own how (fun b hb _ => by have h := HF.out.1; omega); clear hj hall hnn hnc how; have HKc := Lib.hid (HKc.out.later hb9); have R := Lib.hid (RdT.later R.out hb9); have RX := Lib.hid (RX.out.later hb9); have RY := Lib.hid (RY.out.later hb9); have RF := Lib.hid (RF.out.later hb9); have HBV := Lib.hid (HBV.out.trans (hb9.mono HBV.out.size)); have HZ := Lib.hid (HZ.out.later hb9); have HF := Lib.hid (HF.out.later hb9); have RK9 := Lib.hid (RK9.out.later hb9); have RW := Lib.hid (RW.out.later hb9); clear hb9; have z0 := HZ.out.c0; have z1 := HZ.out.c1; have z2 := HZ.out.c2; have m0 := HF.out.2 0; have m1 := HF.out.2 1; have m2 := HF.out.2 2
        clear hHeld; refine Th hK ?_ (fun hHeld => ?_)
        ·exact ⟨HKc.out.c0, HKc.out.c1, HKc.out.c2, HKc.out.c3, HKc.out.c4, HKc.out.c5, HKc.out.c6, HKc.out.c7, HKc.out.t8.c0, HKc.out.t8.c1, HKc.out.t8.c2, HKc.out.t8.c3, HKc.out.t8.c4, HKc.out.t8.c5, HKc.out.t8.c6, HKc.out.t8.c7, HKc.out.t8.t8.c0, HKc.out.t8.t8.c1, HKc.out.t8.t8.c2, HKc.out.t8.t8.c3⟩
        clear hK K; refine Tk 6 87 ?_; refine Tk 7 94 ?_; refine Tk 8 95 ?_; refine Tc 10 (fun K hK => ?_); go_simp; refine Th hK ?_ (fun hHeld2 => ?_)
        ·(try dsimp only)
         have h9 := HKc.out
         have h9 := h9.set (a := ⟨gh, 0, none⟩) hwg (fun x hx => by simp at hx; rcases hx with rfl | rfl | rfl | rfl | rfl | rfl | rfl | rfl | rfl | rfl | rfl | rfl | rfl | rfl | rfl | rfl | rfl | rfl | rfl | rfl <;> (dsimp only; omega)) (.slice Ge ge1 ge2)
         have h9 := h9.set (a := ⟨gh, 1, none⟩) hwg (fun x hx => by simp at hx; rcases hx with rfl | rfl | rfl | rfl | rfl | rfl | rfl | rfl | rfl | rfl | rfl | rfl | rfl | rfl | rfl | rfl | rfl | rfl | rfl | rfl <;> (dsimp only; omega)) (.slice Gk gk1 gk2)
         have h9 := h9.set (a := ⟨gh, 2, none⟩) hwg (fun x hx => by simp at hx; rcases hx with rfl | rfl | rfl | rfl | rfl | rfl | rfl | rfl | rfl | rfl | rfl | rfl | rfl | rfl | rfl | rfl | rfl | rfl | rfl | rfl <;> (dsimp only; omega)) (.slice Gc gc1 gc2)
         exact ⟨h9.c0, h9.c1, h9.c2, h9.c3, h9.c4, h9.c5, h9.c6, h9.c7, h9.t8.c0, h9.t8.c1, h9.t8.c2, h9.t8.c3, h9.t8.c4, h9.t8.c5, h9.t8.c6, h9.t8.c7, h9.t8.t8.c0, h9.t8.t8.c1, h9.t8.t8.c2, h9.t8.t8.c3⟩
        clear hK K hHeld; have hHeld := hHeld2; clear hHeld2; refine Tk 11 15 ?_; refine wpAnyH_done (by kernel_rfl) ?_ _; clear hHeld
        have HMID : Hid (MidJ wcgf gh ⟨kg, ⟨Ge, ge1, ge2⟩, ⟨Gk, gk1, gk2⟩, ⟨Gc, gc1, gc2⟩⟩ (((v9.setCell ⟨gh, 0, none⟩ (.slice Ge ge1 ge2)).setCell ⟨gh, 1, none⟩ (.slice Gk gk1 gk2)).setCell ⟨gh, 2, none⟩ (.slice Gc gc1 gc2))) := by
         obtain ⟨W9, hW9⟩ : ∃ W, W = (((v9.setCell ⟨gh, 0, none⟩ (.slice Ge ge1 ge2)).setCell ⟨gh, 1, none⟩ (.slice Gk gk1 gk2)).setCell ⟨gh, 2, none⟩ (.slice Gc gc1 gc2)) := ⟨_, rfl⟩; rw [← hW9]
         have hb : Below wcgf.heap.size wcgf W9 := by
          rw [hW9]; exact (((HBV.out.setCell (p := ⟨gh, 0, none⟩) hvg _).setCell (p := ⟨gh, 1, none⟩) hvg _).setCell (p := ⟨gh, 2, none⟩) hvg _)
         refine ⟨(HN.out.keep (by rw [hW9, cells3]; exact Nat.le_refl _) (fun b hb _ => by rw [hW9]; exact cells3_at b hb)).rd, ?_⟩
         refine (((Kept.nil_of hb).cons_of ?_).cons_of ?_).cons_of ?_ <;> (rw [hW9]; go_simp)
        clear z0 z1 z2 m0 m1 m2; go_wp2_with fail; go_meet; exact ⟨gh, ⟨kg, ⟨Ge, ge1, ge2⟩, ⟨Gk, gk1, gk2⟩, ⟨Gc, gc1, gc2⟩⟩, rfl, rfl, HMID.out, HP.out⟩
      case rest =>
       obtain ⟨wcgh, hwcgh⟩ : ∃ W, W = wc := ⟨_, rfl⟩; subst hwcgh; obtain ⟨gh, ⟨kg, ⟨Ge, ge1, ge2⟩, ⟨Gk, gk1, gk2⟩, ⟨Gc, gc1, gc2⟩⟩, rfl, rfl, hmid, hprop⟩ := hcut; obtain ⟨hrp, hkp⟩ := hmid.out; have hb9 := hkp.below; have HKc := Lib.hid (HKc.out.later hb9); have R := Lib.hid (RdT.later R.out hb9); have RX := Lib.hid (RX.out.later hb9); have RY := Lib.hid (RY.out.later hb9); have RF := Lib.hid (RF.out.later hb9); clear hb9; have RG := Lib.hid hrp; have PG : Hid (AllJ [ky, kx, (t, u)] kg ∧ nodes kg.1 ≤ 64 ∧ gc1 ≤ 1000) := hprop.out; have HKc : Hid (Kept [(⟨gh, 0, none⟩, .slice Ge ge1 ge2), (⟨gh, 1, none⟩, .slice Gk gk1 gk2), (⟨gh, 2, none⟩, .slice Gc gc1 gc2), (⟨gf, 0, none⟩, .slice Fe fe1 fe2), (⟨gf, 1, none⟩, .slice Fk fk1 fk2), (⟨gf, 2, none⟩, .slice Fc fc1 fc2), (⟨h, 0, none⟩, .slice Ye ye1 ye2), (⟨h, 1, none⟩, .slice Yk yk1 yk2), (⟨h, 2, none⟩, .slice Yc yc1 yc2), (⟨g, 0, none⟩, .slice Xe xe1 xe2), (⟨g, 1, none⟩, .slice Xk xk1 xk2), (⟨g, 2, none⟩, .slice Xc xc1 xc2), (⟨p, 0, none⟩, .slice Ae ne ce), (⟨p, 1, none⟩, .slice Ak nk ck), (⟨q, 0, none⟩, .string t0), (⟨q, 1, none⟩, .string t1), (⟨q, 2, none⟩, .string t2), (⟨s, 0, none⟩, .int .i64 a), (⟨s, 1, none⟩, .int .i64 n), (⟨s, 2, none⟩, .int .i64 b), (⟨s, 3, none⟩, .int .i64 m), (⟨s, 4, none⟩, .int .i64 c), (⟨s, 5, none⟩, .int .i64 j)] w wcgh) := (((HKc.out.cons_of hkp.c2).cons_of hkp.c1).cons_of hkp.c0)
       clear hmid hprop hrp hkp; clear HSUM; have JF : Hid (RK kf) := PF.out.1.right; have EH : Hid (kf = kg) := PF.out.1.reverse.eq PG.out.1
       have HST : Hid (∀ p q, Cs.st kf p q = mx (Cs.st (t, u) p q) (mx (Cs.st kx p q) (Cs.st ky p q))) := fun p q => by
        rw [PF.out.1.st p q]; show mx _ (mx _ (mx _ none)) = _; rw [none_mx]
       have EX : Hid ((oneT ⟨a, n, t0, 0⟩, kx.2) = kx) := Prod.ext KX.out.symm rfl; have EY : Hid ((oneT ⟨b, m, t1, 0⟩, ky.2) = ky) := Prod.ext KY.out.symm rfl
       have HES : Hid (∀ x, x ∈ kf.1.es ↔ x = ⟨a, n, t0, 0⟩ ∨ x = ⟨b, m, t1, 0⟩) := fun x => by
        refine reg_both (t := t) (u := u) (w := u8) (v := kx.2) (v' := ky.2) (e := ⟨a, n, t0, 0⟩) (e' := ⟨b, m, t1, 0⟩) (r := kf) HT.out HU.out.1 H8.out.1 HE0.out HE1.out (check_iff.1 HCK0.out).2.2 (check_iff.1 HCK1.out).2.2 HNE0.out VX.out VY.out JF.out (fun p q => ?_) x; rw [EX.out, EY.out, HST.out]
       obtain ⟨ms, hms, hml⟩ := sort_ex [t0, t1]; obtain ⟨qs, hqs⟩ : ∃ q, ms.length = q := ⟨_, rfl⟩; have HMS : Hid (SortIs [t0, t1] ms) := hms; have HQS : Hid (ms.length = qs ∧ qs ≤ 2) := ⟨hqs, by rw [← hqs]; exact hml⟩
       have HVM : Hid ((Tr.rightB 5 kf.1 = true → SortIs (kf.1.es.map E.s) ms) ∧ (Tr.rightB 5 kf.1 = false → ms = [])) := by
        refine ⟨fun _ => ⟨HMS.out.rise, fun s => ?_⟩, fun h => (by rw [Tr.rightB_iff.2 JF.out.tree] at h; cases h)⟩; rw [HMS.out.mem, List.mem_map]; constructor
        ·intro h
         simp only [List.mem_cons, List.not_mem_nil, or_false] at h
         rcases h with rfl | rfl
         ·exact ⟨_, (HES.out _).2 (.inl rfl), rfl⟩
         ·exact ⟨_, (HES.out _).2 (.inr rfl), rfl⟩
        ·rintro ⟨x, hx, rfl⟩
         rcases (HES.out x).1 hx with rfl | rfl
         ·simp
         ·simp
       have HNI : Hid ((c, j) ∉ dl kf.1) := by
        refine not_in_all (c := (t, u)) (x := kx) (y := ky) (q := (c, j)) ?_ ?_ ?_ JF.out HST.out
        ·show hasC u c j = false
         rw [has_dl HT.out HU.out.1, decide_eq_false (check_iff.1 HCK2.out).2.2]
        ·exact own_not HT.out H8.out.1 HD0.out VX.out (check_iff.1 HCK2.out).2.2 (fun h => HNE1.out ⟨h.1.symm, h.2.symm⟩)
        ·exact own_not HT.out H8.out.1 HD1.out VY.out (check_iff.1 HCK2.out).2.2 (fun h => HNE2.out ⟨h.1.symm, h.2.symm⟩)
       have HMF : Hid (wB kf.1 t2 c j = true) := wB_iff.2 ⟨check_iff.2 ⟨JF.out.tree, HD2.out, HNI.out⟩, (wB_iff.1 HM2.out).2⟩; have NF : Hid (nodes kf.1 ≤ 64) := PF.out.2.1; clear hms hml hqs; have c0 := HKc.out.c0; have c1 := HKc.out.c1; have c2 := HKc.out.c2; have c3 := HKc.out.c3; have c4 := HKc.out.c4; have c5 := HKc.out.c5; have c6 := HKc.out.c6; have c7 := HKc.out.c7; have c8 := HKc.out.t8.c0; have c9 := HKc.out.t8.c1; have c10 := HKc.out.t8.c2; have c11 := HKc.out.t8.c3; have c12 := HKc.out.t8.c4; have c13 := HKc.out.t8.c5; have c14 := HKc.out.t8.c6; have c15 := HKc.out.t8.c7; have c16 := HKc.out.t8.t8.c0; have c17 := HKc.out.t8.t8.c1; have c18 := HKc.out.t8.t8.c2; have c19 := HKc.out.t8.t8.c3; have c20 := HKc.out.t8.t8.c4; have c21 := HKc.out.t8.t8.c5; have c22 := HKc.out.t8.t8.c6; go_wp2_with fail; clear c0 c1 c2 c3 c4 c5 c6 c7 c8 c9 c10 c11 c12 c13 c14 c15 c16 c17 c18 c19 c20 c21 c22
       refine wp_region_held_drew (S := fun W => W.cell? ⟨gh, 0, none⟩ = some (.slice Ge ge1 ge2) ∧ W.cell? ⟨gh, 1, none⟩ = some (.slice Gk gk1 gk2) ∧ W.cell? ⟨gh, 2, none⟩ = some (.slice Gc gc1 gc2) ∧ W.cell? ⟨gf, 0, none⟩ = some (.slice Fe fe1 fe2) ∧ W.cell? ⟨gf, 1, none⟩ = some (.slice Fk fk1 fk2) ∧ W.cell? ⟨gf, 2, none⟩ = some (.slice Fc fc1 fc2) ∧ W.cell? ⟨h, 0, none⟩ = some (.slice Ye ye1 ye2) ∧ W.cell? ⟨h, 1, none⟩ = some (.slice Yk yk1 yk2) ∧ W.cell? ⟨h, 2, none⟩ = some (.slice Yc yc1 yc2) ∧ W.cell? ⟨g, 0, none⟩ = some (.slice Xe xe1 xe2) ∧ W.cell? ⟨g, 1, none⟩ = some (.slice Xk xk1 xk2) ∧ W.cell? ⟨g, 2, none⟩ = some (.slice Xc xc1 xc2) ∧ W.cell? ⟨p, 0, none⟩ = some (.slice Ae ne ce) ∧ W.cell? ⟨p, 1, none⟩ = some (.slice Ak nk ck) ∧ W.cell? ⟨q, 0, none⟩ = some (.string t0) ∧ W.cell? ⟨q, 1, none⟩ = some (.string t1) ∧ W.cell? ⟨q, 2, none⟩ = some (.string t2) ∧ W.cell? ⟨s, 0, none⟩ = some (.int .i64 a) ∧ W.cell? ⟨s, 1, none⟩ = some (.int .i64 n) ∧ W.cell? ⟨s, 2, none⟩ = some (.int .i64 b) ∧ W.cell? ⟨s, 3, none⟩ = some (.int .i64 m) ∧ W.cell? ⟨s, 4, none⟩ = some (.int .i64 c) ∧ W.cell? ⟨s, 5, none⟩ = some (.int .i64 j)) (by kernel_rfl) (by have h9 := HKc.out.drew; exact ⟨h9.c0, h9.c1, h9.c2, h9.c3, h9.c4, h9.c5, h9.c6, h9.c7, h9.t8.c0, h9.t8.c1, h9.t8.c2, h9.t8.c3, h9.t8.c4, h9.t8.c5, h9.t8.c6, h9.t8.c7, h9.t8.t8.c0, h9.t8.t8.c1, h9.t8.t8.c2, h9.t8.t8.c3, h9.t8.t8.c4, h9.t8.t8.c5, h9.t8.t8.c6⟩) (fun hHeld => ?_)
       obtain ⟨v5, hv5⟩ : ∃ v, v = wcgh.drew := ⟨_, rfl⟩
       have hb9 : Below wcgh.heap.size wcgh v5 := by rw [hv5]; exact (Below.refl _ _).drew
       have HKc := Lib.hid (HKc.out.later hb9); have R := Lib.hid (RdT.later R.out hb9); have RX := Lib.hid (RX.out.later hb9); have RY := Lib.hid (RY.out.later hb9); have RF := Lib.hid (RF.out.later hb9); have RG := Lib.hid (RG.out.later hb9); clear hb9; rw [← hv5] at hHeld ⊢; clear hv5; refine Tk 0 96 ?_; refine Tk 1 97 ?_; refine Tk 2 98 ?_; refine Tk 3 99 ?_; refine Tk 4 100 ?_; refine Tk 5 101 ?_; refine Tk 6 102 ?_; refine Tk 7 103 ?_; refine Tk 8 104 ?_; refine Tk 9 105 ?_; refine Tk 10 106 ?_; refine Tk 11 107 ?_; refine Tk 12 108 ?_; refine Tk 13 109 ?_; refine Tk 14 110 ?_; refine Tk 15 111 ?_; refine Tk 16 112 ?_; refine Tc 17 (fun K hK => ?_); go_simp; (go_at_call 21; refine (sameK_any kf.1 kg.1 kf.2 kg.2 Fe Fk Fc Ge Gk Gc fe1 fk1 fe2 fk2 fc1 fc2 ge1 gk1 ge2 gk2 gc1 gc2 v5 (by have := NF.out; omega) RF.out.len PF.out.2.2 RF.out.tree RF.out.ctx (by have := PG.out.2.1; omega) RG.out.len PG.out.2.2 RG.out.tree RG.out.ctx).mono ?_)
       rw [show sameKB (kf.1, kf.2) (kg.1, kg.2) = true from same_true JF.out EH.out]; rintro e v6 ⟨rfl, hb9⟩; have HKc := Lib.hid (HKc.out.later hb9); have R := Lib.hid (RdT.later R.out hb9); have RX := Lib.hid (RX.out.later hb9); have RY := Lib.hid (RY.out.later hb9); have RF := Lib.hid (RF.out.later hb9); have RG := Lib.hid (RG.out.later hb9); clear hb9; clear hHeld; refine Th hK ?_ (fun hHeld => ?_)
       ·exact ⟨HKc.out.c0, HKc.out.c1, HKc.out.c2, HKc.out.c3, HKc.out.c4, HKc.out.c5, HKc.out.c6, HKc.out.c7, HKc.out.t8.c0, HKc.out.t8.c1, HKc.out.t8.c2, HKc.out.t8.c3, HKc.out.t8.c4, HKc.out.t8.c5, HKc.out.t8.c6, HKc.out.t8.c7, HKc.out.t8.t8.c0, HKc.out.t8.t8.c1, HKc.out.t8.t8.c2, HKc.out.t8.t8.c3, HKc.out.t8.t8.c4, HKc.out.t8.t8.c5, HKc.out.t8.t8.c6⟩
       clear hK K; refine Tk 18 114 ?_; refine Tk 19 115 ?_; refine Tk 20 116 ?_; refine Tk 21 117 ?_; refine Tk 22 118 ?_; refine Tk 24 120 ?_; refine Tc 23 (fun K hK => ?_); go_simp; (go_at_call 17; refine (rvalues_any kf.1 Fe Fk fe1 fk1 fe2 fk2 v6 ms qs HVM.out HQS.out.1 (LenT.few (by have := NF.out; omega)) (by have := NF.out; omega) RF.out.tree).mono ?_); rintro e v7 ⟨Vl, vc, rfl, hro, hb9⟩; have RV := hro; clear hro; have HKc := Lib.hid (HKc.out.later hb9); have R := Lib.hid (RdT.later R.out hb9); have RX := Lib.hid (RX.out.later hb9); have RY := Lib.hid (RY.out.later hb9); have RF := Lib.hid (RF.out.later hb9); have RG := Lib.hid (RG.out.later hb9); clear hb9; clear hHeld; refine Th hK ?_ (fun hHeld => ?_)
       ·exact ⟨HKc.out.c0, HKc.out.c1, HKc.out.c2, HKc.out.c3, HKc.out.c4, HKc.out.c5, HKc.out.c6, HKc.out.c7, HKc.out.t8.c0, HKc.out.t8.c1, HKc.out.t8.c2, HKc.out.t8.c3, HKc.out.t8.c4, HKc.out.t8.c5, HKc.out.t8.c6, HKc.out.t8.c7, HKc.out.t8.t8.c0, HKc.out.t8.t8.c1, HKc.out.t8.t8.c2, HKc.out.t8.t8.c3, HKc.out.t8.t8.c4, HKc.out.t8.t8.c5, HKc.out.t8.t8.c6⟩
       clear hK K; refine Tc 25 (fun K hK => ?_); go_simp; (go_at_call 22; refine (refsorted_any [t0, t1] ms 2 qs (some ⟨q, 0, none⟩) 3 v7 HMS.out HQS.out.1 (by have := HQS.out.2; omega) (by omega) (rd_cells2 (by omega) (World.block_lt_of_cell? _ _ HKc.out.t8.c6) HKc.out.t8.c6 HKc.out.t8.c7)).mono ?_); rintro e v8 ⟨Sl, sc, rfl, hro, hb9⟩; have RS := hro; clear hro; have HKc := Lib.hid (HKc.out.later hb9); have R := Lib.hid (RdT.later R.out hb9); have RX := Lib.hid (RX.out.later hb9); have RY := Lib.hid (RY.out.later hb9); have RF := Lib.hid (RF.out.later hb9); have RG := Lib.hid (RG.out.later hb9); have RV := Lib.hid (RV.out.later hb9); clear hb9; clear hHeld; refine Th hK ?_ (fun hHeld => ?_)
       ·exact ⟨HKc.out.c0, HKc.out.c1, HKc.out.c2, HKc.out.c3, HKc.out.c4, HKc.out.c5, HKc.out.c6, HKc.out.c7, HKc.out.t8.c0, HKc.out.t8.c1, HKc.out.t8.c2, HKc.out.t8.c3, HKc.out.t8.c4, HKc.out.t8.c5, HKc.out.t8.c6, HKc.out.t8.c7, HKc.out.t8.t8.c0, HKc.out.t8.t8.c1, HKc.out.t8.t8.c2, HKc.out.t8.t8.c3, HKc.out.t8.t8.c4, HKc.out.t8.t8.c5, HKc.out.t8.t8.c6⟩
       clear hK K; refine Tc 26 (fun K hK => ?_); go_simp; (go_at_call 16; refine (refalike_any ms ms qs qs Vl Sl vc sc v8 (by have := HQS.out.2; omega) RV.out RS.out true (decide_eq_true rfl)).mono ?_); rintro e v9 ⟨rfl, hb9⟩; have HKc := Lib.hid (HKc.out.later hb9); have R := Lib.hid (RdT.later R.out hb9); have RX := Lib.hid (RX.out.later hb9); have RY := Lib.hid (RY.out.later hb9); have RF := Lib.hid (RF.out.later hb9); have RG := Lib.hid (RG.out.later hb9); have RV := Lib.hid (RV.out.later hb9); have RS := Lib.hid (RS.out.later hb9); clear hb9; clear hHeld; refine Th hK ?_ (fun hHeld => ?_)
       ·exact ⟨HKc.out.c0, HKc.out.c1, HKc.out.c2, HKc.out.c3, HKc.out.c4, HKc.out.c5, HKc.out.c6, HKc.out.c7, HKc.out.t8.c0, HKc.out.t8.c1, HKc.out.t8.c2, HKc.out.t8.c3, HKc.out.t8.c4, HKc.out.t8.c5, HKc.out.t8.c6, HKc.out.t8.c7, HKc.out.t8.t8.c0, HKc.out.t8.t8.c1, HKc.out.t8.t8.c2, HKc.out.t8.t8.c3, HKc.out.t8.t8.c4, HKc.out.t8.t8.c5, HKc.out.t8.t8.c6⟩
       clear hK K; refine Tk 27 123 ?_; refine Tk 28 124 ?_; refine wpAnyH_done (by kernel_rfl) ?_ _; clear hHeld; have c0 := HKc.out.c0; have c1 := HKc.out.c1; have c2 := HKc.out.c2; have c3 := HKc.out.c3; have c4 := HKc.out.c4; have c5 := HKc.out.c5; have c6 := HKc.out.c6; have c7 := HKc.out.c7; have c8 := HKc.out.t8.c0; have c9 := HKc.out.t8.c1; have c10 := HKc.out.t8.c2; have c11 := HKc.out.t8.c3; have c12 := HKc.out.t8.c4; have c13 := HKc.out.t8.c5; have c14 := HKc.out.t8.c6; have c15 := HKc.out.t8.c7; have c16 := HKc.out.t8.t8.c0; have c17 := HKc.out.t8.t8.c1; have c18 := HKc.out.t8.t8.c2; have c19 := HKc.out.t8.t8.c3; have c20 := HKc.out.t8.t8.c4; have c21 := HKc.out.t8.t8.c5; have c22 := HKc.out.t8.t8.c6; go_wp2_with fail; refine (rwrite_any kf.1 Fe Fk fe1 fk1 fe2 fk2 t2 c j v9 (LenT.few (by have := NF.out; omega)) (by have := NF.out; omega) RF.out.tree).mono ?_; rintro e v10 ⟨kz, zz, Ze, ze1, ze2, Zk, zk1, zk2, Zc, zc1, zc2, rfl, how, hz, hb9⟩
       have HKc := Lib.hid (HKc.out.later hb9); have R := Lib.hid (RdT.later R.out hb9); have RX := Lib.hid (RX.out.later hb9); have RY := Lib.hid (RY.out.later hb9); have RF := Lib.hid (RF.out.later hb9); have RG := Lib.hid (RG.out.later hb9); have RV := Lib.hid (RV.out.later hb9); have RS := Lib.hid (RS.out.later hb9); clear hb9; clear c0 c1 c2 c3 c4 c5 c6 c7 c8 c9 c10 c11 c12 c13 c14 c15 c16 c17 c18 c19 c20 c21 c22; have RZ := Lib.hid (RdP.of_own how.out); have ZZ := Lib.hid hz.out; clear how hz; obtain ⟨rfl, hk1, hna, u6, hu6, hpv⟩ := ZZ.out.1 HMF.out; have KZ : Hid (kz.1 = oneT ⟨c, j, t2, 0⟩) := hk1
       have BZ : Hid (zc1 ≤ 260) := by have := NF.out; unfold Hid; omega
       have VZ : Hid (PutC uniF u6 (oneC c j) kz.2) := hpv; have H6 : Hid (OfC (ownD kf.1) u6) := hu6; clear hk1 hna hu6 hpv
       have JZ : Hid (RK kz) := by
        have h : RK (oneT ⟨c, j, t2, 0⟩, kz.2) := right_one (right_oneT HE2.out) VZ.out.right (uni_self H6.out.right HD2.out VZ.out); rw [← KZ.out] at h; exact h
       obtain ⟨e, he⟩ : ∃ g, g = v10.heap.size := ⟨_, rfl⟩; obtain ⟨v11, hv11⟩ : ∃ W, W = v10.alloc (.cells #[.slice Ze ze1 ze2, .slice Zk zk1 zk2, .slice Zc zc1 zc2] 33) := ⟨_, rfl⟩
       have hb9 : Below v10.heap.size v10 v11 := by rw [hv11]; exact Dt.box_below _ _ _
       have b0 : v11.cell? ⟨e, 0, none⟩ = some (.slice Ze ze1 ze2) := by rw [hv11, he]; go_simp
       have b1 : v11.cell? ⟨e, 1, none⟩ = some (.slice Zk zk1 zk2) := by rw [hv11, he]; go_simp
       have b2 : v11.cell? ⟨e, 2, none⟩ = some (.slice Zc zc1 zc2) := by rw [hv11, he]; go_simp
       have HKc := Lib.hid (HKc.out.later hb9); have R := Lib.hid (RdT.later R.out hb9); have RX := Lib.hid (RX.out.later hb9); have RY := Lib.hid (RY.out.later hb9); have RF := Lib.hid (RF.out.later hb9); have RG := Lib.hid (RG.out.later hb9); have RV := Lib.hid (RV.out.later hb9); have RS := Lib.hid (RS.out.later hb9); have RZ := Lib.hid (RZ.out.later hb9); clear hb9; have HKc := Lib.hid (((HKc.out.cons_of b2).cons_of b1).cons_of b0); have He := Lib.hid he; have Hv11 := Lib.hid hv11; clear he hv11 b0 b1 b2; have c0 := HKc.out.c0; have c1 := HKc.out.c1; have c2 := HKc.out.c2; have c3 := HKc.out.c3; have c4 := HKc.out.c4; have c5 := HKc.out.c5; have c6 := HKc.out.c6; have c7 := HKc.out.c7; have c8 := HKc.out.t8.c0; have c9 := HKc.out.t8.c1; have c10 := HKc.out.t8.c2; have c11 := HKc.out.t8.c3; have c12 := HKc.out.t8.c4; have c13 := HKc.out.t8.c5; have c14 := HKc.out.t8.c6; have c15 := HKc.out.t8.c7
       have c16 := HKc.out.t8.t8.c0; have c17 := HKc.out.t8.t8.c1; have c18 := HKc.out.t8.t8.c2; have c19 := HKc.out.t8.t8.c3; have c20 := HKc.out.t8.t8.c4; have c21 := HKc.out.t8.t8.c5; have c22 := HKc.out.t8.t8.c6; have c23 := HKc.out.t8.t8.c7; have c24 := HKc.out.t8.t8.t8.c0; have c25 := HKc.out.t8.t8.t8.c1; rw [Hv11.out] at c0 c1 c2 c3 c4 c5 c6 c7 c8 c9 c10 c11 c12 c13 c14 c15 c16 c17 c18 c19 c20 c21 c22 c23 c24 c25; rw [He.out] at c0 c1 c2; go_wp2_with fail; rw [← He.out, ← Hv11.out]; refine (joinE_any kf.1 kz.1 kf.2 kz.2 Fe Fk Fc Ze Zk Zc fe1 fk1 fe2 fk2 fc1 fc2 ze1 zk1 ze2 zk2 zc1 zc2 v11 (by have := NF.out; omega) RF.out.len PF.out.2.2 RF.out.tree RF.out.ctx (by rw [KZ.out, nodes_one]; omega) RZ.out.len (by have := BZ.out; omega) RZ.out.tree RZ.out.ctx).mono ?_; rintro e v12 ⟨ki, z9, hj, Ie, ie1, ie2, Ik, ik1, ik2, Ic, ic1, ic2, rfl, how, hb9⟩; obtain ⟨rfl, hjj, _⟩ := hj.1 ⟨JF.out, JZ.out⟩
       have PI : Hid (IsJ kf kz ki) := hjj; have RI := Lib.hid (RdP.of_own how); clear hj hjj how; have HKc := Lib.hid (HKc.out.later hb9); have R := Lib.hid (RdT.later R.out hb9); have RX := Lib.hid (RX.out.later hb9); have RY := Lib.hid (RY.out.later hb9); have RF := Lib.hid (RF.out.later hb9); have RG := Lib.hid (RG.out.later hb9); have RV := Lib.hid (RV.out.later hb9); have RS := Lib.hid (RS.out.later hb9); have RZ := Lib.hid (RZ.out.later hb9); clear hb9; clear c0 c1 c2 c3 c4 c5 c6 c7 c8 c9 c10 c11 c12 c13 c14 c15 c16 c17 c18 c19 c20 c21 c22 c23 c24 c25; obtain ⟨d, hd⟩ : ∃ g, g = v12.heap.size := ⟨_, rfl⟩; obtain ⟨v13, hv13⟩ : ∃ W, W = v12.alloc (.cells #[.slice Ie ie1 ie2, .slice Ik ik1 ik2, .slice Ic ic1 ic2] 33) := ⟨_, rfl⟩
       have hb9 : Below v12.heap.size v12 v13 := by rw [hv13]; exact Dt.box_below _ _ _
       have b0 : v13.cell? ⟨d, 0, none⟩ = some (.slice Ie ie1 ie2) := by rw [hv13, hd]; go_simp
       have b1 : v13.cell? ⟨d, 1, none⟩ = some (.slice Ik ik1 ik2) := by rw [hv13, hd]; go_simp
       have b2 : v13.cell? ⟨d, 2, none⟩ = some (.slice Ic ic1 ic2) := by rw [hv13, hd]; go_simp
       have HKc := Lib.hid (HKc.out.later hb9); have R := Lib.hid (RdT.later R.out hb9); have RX := Lib.hid (RX.out.later hb9); have RY := Lib.hid (RY.out.later hb9); have RF := Lib.hid (RF.out.later hb9); have RG := Lib.hid (RG.out.later hb9); have RV := Lib.hid (RV.out.later hb9); have RS := Lib.hid (RS.out.later hb9); have RZ := Lib.hid (RZ.out.later hb9); have RI := Lib.hid (RI.out.later hb9); clear hb9; have HKc := Lib.hid (((HKc.out.cons_of b2).cons_of b1).cons_of b0); have Hd := Lib.hid hd; have Hv13 := Lib.hid hv13; clear hd hv13 b0 b1 b2; have EZ : Hid ((oneT ⟨c, j, t2, 0⟩, kz.2) = kz) := Prod.ext KZ.out.symm rfl; have JI := Lib.hid (PI.out.right JF.out JZ.out)
       have NI : Hid (nodes ki.1 ≤ 66) := by
        have h := isj_nodes PI.out; rw [KZ.out, nodes_one] at h; have h2 := NF.out; unfold Hid; omega
       have EI : Hid (ki.1.es = [⟨c, j, t2, 0⟩]) := by
        refine reg_es (c := kf) (r := ki) (e := ⟨c, j, t2, 0⟩) (w := u6) (v := kz.2) JF.out H6.out HE2.out ?_ VZ.out ?_
        ·refine not_seen (c := (t, u)) (x := kx) (y := ky) (r := kf) (q := (c, j)) HST.out ?_ ?_ ?_
         ·show hasC u c j = false
          rw [has_dl HT.out HU.out.1, decide_eq_false (check_iff.1 HCK2.out).2.2]
         ·exact own_not HT.out H8.out.1 HD0.out VX.out (check_iff.1 HCK2.out).2.2 (fun h => HNE1.out ⟨h.1.symm, h.2.symm⟩)
         ·exact own_not HT.out H8.out.1 HD1.out VY.out (check_iff.1 HCK2.out).2.2 (fun h => HNE2.out ⟨h.1.symm, h.2.symm⟩)
        ·rw [EZ.out]
         exact PI.out
       have HVI := Lib.hid (vals_one (t := ki.1) (e := ⟨c, j, t2, 0⟩) JI.out.tree EI.out); have c0 := HKc.out.c0; have c1 := HKc.out.c1; have c2 := HKc.out.c2; have c3 := HKc.out.c3; have c4 := HKc.out.c4; have c5 := HKc.out.c5; have c6 := HKc.out.c6; have c7 := HKc.out.c7; have c8 := HKc.out.t8.c0; have c9 := HKc.out.t8.c1; have c10 := HKc.out.t8.c2; have c11 := HKc.out.t8.c3; have c12 := HKc.out.t8.c4; have c13 := HKc.out.t8.c5; have c14 := HKc.out.t8.c6; have c15 := HKc.out.t8.c7; have c16 := HKc.out.t8.t8.c0; have c17 := HKc.out.t8.t8.c1; have c18 := HKc.out.t8.t8.c2; have c19 := HKc.out.t8.t8.c3; have c20 := HKc.out.t8.t8.c4; have c21 := HKc.out.t8.t8.c5; have c22 := HKc.out.t8.t8.c6; have c23 := HKc.out.t8.t8.c7; have c24 := HKc.out.t8.t8.t8.c0; have c25 := HKc.out.t8.t8.t8.c1; have c26 := HKc.out.t8.t8.t8.c2; have c27 := HKc.out.t8.t8.t8.c3; have c28 := HKc.out.t8.t8.t8.c4; rw [Hv13.out] at c0 c1 c2 c3 c4 c5 c6 c7 c8 c9 c10 c11 c12 c13 c14 c15 c16 c17 c18 c19 c20 c21 c22 c23 c24 c25 c26 c27 c28
       rw [Hd.out] at c0 c1 c2; go_wp2_with fail; rw [← Hd.out, ← Hv13.out]; clear c0 c1 c2 c3 c4 c5 c6 c7 c8 c9 c10 c11 c12 c13 c14 c15 c16 c17 c18 c19 c20 c21 c22 c23 c24 c25 c26 c27 c28; refine wp_region_held_drew (S := fun W => W.cell? ⟨d, 0, none⟩ = some (.slice Ie ie1 ie2) ∧ W.cell? ⟨d, 1, none⟩ = some (.slice Ik ik1 ik2) ∧ W.cell? ⟨d, 2, none⟩ = some (.slice Ic ic1 ic2) ∧ W.cell? ⟨e, 0, none⟩ = some (.slice Ze ze1 ze2) ∧ W.cell? ⟨e, 1, none⟩ = some (.slice Zk zk1 zk2) ∧ W.cell? ⟨e, 2, none⟩ = some (.slice Zc zc1 zc2) ∧ W.cell? ⟨gh, 0, none⟩ = some (.slice Ge ge1 ge2) ∧ W.cell? ⟨gh, 1, none⟩ = some (.slice Gk gk1 gk2) ∧ W.cell? ⟨gh, 2, none⟩ = some (.slice Gc gc1 gc2) ∧ W.cell? ⟨gf, 0, none⟩ = some (.slice Fe fe1 fe2) ∧ W.cell? ⟨gf, 1, none⟩ = some (.slice Fk fk1 fk2) ∧ W.cell? ⟨gf, 2, none⟩ = some (.slice Fc fc1 fc2) ∧ W.cell? ⟨h, 0, none⟩ = some (.slice Ye ye1 ye2) ∧ W.cell? ⟨h, 1, none⟩ = some (.slice Yk yk1 yk2) ∧ W.cell? ⟨h, 2, none⟩ = some (.slice Yc yc1 yc2) ∧ W.cell? ⟨g, 0, none⟩ = some (.slice Xe xe1 xe2) ∧ W.cell? ⟨g, 1, none⟩ = some (.slice Xk xk1 xk2) ∧ W.cell? ⟨g, 2, none⟩ = some (.slice Xc xc1 xc2) ∧ W.cell? ⟨p, 0, none⟩ = some (.slice Ae ne ce) ∧ W.cell? ⟨p, 1, none⟩ = some (.slice Ak nk ck) ∧ W.cell? ⟨q, 0, none⟩ = some (.string t0) ∧ W.cell? ⟨q, 1, none⟩ = some (.string t1) ∧ W.cell? ⟨q, 2, none⟩ = some (.string t2) ∧ W.cell? ⟨s, 0, none⟩ = some (.int .i64 a) ∧ W.cell? ⟨s, 1, none⟩ = some (.int .i64 n) ∧ W.cell? ⟨s, 2, none⟩ = some (.int .i64 b) ∧ W.cell? ⟨s, 3, none⟩ = some (.int .i64 m) ∧ W.cell? ⟨s, 4, none⟩ = some (.int .i64 c) ∧ W.cell? ⟨s, 5, none⟩ = some (.int .i64 j)) (by kernel_rfl) (by have h9 := HKc.out.drew; exact ⟨h9.c0, h9.c1, h9.c2, h9.c3, h9.c4, h9.c5, h9.c6, h9.c7, h9.t8.c0, h9.t8.c1, h9.t8.c2, h9.t8.c3, h9.t8.c4, h9.t8.c5, h9.t8.c6, h9.t8.c7, h9.t8.t8.c0, h9.t8.t8.c1, h9.t8.t8.c2, h9.t8.t8.c3, h9.t8.t8.c4, h9.t8.t8.c5, h9.t8.t8.c6, h9.t8.t8.c7, h9.t8.t8.t8.c0, h9.t8.t8.t8.c1, h9.t8.t8.t8.c2, h9.t8.t8.t8.c3, h9.t8.t8.t8.c4⟩) (fun hHeld => ?_)
       obtain ⟨v14, hv14⟩ : ∃ v, v = v13.drew := ⟨_, rfl⟩
       have hb9 : Below v13.heap.size v13 v14 := by rw [hv14]; exact (Below.refl _ _).drew
       have HKc := Lib.hid (HKc.out.later hb9); have R := Lib.hid (RdT.later R.out hb9); have RX := Lib.hid (RX.out.later hb9); have RY := Lib.hid (RY.out.later hb9); have RF := Lib.hid (RF.out.later hb9); have RG := Lib.hid (RG.out.later hb9); have RV := Lib.hid (RV.out.later hb9); have RS := Lib.hid (RS.out.later hb9); have RZ := Lib.hid (RZ.out.later hb9); have RI := Lib.hid (RI.out.later hb9); clear hb9; rw [← hv14] at hHeld ⊢; clear hv14; refine Tk 0 141 ?_; refine Tk 1 142 ?_; refine Tk 2 143 ?_; refine Tk 3 144 ?_; refine Tk 4 145 ?_; refine Tk 5 146 ?_; refine Tk 6 147 ?_; refine Tk 7 148 ?_; refine Tk 8 149 ?_; refine Tk 10 151 ?_; refine Tc 9 (fun K hK => ?_); go_simp; (go_at_call 17; refine (rvalues_any ki.1 Ie Ik ie1 ik1 ie2 ik2 v14 [t2] 1 HVI.out rfl (LenT.few (by have := NI.out; omega)) (by have := NI.out; omega) RI.out.tree).mono ?_); rintro e v15 ⟨Ul, uc, rfl, hro, hb9⟩
       have RUL := hro; clear hro; have HKc := Lib.hid (HKc.out.later hb9); have R := Lib.hid (RdT.later R.out hb9); have RX := Lib.hid (RX.out.later hb9); have RY := Lib.hid (RY.out.later hb9); have RF := Lib.hid (RF.out.later hb9); have RG := Lib.hid (RG.out.later hb9); have RV := Lib.hid (RV.out.later hb9); have RS := Lib.hid (RS.out.later hb9); have RZ := Lib.hid (RZ.out.later hb9); have RI := Lib.hid (RI.out.later hb9); clear hb9; clear hHeld; refine Th hK ?_ (fun hHeld => ?_)
       ·exact ⟨HKc.out.c0, HKc.out.c1, HKc.out.c2, HKc.out.c3, HKc.out.c4, HKc.out.c5, HKc.out.c6, HKc.out.c7, HKc.out.t8.c0, HKc.out.t8.c1, HKc.out.t8.c2, HKc.out.t8.c3, HKc.out.t8.c4, HKc.out.t8.c5, HKc.out.t8.c6, HKc.out.t8.c7, HKc.out.t8.t8.c0, HKc.out.t8.t8.c1, HKc.out.t8.t8.c2, HKc.out.t8.t8.c3, HKc.out.t8.t8.c4, HKc.out.t8.t8.c5, HKc.out.t8.t8.c6, HKc.out.t8.t8.c7, HKc.out.t8.t8.t8.c0, HKc.out.t8.t8.t8.c1, HKc.out.t8.t8.t8.c2, HKc.out.t8.t8.t8.c3, HKc.out.t8.t8.t8.c4⟩
       clear hK K; refine Tc 11 (fun K hK => ?_); go_simp; (go_at_call 16; refine (refalike_any [t2] [t2] 1 1 Ul (some ⟨q, 2, none⟩) uc 1 v15 (by omega) RUL.out (rd_cells1 (by omega) (World.block_lt_of_cell? _ _ HKc.out.t8.t8.c6) HKc.out.t8.t8.c6) true (decide_eq_true rfl)).mono ?_); rintro e v16 ⟨rfl, hb9⟩; have HKc := Lib.hid (HKc.out.later hb9); have R := Lib.hid (RdT.later R.out hb9); have RX := Lib.hid (RX.out.later hb9); have RY := Lib.hid (RY.out.later hb9); have RF := Lib.hid (RF.out.later hb9); have RG := Lib.hid (RG.out.later hb9); have RV := Lib.hid (RV.out.later hb9); have RS := Lib.hid (RS.out.later hb9); have RZ := Lib.hid (RZ.out.later hb9); have RI := Lib.hid (RI.out.later hb9); have RUL := Lib.hid (RUL.out.later hb9); clear hb9; clear hHeld; refine Th hK ?_ (fun hHeld => ?_)
       ·exact ⟨HKc.out.c0, HKc.out.c1, HKc.out.c2, HKc.out.c3, HKc.out.c4, HKc.out.c5, HKc.out.c6, HKc.out.c7, HKc.out.t8.c0, HKc.out.t8.c1, HKc.out.t8.c2, HKc.out.t8.c3, HKc.out.t8.c4, HKc.out.t8.c5, HKc.out.t8.c6, HKc.out.t8.c7, HKc.out.t8.t8.c0, HKc.out.t8.t8.c1, HKc.out.t8.t8.c2, HKc.out.t8.t8.c3, HKc.out.t8.t8.c4, HKc.out.t8.t8.c5, HKc.out.t8.t8.c6, HKc.out.t8.t8.c7, HKc.out.t8.t8.t8.c0, HKc.out.t8.t8.t8.c1, HKc.out.t8.t8.t8.c2, HKc.out.t8.t8.t8.c3, HKc.out.t8.t8.t8.c4⟩
       clear hK K; refine Tk 12 153 ?_; refine Tk 13 6 ?_; refine wpAnyH_done (by kernel_rfl) ?_ _; clear hHeld; go_wp2_with fail; go_ret; exact ⟨by first | rfl | simp, HKc.out.below⟩
set_option maxRecDepth 100000 in
theorem lifted (os : Os) (started : os.Started) (H : Type) (enc : TypeId × Value → H) :
  ReturnsInHanded {} Tryz.checked os 6 .any (Rows.registerBothSpec.pre6 enc Tryz.prog Tryz.f6 Rows.registerBothRow.domain false) (Rows.registerBothSpec.post enc Tryz.prog Tryz.f6 false true false false) := by
 refine returnsInHanded_of_change_sized (C := Tryz.checked) own started (by kernel_rfl) Tryz.func6
  (ChangeSpec.witness6 (enc := enc) (C := Tryz.checked) false ⟨#[], #[.agg #[.slice none 0 0, .slice none 0 0], .agg #[.string ByteArray.empty, .string ByteArray.empty, .string ByteArray.empty], .agg #[.int .i64 0, .int .i64 0, .int .i64 0, .int .i64 0, .int .i64 0, .int .i64 0]], []⟩ 8 (by kernel_rfl) (by kernel_rfl) (by kernel_rfl) (by kernel_rfl)) ?_
 intro W base args ds gs before hval0 hW _ hsz0 _; have hval : ∀ (j : Nat) t v, Tryz.f6.params[j]? = some t → args[j]? = some v → Value.okWide Tryz.prog W .any base t v := hval0; have hW' := hW; obtain ⟨p, q, hA0, hV, rfl, hfz, hnd⟩ := hW; have hA : DataW.TrodAll enc Tryz.prog W 0 (fun _ => true) true Tryz.f6.params.toList args.toList ds p := hA0; rw [Tryz.params6] at hA hval; obtain ⟨v0, v1, v2, d0, d1, d2, p0, p1, p2, rfl, rfl, rfl, h0, h1, h2⟩ := trodAll_three hA; obtain ⟨rfl, rfl⟩ := trodVars_none hV; have hsz : (DataW.weightsEach Tryz.prog (25 :: 48 :: 49 :: _) (d0 :: d1 :: d2 :: _)).all (· ≤ reachBytes) = true := hsz0; obtain ⟨hw0, hsz⟩ := Tr.weights_head hsz; obtain ⟨t0, ae0, ak0, ne0, nk0, ce0, ck0, rfl, hr0, hl0⟩ := Tr.treeV_of_trod (hval 0 25 v0 rfl rfl) h0 hw0
 obtain ⟨sa1, sb1, sc1, rfl⟩ := texts3_of_trod (hval 1 48 v1 rfl rfl) h1; obtain ⟨x0, x1, x2, x3, x4, x5, rfl⟩ := dots3_of_trod (hval 2 49 v2 rfl rfl) h2; refine (walk_any t0 ae0 ak0 ne0 nk0 ce0 ck0 sa1 sb1 sc1 x0 x1 x2 x3 x4 x5 W hr0 hl0 ).mono fun e W' ⟨he, hb⟩ => ?_; subst he; exact ⟨_, rfl, law_post hW' (by kernel_rfl) rfl rfl rfl hb⟩
theorem proved : Rows.RegisterBothSaid :=
 OpenClaim.holds_of_wide 6 Tryz.f6 rfl rfl rfl rfl rfl rfl rfl ⟨rfl, rfl, rfl, rfl, rfl⟩ rfl rfl rfl rfl rfl (by kernel_rfl) Tryz.func6 (by kernel_rfl)
  (of_decide_eq_true (by kernel_rfl)) (by unfold Func.isWrapper; first | (rw [if_pos (by decide +kernel)]; kernel_rfl) | (rw [if_neg (by decide +kernel)]; exact ⟨rfl, rfl⟩))
  (fun os started H enc _ => lifted os started H enc)
#print axioms proved
end lawRegisterBoth
end Go.Proofs.YtnlojpolfkjkoaaGreat
