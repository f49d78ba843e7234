/- Layer 17: the document's Restart. -/
import Derived.Test.YtcffbgehopjgpaaTapeRef
namespace Go.Proofs.Ytcffbgehopjgpaa
open Go.ChangeShapes Go.WideShapes Go.ChangeAt Go.RowKit
namespace Tpe
open By
set_option maxRecDepth 100000
set_option maxHeartbeats 1000000
theorem tmod_of (k : Int) (m q : Nat) (hm : 1 ≤ m) (hq : k % (m : Int) = q) : k.tmod (m : Int) = (q : Int) ∨ ∃ r : Int, k.tmod (m : Int) = r ∧ r < 0 ∧ -(m : Int) < r ∧ r + m = q := by
  have hq2 : q < m := by have := Int.emod_lt_of_pos k (b := (m : Int)) (by omega); omega
  by_cases h : 0 ≤ k
  · left
    rw [Int.tmod_eq_emod_of_nonneg h]
    exact hq
  · have h1 := Int.tmod_eq_emod (a := k) (b := (m : Int))
    by_cases hd : (m : Int) ∣ k
    · rw [if_pos (.inr hd)] at h1
      left
      omega
    · have h2 : ¬ (0 ≤ k ∨ (m : Int) ∣ k) := by rintro (h4 | h4); exact h h4; exact hd h4
      rw [if_neg h2] at h1
      have h4 : ((m : Int).natAbs : Int) = m := by omega
      have h5 : k % (m : Int) ≠ 0 := fun e => hd (Int.dvd_of_emod_eq_zero e)
      right
      exact ⟨_, rfl, by omega, by omega, by omega⟩
section
variable {w : World} {ok : Nat → Prop} {A : Option Addr} {n c : Nat} {s : S}
/-- the two boxes that a call lays -/
theorem boxes_anyl (cap fu : Int) (A : Option Addr) (n c sf : Nat) (l : Bool) (w : World) : ∃ (p r : Nat) (W : World), Hid (p = w.heap.size) ∧ Hid (r = p + 1) ∧ Hid (W = (w.alloc (.cells #[.int .i64 cap, .slice A n c, .int .i64 sf, .int .i64 fu, .bool l] 33)).alloc (.cells #[.int .i64 0, .slice none 0 0, .int .i64 0, .int .i64 0, .bool false] 33)) ∧
    Hid (Kept [(⟨p, 0, none⟩, .int .i64 cap), (⟨p, 1, none⟩, .slice A n c), (⟨p, 2, none⟩, .int .i64 sf), (⟨p, 3, none⟩, .int .i64 fu), (⟨p, 4, none⟩, .bool l), (⟨r, 0, none⟩, .int .i64 0), (⟨r, 1, none⟩, .slice none 0 0), (⟨r, 2, none⟩, .int .i64 0), (⟨r, 3, none⟩, .int .i64 0), (⟨r, 4, none⟩, .bool false)] w W) ∧ Hid (Free r W) := by
  refine ⟨_, _, _, rfl, rfl, rfl, ?_, ⟨by simp, fun j => by go_simp⟩⟩
  refine ((((((((((Kept.nil_of (((Below.refl w.heap.size w).alloc (Nat.le_refl _) _).alloc (by simp) _)).cons_of ?_).cons_of ?_).cons_of ?_).cons_of ?_).cons_of ?_).cons_of ?_).cons_of ?_).cons_of ?_).cons_of ?_).cons_of ?_ <;> go_simp
theorem refrestart_none (k y : Int) (hok : ∀ x, w.heap.size ≤ x → ok x) (h : Rk w ok A n c s.bs) (hsf : s.sf ≤ n) (hn : n ≤ 70000) (h0 : stay s k = 0) (b : UInt8) :
    Calls Try.prog 20 #[docV s A n c, .int .i64 k, .int .u8 y] w fun e w' => ∃ v, e = .returned v ∧ DocIs ok (rst s k b) w w' v := by
  have hrs : rst s k b = ⟨s.cap, s.bs.take s.sf, s.sf, -1, false⟩ := by unfold rst left; rw [h0]; simp
  rw [hrs]
  obtain ⟨cap, bs, sf, fu, lz⟩ := s
  have hl := h.len
  have hq := stay_eq ⟨cap, bs, sf, fu, lz⟩ k
  have hqn := stay_le ⟨cap, bs, sf, fu, lz⟩ k
  unfold docV
  dsimp only at h hl hsf hq hqn ⊢
  rw [h0] at hq hqn
  obtain ⟨wt, hwt⟩ : ∃ wt : Nat, (n : Int) - (sf : Int) = (wt : Int) := ⟨n - sf, by omega⟩
  obtain ⟨m, hm⟩ : ∃ m : Nat, (wt : Int) + 1 = (m : Int) := ⟨wt + 1, by omega⟩
  have hmm : bs.length - sf + 1 = m := by omega
  rw [hmm] at hq
  have hm0 : m ≠ 0 := by omega
  have hm9 : m ≤ 70001 := by omega
  have HR := Lib.hid h
  have HL := Lib.hid hl
  have ht : k.tmod (m : Int) = 0 := by
    rcases tmod_of k m 0 (by omega) hq with h1 | ⟨r, _, h1, h2, h3⟩
    · exact h1
    · omega
  have hx : sf ≤ n := hsf
  have hlen : (bs.take sf).length = sf := by rw [List.length_take]; omega
  have hct := cut_to A n c sf (by have := h.rd.cap; omega)
  obtain ⟨p, r, W, HP, HRR, HW, HK, HFR⟩ := boxes_anyl cap fu A n c sf lz w
  have hrW : r < W.heap.size := HFR.out.1
  have hpW : p < W.heap.size := by have := HRR.out; omega
  have hHW := HR.out.later HK.out.below
  obtain ⟨A1, c1, w2, hrun1, ho1, hb1⟩ := run_new8 W (take8 hHW.rd hx) (Nat.le_refl _) (by omega)
  have Hrun1 := Lib.hid hrun1
  have hwr : w.heap.size ≤ r := by have h1 := HRR.out; have h2 := HP.out; omega
  have hws : W.heap.size = w.heap.size + 1 + 1 := by rw [HW.out]; simp
  have hpe := HP.out
  have hre := HRR.out
  subst hpe
  subst hre
  rw [hws, HW.out] at Hrun1
  have HBW : Hid (Below w.heap.size w w2) := HK.out.below.trans (hb1.mono HK.out.below.size)
  have HVS : Hid (w.heap.size ≤ W.heap.size) := HK.out.below.size
  have HO1 := Lib.hid ho1
  have z0 := (hb1.cell (p := ⟨w.heap.size + 1, 0, none⟩) hrW).trans (HK.out.c5)
  have m0 : w2.frozen? ⟨w.heap.size + 1, 0, none⟩ = false := (hb1.frozen (p := ⟨w.heap.size + 1, 0, none⟩) hrW).trans (HFR.out.2 0)
  have z1 := (hb1.cell (p := ⟨w.heap.size + 1, 1, none⟩) hrW).trans (HK.out.c6)
  have m1 : w2.frozen? ⟨w.heap.size + 1, 1, none⟩ = false := (hb1.frozen (p := ⟨w.heap.size + 1, 1, none⟩) hrW).trans (HFR.out.2 1)
  have z2 := (hb1.cell (p := ⟨w.heap.size + 1, 2, none⟩) hrW).trans (HK.out.c7)
  have m2 : w2.frozen? ⟨w.heap.size + 1, 2, none⟩ = false := (hb1.frozen (p := ⟨w.heap.size + 1, 2, none⟩) hrW).trans (HFR.out.2 2)
  have z3 := (hb1.cell (p := ⟨w.heap.size + 1, 3, none⟩) hrW).trans ((HK.out.t8).c0)
  have m3 : w2.frozen? ⟨w.heap.size + 1, 3, none⟩ = false := (hb1.frozen (p := ⟨w.heap.size + 1, 3, none⟩) hrW).trans (HFR.out.2 3)
  have z4 := (hb1.cell (p := ⟨w.heap.size + 1, 4, none⟩) hrW).trans ((HK.out.t8).c1)
  have m4 : w2.frozen? ⟨w.heap.size + 1, 4, none⟩ = false := (hb1.frozen (p := ⟨w.heap.size + 1, 4, none⟩) hrW).trans (HFR.out.2 4)
  have y0 := (hb1.cell (p := ⟨w.heap.size, 0, none⟩) hpW).trans HK.out.c0
  have HBX := HBW
  clear h hl hq hqn h0 hrs hmm hHW hrun1 ho1 hb1
  go_enter Try.func20, Try.ntmps20
  go_wp2_with (at_builtin; refine Lib.wpList_append_run _ rfl _ _ _ _ rfl _ _ rfl rfl _ _ Hrun1.out ?_)
  obtain ⟨w9, hw9⟩ : ∃ W9, W9 = ((((w2.setCell ⟨w.heap.size + 1, 0, none⟩ (.int .i64 cap)).setCell ⟨w.heap.size + 1, 1, none⟩ (.slice A1 sf c1)).setCell ⟨w.heap.size + 1, 2, none⟩ (.int .i64 sf)).setCell ⟨w.heap.size + 1, 3, none⟩ (.int .i64 (-1))).setCell ⟨w.heap.size + 1, 4, none⟩ (.bool false) := ⟨_, rfl⟩
  obtain ⟨l0, l1, l2, l3, l4⟩ := st5 hw9 z0 z1 z2 z3 z4
  have ho9 := own5 hw9 HO1.out hrW
  have hb9 := bel5 hw9 HBX.out hwr
  rw [← hw9]
  clear hw9
  exact bodyPost_ret (v := .agg #[.int .i64 cap, .slice A1 sf c1, .int .i64 sf, .int .i64 (-1), .bool false]) (by simp [results, Try.results20, go_sem, l0, l1, l2, l3, l4]) rfl ⟨_, rfl, _, _, _, rfl, hlen, Rk.of_own ho9 (fun x hx => hok x (Nat.le_trans HVS.out hx)), hb9⟩
theorem refrestart_some (k : Int) (hok : ∀ x, w.heap.size ≤ x → ok x) (h : Rk w ok A n c s.bs) (hsf : s.sf ≤ n) (hn : n ≤ 70000) (h0 : stay s k ≠ 0) (b : UInt8) :
    Calls Try.prog 20 #[docV s A n c, .int .i64 k, .int .u8 b.toNat] w fun e w' => ∃ v, e = .returned v ∧ DocIs ok (rst s k b) w w' v := by
  have hrs : rst s k b = ⟨s.cap, turn (s.bs.take (s.sf + stay s k)) b, s.sf + stay s k, -1, false⟩ := by unfold rst left; rw [if_neg h0]
  rw [hrs]
  obtain ⟨q, hqq⟩ : ∃ q, q = stay s k := ⟨_, rfl⟩
  obtain ⟨cap, bs, sf, fu, lz⟩ := s
  have hl := h.len
  have hq := stay_eq ⟨cap, bs, sf, fu, lz⟩ k
  have hqn := stay_le ⟨cap, bs, sf, fu, lz⟩ k
  unfold docV
  dsimp only at h hl hsf hq hqn ⊢
  rw [← hqq] at h0 hq hqn ⊢
  obtain ⟨wt, hwt⟩ : ∃ wt : Nat, (n : Int) - (sf : Int) = (wt : Int) := ⟨n - sf, by omega⟩
  obtain ⟨m, hm⟩ : ∃ m : Nat, (wt : Int) + 1 = (m : Int) := ⟨wt + 1, by omega⟩
  have hmm : bs.length - sf + 1 = m := by omega
  rw [hmm] at hq
  have hm0 : m ≠ 0 := by omega
  have hm9 : m ≤ 70001 := by omega
  have HR := Lib.hid h
  have HL := Lib.hid hl
  obtain ⟨x, hxe⟩ : ∃ x, x = sf + q := ⟨_, rfl⟩
  rw [← hxe]
  have hx : x ≤ n := by omega
  obtain ⟨e, he⟩ : ∃ e, e + 1 = x := ⟨x - 1, by omega⟩
  have hpz : (sf : Int) + (q : Int) = (x : Int) := by omega
  have hct := cut_to A n c x (by have := h.rd.cap; omega)
  have hlen : (turn (bs.take x) b).length = x := by rw [turn_len, List.length_take]; omega
  obtain ⟨p, r, W, HP, HRR, HW, HK, HFR⟩ := boxes_anyl cap fu A n c sf lz w
  have hrW : r < W.heap.size := HFR.out.1
  have hpW : p < W.heap.size := by have := HRR.out; omega
  have hHW := HR.out.later HK.out.below
  obtain ⟨A1, c1, w2, hrun1, ho1, hb1⟩ := run_new8 W (take8 hHW.rd hx) (Nat.le_refl _) (by omega)
  have Hrun1 := Lib.hid hrun1
  have hwr : w.heap.size ≤ r := by have h1 := HRR.out; have h2 := HP.out; omega
  have hws : W.heap.size = w.heap.size + 1 + 1 := by rw [HW.out]; simp
  have hpe := HP.out
  have hre := HRR.out
  subst hpe
  subst hre
  rw [hws, HW.out] at Hrun1
  have HBW : Hid (Below w.heap.size w w2) := HK.out.below.trans (hb1.mono HK.out.below.size)
  have HVS : Hid (w.heap.size ≤ W.heap.size) := HK.out.below.size
  have HO1 := Lib.hid ho1
  have z0 := (hb1.cell (p := ⟨w.heap.size + 1, 0, none⟩) hrW).trans (HK.out.c5)
  have m0 : w2.frozen? ⟨w.heap.size + 1, 0, none⟩ = false := (hb1.frozen (p := ⟨w.heap.size + 1, 0, none⟩) hrW).trans (HFR.out.2 0)
  have z1 := (hb1.cell (p := ⟨w.heap.size + 1, 1, none⟩) hrW).trans (HK.out.c6)
  have m1 : w2.frozen? ⟨w.heap.size + 1, 1, none⟩ = false := (hb1.frozen (p := ⟨w.heap.size + 1, 1, none⟩) hrW).trans (HFR.out.2 1)
  have z2 := (hb1.cell (p := ⟨w.heap.size + 1, 2, none⟩) hrW).trans (HK.out.c7)
  have m2 : w2.frozen? ⟨w.heap.size + 1, 2, none⟩ = false := (hb1.frozen (p := ⟨w.heap.size + 1, 2, none⟩) hrW).trans (HFR.out.2 2)
  have z3 := (hb1.cell (p := ⟨w.heap.size + 1, 3, none⟩) hrW).trans ((HK.out.t8).c0)
  have m3 : w2.frozen? ⟨w.heap.size + 1, 3, none⟩ = false := (hb1.frozen (p := ⟨w.heap.size + 1, 3, none⟩) hrW).trans (HFR.out.2 3)
  have z4 := (hb1.cell (p := ⟨w.heap.size + 1, 4, none⟩) hrW).trans ((HK.out.t8).c1)
  have m4 : w2.frozen? ⟨w.heap.size + 1, 4, none⟩ = false := (hb1.frozen (p := ⟨w.heap.size + 1, 4, none⟩) hrW).trans (HFR.out.2 4)
  have y0 := (hb1.cell (p := ⟨w.heap.size, 0, none⟩) hpW).trans HK.out.c0
  obtain ⟨bk, hA, hbl, hbs, hbf, hbc⟩ := row_place HO1.out (by omega)
  subst hA
  have hel : e < (bs.take x).length := by rw [List.length_take]; omega
  have hcx := hbc e _ (u8s_get _ e hel)
  obtain ⟨a, ha⟩ : ∃ a, a = (bs.take x)[e] := ⟨_, rfl⟩
  rw [← ha] at hcx
  have hxz := xor8 a b
  have htl : u8s (turn (bs.take x) b) = (u8s (bs.take x)).set e (.int .u8 (((a ^^^ b).toNat : Nat) : Int)) := by
    unfold turn u8s
    have h8 : (bs.take x).length - 1 = e := by rw [List.length_take]; omega
    rw [h8, List.getElem?_eq_getElem hel, ← ha, Option.getD_some, List.map_set]
  obtain ⟨xa, hxa⟩ : ∃ x, x = a.toNat := ⟨_, rfl⟩
  obtain ⟨yb, hyb⟩ : ∃ y, y = b.toNat := ⟨_, rfl⟩
  obtain ⟨z, hz⟩ : ∃ z, z = (a ^^^ b).toNat := ⟨_, rfl⟩
  have hxb : xa < 256 := by rw [hxa]; exact a.toNat_lt
  have hyb9 : yb < 256 := by rw [hyb]; exact b.toNat_lt
  rw [← hxa] at hcx hxz
  rw [← hyb] at hxz ⊢
  rw [← hz] at hxz htl
  have hfb := hbf e
  have hbr : bk ≠ w.heap.size + 1 := by omega
  have hbp : bk ≠ w.heap.size := by omega
  obtain ⟨w4, hw4⟩ : ∃ W, W = w2.setCell ⟨bk, e, none⟩ (.int .u8 z) := ⟨_, rfl⟩
  have HO4 : Hid (Own w4 W.heap.size 5 1 (some ⟨bk, 0, none⟩) x c1 (u8s (turn (bs.take x) b))) := by
    unfold Hid
    rw [hw4]
    refine ⟨?_, u8s_one _⟩
    rw [htl]
    exact row_set HO1.out.row e _
  have HBX : Hid (Below w.heap.size w w4) := by
    unfold Hid
    rw [hw4]
    exact HBW.out.setCell (p := ⟨bk, e, none⟩) (Nat.le_trans HVS.out hbl) _
  have x0 : w4.cell? ⟨w.heap.size + 1, 0, none⟩ = some (.int .i64 0) := by rw [hw4]; go_simp
  have x1 : w4.cell? ⟨w.heap.size + 1, 1, none⟩ = some (.slice none 0 0) := by rw [hw4]; go_simp
  have x2 : w4.cell? ⟨w.heap.size + 1, 2, none⟩ = some (.int .i64 0) := by rw [hw4]; go_simp
  have x3 : w4.cell? ⟨w.heap.size + 1, 3, none⟩ = some (.int .i64 0) := by rw [hw4]; go_simp
  have x4 : w4.cell? ⟨w.heap.size + 1, 4, none⟩ = some (.bool false) := by rw [hw4]; go_simp
  have HX := Lib.hid (And.intro x0 (And.intro x1 (And.intro x2 (And.intro x3 x4))))
  have HW4 := Lib.hid hw4
  have hre2 : (x : Int) - 1 = (e : Int) := by omega
  have her : e < x := by omega
  have hqz : 0 < q := by omega
  have htm := tmod_of k m q (by omega) hq
  have hqm : q < m := by omega
  clear h hl hq hqn h0 hrs hmm hHW hrun1 ho1 hb1 hbf hbc ha htl hxa hyb hz hw4 hel x0 x1 x2 x3 x4 hqq hxe he
  rcases htm with ht | ⟨r, ht, hr1, hr2, hr3⟩
  · go_enter Try.func20, Try.ntmps20
    go_wp2_with (at_builtin; refine Lib.wpList_append_run _ rfl _ _ _ _ rfl _ _ rfl rfl _ _ Hrun1.out ?_)
    obtain ⟨w9, hw9⟩ : ∃ W9, W9 = ((((w4.setCell ⟨w.heap.size + 1, 0, none⟩ (.int .i64 cap)).setCell ⟨w.heap.size + 1, 1, none⟩ (.slice (some ⟨bk, 0, none⟩) x c1)).setCell ⟨w.heap.size + 1, 2, none⟩ (.int .i64 x)).setCell ⟨w.heap.size + 1, 3, none⟩ (.int .i64 (-1))).setCell ⟨w.heap.size + 1, 4, none⟩ (.bool false) := ⟨_, rfl⟩
    obtain ⟨l0, l1, l2, l3, l4⟩ := st5 hw9 HX.out.1 HX.out.2.1 HX.out.2.2.1 HX.out.2.2.2.1 HX.out.2.2.2.2
    have ho9 := own5 hw9 HO4.out hrW
    have hb9 := bel5 hw9 HBX.out hwr
    rw [HW4.out] at hw9
    rw [← hw9]
    clear hw9
    exact bodyPost_ret (v := .agg #[.int .i64 cap, .slice (some ⟨bk, 0, none⟩) x c1, .int .i64 x, .int .i64 (-1), .bool false]) (by simp [results, Try.results20, go_sem, l0, l1, l2, l3, l4]) rfl ⟨_, rfl, _, _, _, rfl, hlen, Rk.of_own ho9 (fun x hx => hok x (Nat.le_trans HVS.out hx)), hb9⟩
  · have hf1 : r + (wt : Int) + 1 = (q : Int) := by omega
    have hf2 : decide (r < 0) = true := decide_eq_true hr1
    go_enter Try.func20, Try.ntmps20
    go_wp2_with (at_builtin; refine Lib.wpList_append_run _ rfl _ _ _ _ rfl _ _ rfl rfl _ _ Hrun1.out ?_)
    obtain ⟨w9, hw9⟩ : ∃ W9, W9 = ((((w4.setCell ⟨w.heap.size + 1, 0, none⟩ (.int .i64 cap)).setCell ⟨w.heap.size + 1, 1, none⟩ (.slice (some ⟨bk, 0, none⟩) x c1)).setCell ⟨w.heap.size + 1, 2, none⟩ (.int .i64 x)).setCell ⟨w.heap.size + 1, 3, none⟩ (.int .i64 (-1))).setCell ⟨w.heap.size + 1, 4, none⟩ (.bool false) := ⟨_, rfl⟩
    obtain ⟨l0, l1, l2, l3, l4⟩ := st5 hw9 HX.out.1 HX.out.2.1 HX.out.2.2.1 HX.out.2.2.2.1 HX.out.2.2.2.2
    have ho9 := own5 hw9 HO4.out hrW
    have hb9 := bel5 hw9 HBX.out hwr
    rw [HW4.out] at hw9
    rw [← hw9]
    clear hw9
    exact bodyPost_ret (v := .agg #[.int .i64 cap, .slice (some ⟨bk, 0, none⟩) x c1, .int .i64 x, .int .i64 (-1), .bool false]) (by simp [results, Try.results20, go_sem, l0, l1, l2, l3, l4]) rfl ⟨_, rfl, _, _, _, rfl, hlen, Rk.of_own ho9 (fun x hx => hok x (Nat.le_trans HVS.out hx)), hb9⟩
theorem refrestart_any (k : Int) (hok : ∀ x, w.heap.size ≤ x → ok x) (h : Rk w ok A n c s.bs) (hsf : s.sf ≤ n) (hn : n ≤ 70000) (b : UInt8) :
    Calls Try.prog 20 #[docV s A n c, .int .i64 k, .int .u8 b.toNat] w fun e w' => ∃ v, e = .returned v ∧ DocIs ok (rst s k b) w w' v := by
  by_cases h0 : stay s k = 0
  · exact refrestart_none k _ hok h hsf hn h0 b
  · exact refrestart_some k hok h hsf hn h0 b
end
end Tpe
end Go.Proofs.Ytcffbgehopjgpaa
